/- A part of the proof: what it leans on. -/
import Derived.WalkMore
import Derived.RegionTactic
import Derived.ChangeAlike
import Derived.Test.YtbjbjbpgmojcbabGreatLsBook12
set_option maxRecDepth 8000
set_option maxHeartbeats 8000000
namespace Go.Proofs.YtbjbjbpgmojcbabGreat
open Go.RowKit
theorem CpS.put2 {w0 wr w2:World} {C lo g cap n1 m n2:Nat} {v1 v2:Value} {xs1 ys xs2:List Value} {o:Obj} (h:CpS w0 wr C lo v1 v2 n1 n2 xs1 xs2) (hg:(wr.alloc o).grownBy w2 v2.ownBlock)
 (ho:w2.ownsRow lo 46 5 (.slice (some ⟨g,0,none⟩) m cap) m ys) (hl:v2.ownBlock=some g\/g=(wr.alloc o).heap.size) :
 (w2.cell? ⟨C,1,none⟩=some v2/\w2.frozen? ⟨C,1,none⟩=false)/\CpS w0 (w2.setCell ⟨C,1,none⟩ (.slice (some ⟨g,0,none⟩) m cap)) C lo v1 (.slice (some ⟨g,0,none⟩) m cap) n1 m xs1 ys:=by
 have hB:=h.hb;have hlC:=h.hC;have hsz:(wr.alloc o).heap.size=wr.heap.size+1:=by simp
 have ha:=h.below ((bR _ _).alloc (nl _) o);have n0:some C ≠ v2.ownBlock:=h.a2.symm;have k0:=Ze hg ha.c0 n0;have k1:=Ze hg ha.c1 n0;have q0:=Zr hg (by omega) ha.f0 n0;have q1:=Zr hg (by omega) ha.f1 n0;have hsg:=Zb w2 ⟨C,1,none⟩ (.slice (some ⟨g,0,none⟩) m cap);have hz:(wr.alloc o).heap.size<=w2.heap.size:=hg.size
 have hgC:g ≠ C:=by
  rcases hl with hl | hl
  ·rintro rfl;exact h.a2 hl
  ·omega
 refine ⟨⟨k1,q1⟩,?_,cS _ _ _ k1,by rw [World.frozen?_setCell];exact q0,by rw [World.frozen?_setCell];exact q1,?_,ho.kept hsg (.inr (by simp [Value.ownBlock];exact hgC)),?_,h.a1,by simp [Value.ownBlock];exact hgC,hlC,?_,?_⟩
 ·exact (cO w2 _ _ _ (by intro e;have:=congrArg Addr.off e;simp at this)).trans k0
 ·refine (ha.o1.kept hg ?_).kept hsg (.inr h.a1)
  cases hv:v1.ownBlock with
  | none=>exact .inl rfl
  | some j=>exact .inr (fun e=>h.ne j hv e.symm)
 ·intro j hj e;simp [Value.ownBlock] at e;subst e;rcases hl with hl | hl
  ·exact h.ne g hj hl
  ·have:=(h.o1.lt g hj).2;omega
 ·have:=hsg.size;omega
 ·exact ((h.bel.alloc (by omega) o).grown hg (by omega) (fun j hj=>(h.o2.lt j hj).1)).setCell hlC _
theorem CpS.mid2 {w0 wr w2:World} {C lo n1 n2:Nat} {v1 v2:Value} {xs1 xs2:List Value} {o:Obj} (h:CpS w0 wr C lo v1 v2 n1 n2 xs1 xs2) (hg:(wr.alloc o).grownBy w2 v2.ownBlock):w2.cell? ⟨C,0,none⟩=some v1/\Below lo w0 w2:=by
 have hB:=h.hb;have hlC:=h.hC;have hsz:(wr.alloc o).heap.size=wr.heap.size+1:=by simp
 have ha:=h.below ((bR _ _).alloc (nl _) o);exact ⟨Ze hg ha.c0 h.a2.symm,(h.bel.alloc (by omega) o).grown hg (by omega) (fun j hj=>(h.o2.lt j hj).1)⟩
theorem CpS.new1 {w0 wr:World} {lo g cap n:Nat} {xs:List Value} (hb:Below lo w0 wr) (hl:lo<=wr.heap.size) (h:wr.ownsRow lo 9 1 (.slice (some ⟨g,0,none⟩) n cap) n xs) :
 CpS w0 (wr.alloc (.cells #[.slice (some ⟨g,0,none⟩) n cap,.slice none 0 0] 25 (0,0))) wr.heap.size lo (.slice (some ⟨g,0,none⟩) n cap) (.slice none 0 0) n 0 xs []:=by
 have hg:=(h.lt g rfl).2;exact ⟨cN _ _ _ 0,cN _ _ _ 1,fN _ _ _ _ rfl,fN _ _ _ _ rfl,h.alloc _,⟨rfl,.inl ⟨rfl,rfl⟩⟩,fun j _ e=>by simp [Value.ownBlock] at e,by simp [Value.ownBlock];omega,by simp [Value.ownBlock],hl,by simp,hb.alloc hl _⟩
theorem CpS.new2 {w0 wr:World} {lo g cap n:Nat} {xs:List Value} (hb:Below lo w0 wr) (hl:lo<=wr.heap.size) (h:wr.ownsRow lo 46 5 (.slice (some ⟨g,0,none⟩) n cap) n xs) :
 CpS w0 (wr.alloc (.cells #[.slice none 0 0,.slice (some ⟨g,0,none⟩) n cap] 25 (0,0))) wr.heap.size lo (.slice none 0 0) (.slice (some ⟨g,0,none⟩) n cap) 0 n [] xs:=by
 have hg:=(h.lt g rfl).2;exact ⟨cN _ _ _ 0,cN _ _ _ 1,fN _ _ _ _ rfl,fN _ _ _ _ rfl,⟨rfl,.inl ⟨rfl,rfl⟩⟩,h.alloc _,fun j e _=>by simp [Value.ownBlock] at e,by simp [Value.ownBlock],by simp [Value.ownBlock];omega,hl,by simp,hb.alloc hl _⟩
theorem ZcO (w:World) (lo:Nat) (e:TypeId) (size:Nat) (hl:lo<=w.heap.size):(w.alloc (.cells #[] e (0,0))).ownsRow lo e size (.slice (some ⟨w.heap.size,0,none⟩) 0 0) 0 []:=by
 refine ⟨by simp,.inr ⟨w.heap.size,0,#[],rfl,hl,?_,nl _,Nat.zero_le _,by simp,by simp⟩⟩;show (w.heap.push (.cells #[] e (0,0)))[w.heap.size]?=_;simp
theorem ZjG (g o j:Nat):(⟨g,o,none⟩:Addr).add j=⟨g,o+j,none⟩:=by unfold Addr.add;split <;> simp_all
theorem TxSl.news {w:World} {ad:Option Addr} {l:List ByteArray} (h:TxSl w ad l):l.length=0\/∃ b,ad=some b/\∀ j u,(l.map Value.string)[j]?=some u->w.cell? (b.add j)=some u:=by
 rcases h with rfl | ⟨b,off,rfl,_,h⟩
 ·exact .inl rfl
 ·refine .inr ⟨_,rfl,fun j u hj=>?_⟩;rw [ZjG]
  have hl:j<l.length:=by
   rcases Nat.lt_or_ge j l.length with h9 | h9
   ·exact h9
   ·rw [List.getElem?_eq_none (by rw [List.length_map];exact h9)] at hj;cases hj
  rw [h j hl,<-hj];simp [Tr.xa,hl]
theorem Zak {p:Prop} (h:p):Hid p:=h
def Ar.anyK (fs:List Ar.F) (n:Int):Nat->Bool
 | 0=>false
 | k+1=>Ar.anyK fs n k || decide ((Ar.fa fs k).dict=n)
theorem ZmB {fs:List Ar.F} {n:Int}:∀ {k:Nat},k<=fs.length->(Ar.anyK fs n k=(fs.take k).any fun f=>decide (f.dict=n))
 | 0,_=>by simp [Ar.anyK]
 | k+1,h=>by
  rw [Ar.anyK,ZmB (by omega),Ar.ZQ (by omega),List.any_append];simp
theorem ZnT {a:Ar.A} {n:Int}:Ar.anyK a.files n a.files.length=Ar.used a n:=by
 rw [ZmB (Nat.le_refl _),List.take_length];rfl
theorem Znd:∀ (fs:List Ar.F) (i r:Nat),i<fs.length->r<5->(fcs fs)[i*5+r]?=(fc (Ar.fa fs i))[r]?
 | f :: fs,0,r,_,hr=>by
  rw [fcs,List.getElem?_append_left (by simp;omega)];simp only [Nat.zero_mul,Nat.zero_add];rfl
 | f :: fs,i+1,r,h,hr=>by
  have ih:=Znd fs i r (by simpa using h) hr;rw [fcs,List.getElem?_append_right (by simp;omega)];have e:(i+1)*5+r - ([.string f.name,.int .i64 f.dict,.int .i64 f.size,.int .i64 f.sum,.string f.blk]:List Value).length=i*5+r:=by simp;omega
  rw [e,ih];rfl
theorem FlSl.news {w:World} {ad:Option Addr} {l:List Ar.F} (h:FlSl w ad l):l.length=0\/∃ b,ad=some b/\∀ j u,(fcs l)[j]?=some u->w.cell? (b.add j)=some u:=by
 rcases h with rfl | ⟨b,off,rfl,_,h⟩
 ·exact .inl rfl
 ·refine .inr ⟨_,rfl,fun j u hj=>?_⟩;rw [ZjG]
  have hl:j<l.length*5:=by
   rcases Nat.lt_or_ge j (l.length*5) with h9 | h9
   ·exact h9
   ·rw [List.getElem?_eq_none (by rw [Zah];exact h9)] at hj;cases hj
  have hi:j / 5<l.length:=by omega
  have e:j=j / 5*5+j % 5:=by omega
  have hr:j % 5<5:=by omega
  obtain ⟨c0,c1,c2,c3,c4⟩:=h (j / 5) hi;rw [e,Znd l (j / 5) (j % 5) hi hr] at hj;rw [e,<-Nat.add_assoc];generalize j / 5=i at *;generalize j % 5=r at *
  match r,hr with
  | 0,_=>rw [Nat.add_zero,c0];exact hj
  | 1,_=>rw [c1];exact hj
  | 2,_=>rw [c2];exact hj
  | 3,_=>rw [c3];exact hj
  | 4,_=>rw [c4];exact hj
theorem ZqQ (a:Ar.A):a.files.map (Ar.cpF a 0)=a.files:=by
 conv=>rhs;rw [<-List.map_id a.files]
 refine List.map_congr_left (fun f _=>?_);unfold Ar.cpF;rw [if_neg (by omega)];rfl
namespace Im
theorem ZpN {s r q:ByteArray} {k:Nat} {x:Act} (hr:s.extract k s.size=r) (h:rAct r=some (x,q)):q.size<r.size/\r.size=s.size - k/\s.extract (k+(r.size - q.size)) s.size=q:=by
 obtain ⟨_,h2⟩:=(Zgl r x q).1 h;have hl:=congrArg List.length h2;rw [List.length_append,<-Zj,<-Zj] at hl;have hp:0<(actB x).length:=List.length_pos_iff.2 (Zjk x);have hz:r.size=s.size - k:=by rw [<-hr];simp
 refine ⟨by omega,hz,?_⟩;apply Nm.ZG;rw [Zap,<-List.drop_drop,<-Zap s k,hr,h2,show r.size - q.size=(actB x).length by omega];simp
end Im
def RpSaid (l:List Im.Act) (n:Nat) (E:Int) (w:World) (e:Ending) (w':World):Prop:=∃ v,e=.returned (.tuple #[v,.int .i64 (n:Nat),.int .i64 E])/\w'.ownsRow w.heap.size 54 4 v l.length (xcs l)/\Below w.heap.size w w'
theorem Zdh (s:ByteArray) (w:World) :
 Calls Tryz.prog 42 #[.string s] w fun e w'=>RpSaid (Im.rplL s) (Im.rplN s) (Im.rplE s) w e w':=by
 by_cases hbig:16384<s.size
 ·have e1:Im.rplL s=[]:=if_pos hbig;have e2:Im.rplN s=0:=if_pos hbig;have e3:Im.rplE s=2:=if_pos hbig;rw [e1,e2,e3];have d1:decide ((16384:Int)<(s.size:Int))=true:=zdT (by omega)
  have hq:RpSaid [] 0 2 w (.returned (.tuple #[.slice none 0 0,.int .i64 0,.int .i64 2])) w:=⟨_,rfl,World.ownsRow_nil _ _ _ _,bR _ _⟩
  generalize RpSaid [] 0 2 w=Q at *;clear e1 e2 e3;go_enter Tryz.func42,Tryz.ntmps42
  go_wp2_with fail
  go_step3
  go_wp2_with fail
  rw [Exit.noGoto_ret];go_ret3
  exact hq
 ·obtain ⟨j0,gi,gz0,gz1,gz2⟩:=info_parts (P:=Tryz.prog) (e:=54) (z:=.agg #[.int .i64 0,.int .i64 0,.string ⟨#[]⟩,.string ⟨#[]⟩]) (size:=4) (bytes:=48) (by kernel_rfl);have e1:Im.rplL s=(Im.rep 100 s).1:=if_neg hbig;have e2:Im.rplN s=s.size - (Im.rep 100 s).2.size:=if_neg hbig;have e3:Im.rplE s=0:=if_neg hbig;rw [e1,e2,e3];have d1:decide ((16384:Int)<(s.size:Int))=false:=dF (by omega);have hs:s.size<=16384:=by omega
  have HQ:Hid (∀ (l:List Im.Act) (k:Nat) (r:ByteArray),s.extract k s.size=r->k<=s.size->Im.rep 100 s=(l,r)->∀ v w',w'.ownsRow w.heap.size 54 4 v l.length (xcs l)->Below w.heap.size w w'->RpSaid (Im.rep 100 s).1 (s.size - (Im.rep 100 s).2.size) 0 w (.returned (.tuple #[v,.int .i64 (k:Nat),.int .i64 0])) w'):=fun l k r h1 h2 h3 v w' h4 h5=>by
   have hz:r.size=s.size - k:=by rw [<-h1];simp
   rw [h3];exact ⟨v,by simp only;rw [show s.size - r.size=k by omega],h4,h5⟩
  generalize RpSaid (Im.rep 100 s).1 (s.size - (Im.rep 100 s).2.size) 0 w=Q at *;clear e1 e2 e3 hbig;go_enter Tryz.func42,Tryz.ntmps42
  go_wp2_with fail
  go_step3
  go_wp2_with fail
  go_step3
  go_wp2_with fail
  go_loopw [5,6] (fun v i wr=>∃ (l:List Im.Act) (k:Nat) (r:ByteArray),i=.int .i64 k/\Hid (s.extract k s.size=r)/\k<=s.size/\l.length<=100/\Hid (Im.rep 100 s=(l++(Im.rep (100 - l.length) r).1,(Im.rep (100 - l.length) r).2))/\wr.ownsRow w.heap.size 54 4 v l.length (xcs l)/\Below w.heap.size w wr) (fun _ i _=>s.size - (intOf i).toNat)
  case atStart=>exact ⟨[],0,s,rfl,by show _=_;apply Nm.ZG;rw [Im.Zap];rfl,by omega,by simp,rfl,World.ownsRow_nil _ _ _ _,bR _ _⟩
  case round =>
   obtain ⟨l,k,r,rfl,HR,hk,hl,HP,O,B⟩:=hrel;obtain ⟨x,c,rfl,_⟩:=Zk O;have hki:(k:Int)<=(s.size:Int):=by omega
   by_cases hlt:l.length<100
   ·have d2:decide ((l.length:Int)<100)=true:=zdT (by omega);have d2':decide (l.length<100)=true:=zdT hlt;have hr:=HR.out;have hrz:r.size<=281474976710656:=by rw [<-hr];simp;omega
    cases ha:Im.rAct r with
    | none =>
     have C:=fun w=>ZlI r w hrz ha
     have HF:=Zak (Im.ZjX HP.out ha);clear ha HP;have HS:Hid (xcs l=xcs l):=rfl;go_wp2_with fail
     refine (C _).mono ?_;rintro e w1 ⟨rfl,G⟩;have GA:=Za w1 (.cells #[.int .i64 0,.int .i64 0,.string ⟨#[]⟩,.string ⟨#[]⟩] 54 (0,0));have hq:=HQ.out l k r HR.out hk HF.out _ _ (Zh (Zh O G) GA) (bch (bch B G (nl _)) GA (nl _));clear C O B G HQ HF HR;go_wp2_with fail
     rw [Exit.noGoto_ret];go_ret3
     exact hq
    | some y =>
     obtain ⟨⟨ak,an,nm,tx⟩,q⟩:=y;obtain ⟨q1,q2,q3⟩:=Im.ZpN hr ha;have C:=fun w=>ZlF r q ak an nm tx w hrz ha
     have HF:=Zak (Im.Zjs HP.out hlt ha);have hdn:(r.size:Int) - (q.size:Int)=((r.size - q.size:Nat):Int):=by omega
     simp only [hdn] at C;have hqs:q.size<=r.size:=by omega
     have HR':=Zak q3;have h1:0<r.size - q.size:=by omega
     have h2:k+(r.size - q.size)<=s.size:=by omega
     clear hdn ha HP q3;generalize r.size - q.size=dn at *;have d3:((dn:Int) == 0)=false:=by simp;omega
     have d3':(dn == 0)=false:=by simp;omega
     go_wp2_with fail
     refine (C _).mono ?_;rintro e w1 ⟨rfl,G⟩;have GA:=Za w1 (.cells #[.int .i64 ak,.int .i64 an,.string nm,.string tx] 54 (0,0));have O2:=Zh (Zh O G) GA;have B2:=bch (bch B G (nl _)) GA (nl _);have X2:=XB.new w1 54 ak an nm tx;clear C O B G GA HR hr;obtain ⟨x0,x1,x2,x3,_⟩:=id X2;have hb2:=B2.size;have hsz:(w1.alloc (.cells #[.int .i64 ak,.int .i64 an,.string nm,.string tx] 54 (0,0))).heap.size=w1.heap.size+1:=by simp
     have hnw:=ZuP (w1.alloc (.cells #[.int .i64 ak,.int .i64 an,.string nm,.string tx] 54 (0,0))) (.int .i64 ak) (.int .i64 an) (.string nm) (.string tx) 54;rw [hsz] at hnw hb2;clear hsz;have HS:Hid (xcs (l++[⟨ak,an,nm,tx⟩])=xcs l++[.int .i64 ak,.int .i64 an,.string nm,.string tx]):=by show _=_;rw [Zdo];rfl
     go_wp2_with (first
      | (at_builtin;go_must (refine zwL _ rfl _ _ 60 rfl w.heap.size 54 j0 (.agg #[.int .i64 0,.int .i64 0,.string ⟨#[]⟩,.string ⟨#[]⟩]) 4 48 U60 gi gz0 gz1 gz2 rfl (by decide) _ _ _ rfl (O2.alloc _) ⟨w1.heap.size+1,0,none⟩ 1 1 [.int .i64 ak,.int .i64 an,.string nm,.string tx] rfl rfl hnw (one4 _ _ _ _) (by decide) (by unfold maxLen;omega) (by omega) (by simp;omega) _ rfl ?_;intro g cp w7 hown hgrow hat hlt7))
      | fail)
     have B3:Below w.heap.size w w7:=(B2.alloc (by simp;omega) _).grown hgrow (by simp;omega) (fun j hj=>(O2.lt j hj).1);go_roundw
     case rel=>exact ⟨l++[⟨ak,an,nm,tx⟩],k+dn,q,by go_num,HR',by omega,by simp;omega,HF,by rw [HS.out];simpa using hown,B3⟩
     case measure=>simp [intOf];omega
   ·have h100:l.length=100:=by omega
    have d2:decide ((l.length:Int)<100)=false:=dF (by omega);have d2':decide (l.length<100)=false:=dF hlt;have hq:=HQ.out l k r HR.out hk (Im.Zjl HP.out (by omega)) _ _ O B;clear HQ HP HR O h100;go_wp2_with fail
    rw [Exit.noGoto_ret];go_ret3
    exact hq
namespace Tr
def fnK (L:List ByteArray) (d:ByteArray):Nat->Option Nat
 | 0=>none
 | k+1=>match fnK L d k with
  | some i=>some i
  | none=>if st (xa L k) d=true then none else some k
theorem Zph {L:List ByteArray} {d:ByteArray} {k i:Nat} (h:fnK L d k=some i):∀ j,fnK L d (k+j)=some i:=by
 intro j
 induction j with
 | zero=>exact h
 | succ j ih=>rw [<-Nat.add_assoc,fnK,ih]
theorem Zgi {L:List ByteArray} {d:ByteArray}:∀ {k:Nat},(match fnK L d k with | none=>∀ j,j<k->st (xa L j) d=true | some i=>i<k/\st (xa L i) d=false/\∀ j,j<i->st (xa L j) d=true)
 | 0=>by intro j h;omega
 | k+1=>by
  have ih:=Zgi (L:=L) (d:=d) (k:=k);rw [fnK]
  cases h:fnK L d k with
  | some i=>rw [h] at ih;exact ⟨by have:=ih.1;omega,ih.2⟩
  | none =>
   rw [h] at ih;simp only at ih |-
   by_cases hs:st (xa L k) d=true
   ·rw [if_pos hs];intro j hj;by_cases e:j=k
    ·subst e;exact hs
    ·exact ih j (by omega)
   ·rw [if_neg hs];exact ⟨by omega,by simpa using hs,ih⟩
def fix (L:List ByteArray) (d:ByteArray):Int:=match fnK L d L.length with | none=>-1 | some i=>(i:Int)
end Tr
theorem Znf (p d:ByteArray) (bx:Nat) (w:World) (hc:w.cell? ⟨bx,0,none⟩=some (.string d)) (hM:Mx w) (hd:d.size<=4000000000) (hp:0<p.size) :
 Calls Tryz.prog 106 #[.string p,.pointer (some ⟨bx,0,none⟩)] w fun e w'=>e=.returned (.bool (!Tr.st p d))/\w'=w:=by
 have c1:=Zhf d p w hM hd hp;generalize Tr.st p d=r at *;go_enter Tryz.func106,Tryz.ntmps106
 go_wp2_with fail
 refine c1.mono ?_;rintro e w2 ⟨rfl,rfl⟩;go_wp2_with fail
 go_ret
 exact ⟨rfl,rfl⟩
theorem Zgt (L:List ByteArray) (d:ByteArray) (b off cap bx:Nat) (w:World) (hx:Tr.TxAt w b off L) (hn:L.length<=100000) (hc:w.cell? ⟨bx,0,none⟩=some (.string d)) (hM:Mx w) (hd:d.size<=4000000000) (hp:∀ i,i<L.length->(Tr.xa L i).size=4) :
 Calls Tryz.prog 105 #[.slice (some ⟨b,off,none⟩) L.length cap,.func (.func 106) #[] #[.pointer (some ⟨bx,0,none⟩)]] w fun e w'=>e=.returned (.int .i64 (Tr.fix L d))/\w'=w:=by
 have HX:Hid (∀ i,i<L.length->w.cell? ⟨b,off+i,none⟩=some (.string (Tr.xa L i))):=hx.2;have HP:Hid (∀ i,i<L.length->Calls Tryz.prog 106 #[.string (Tr.xa L i),.pointer (some ⟨bx,0,none⟩)] w fun e w'=>e=.returned (.bool (!Tr.st (Tr.xa L i) d))/\w'=w):=fun i hi=>Znf _ d bx w hc hM hd (by rw [hp i hi];omega)
 clear hp hc hM hx
 obtain ⟨r,hr⟩:∃ r,Tr.fix L d=r:=⟨_,rfl⟩
 rw [hr];have Hr:Hid ((match Tr.fnK L d L.length with | none=>(-1:Int) | some i=>(i:Int))=r):=hr;clear hr;go_enter Tryz.func105,Tryz.ntmps105
 go_wp2_with fail
 go_loopw [8] (fun i wr=>∃ k:Nat,k<=L.length/\i=.int .i64 k/\Hid (Tr.fnK L d k=none)/\wr=w) (fun i _=>L.length - (intOf i).toNat)
 case atStart=>exact ⟨0,by omega,rfl,rfl,rfl⟩
 case round =>
  obtain ⟨k,hk2,rfl,HL,rfl⟩:=hrel;by_cases hlt:k<L.length
  ·have d1:decide ((k:Int)<(L.length:Int))=true:=by simp;omega
   have d1':decide (k<L.length)=true:=by simp;omega
   have hki:(k:Int)<(L.length:Int):=by omega
   have c1:=HX.out k hlt;have c2:=HP.out k hlt
   cases hs:Tr.st (Tr.xa L k) d with
   | false =>
    have HN:Hid (Tr.fnK L d (k+1)=some k):=by show _=_;rw [Tr.fnK,HL.out];simp only;rw [hs];rfl
    have HR:Hid ((k:Int)=r):=by
     have h9:=Tr.Zph HN.out (L.length - (k+1));rw [show k+1+(L.length - (k+1))=L.length by omega] at h9;have:=Hr.out;rw [h9] at this;exact this
    rw [hs] at c2;generalize Tr.xa L k=X at *;clear HN hs;go_wp2_with fail
    refine c2.mono ?_;rintro e w2 ⟨rfl,rfl⟩;go_wp2_with fail
    go_ret
    exact ⟨congrArg (fun x=>Ending.returned (Value.int .i64 x)) HR.out,rfl⟩
   | true =>
    have HN:Hid (Tr.fnK L d (k+1)=none):=by show _=_;rw [Tr.fnK,HL.out];exact if_pos hs
    rw [hs] at c2;generalize Tr.xa L k=X at *;clear hs;go_wp2_with fail
    refine c2.mono ?_;rintro e w2 ⟨rfl,rfl⟩;go_wp2_with fail
    go_roundw
    case rel=>exact ⟨k+1,by omega,by go_num,HN,by trivial⟩
    case measure=>simp [intOf];omega
  ·obtain rfl:k=L.length:=by omega
   have HR:Hid ((-1:Int)=r):=by have:=Hr.out;rw [HL.out] at this;exact this
   have d1:decide ((L.length:Int)<(L.length:Int))=false:=by simp
   clear Hr;go_wp2_with fail
   go_ret
   exact ⟨congrArg (fun x=>Ending.returned (Value.int .i64 x)) HR.out,rfl⟩
theorem Zhh (ad:Option Addr) (cap:Nat) (fv:Value) (w:World) :
 Calls Tryz.prog 105 #[.slice ad 0 cap,fv] w fun e w'=>e=.returned (.int .i64 (-1))/\w'=w:=by
 go_enter Tryz.func105,Tryz.ntmps105
 go_wp2_with fail
 go_loopw [8] (fun i wr=>i=.int .i64 0/\wr=w) (fun i _=>0)
 case atStart=>exact ⟨rfl,rfl⟩
 case round =>
  obtain ⟨rfl,rfl⟩:=hrel;go_wp2_with fail
  go_ret
  exact ⟨rfl,rfl⟩
theorem Zhk (lo:Nat) (L:List ByteArray) (d:ByteArray) (ad:Option Addr) (cap bx:Nat) (w:World) (hx:Tr.TxFar lo w ad L) (hn:L.length<=100000) (hc:w.cell? ⟨bx,0,none⟩=some (.string d)) (hM:Mx w) (hd:d.size<=4000000000) (hp:∀ i,i<L.length->(Tr.xa L i).size=4) :
 Calls Tryz.prog 105 #[.slice ad L.length cap,.func (.func 106) #[] #[.pointer (some ⟨bx,0,none⟩)]] w fun e w'=>e=.returned (.int .i64 (Tr.fix L d))/\w'=w:=by
 rcases hx with rfl | ⟨b,off,rfl,_,h2⟩
 ·exact Zhh ad cap _ w
 ·exact Zgt L d b off cap bx w h2 hn hc hM hd hp
namespace Tr
theorem TxFar.set {lo:Nat} {w:World} {ad:Option Addr} {xs:List ByteArray} (h:TxFar lo w ad xs) {bx:Nat} (hb:bx<lo) (v:Value):TxFar lo (w.setCell ⟨bx,0,none⟩ v) ad xs:=by
 rcases h with h | ⟨b,off,h1,h2,h3⟩
 ·exact .inl h
 ·refine .inr ⟨b,off,h1,h2,by simpa using h3.1,fun i hi=>?_⟩;exact (cO w _ _ _ (by intro e;have:=congrArg Addr.block e;simp at this;omega)).trans (h3.2 i hi)
theorem TxFar.drop {lo:Nat} {w:World} {b off:Nat} {xs:List ByteArray} (h2:lo<=b) (h:TxAt w b off xs) (j:Nat):TxFar lo w (some ⟨b,off+j,none⟩) (xs.drop j):=by
 refine .inr ⟨b,off+j,rfl,h2,h.1,fun i hi=>?_⟩;rw [List.length_drop] at hi;rw [show off+j+i=off+(j+i) by omega,h.2 (j+i) (by omega)];simp [xa]
def slen:Value->Nat
 | .slice _ n _=>n
 | _=>0
theorem ZcU {L:List ByteArray} {i:Nat} (h:i<L.length):xa L i=L[i]:=by simp [xa,h]
theorem ZtB {xs pre P:List ByteArray} {d:ByteArray} (h:Rk xs (pre++P)) (hpre:∀ p,p ∈ pre->st p d=true) {i:Nat} (hf:fnK P d P.length=some i) :
 i<P.length/\best xs d=xa P i/\(xa P i).size=4/\(∀ p,p ∈ pre++P.take (i+1)->st p (xa P i++d)=true):=by
 have hs:=Zgi (L:=P) (d:=d) (k:=P.length);rw [hf] at hs;obtain ⟨h1,h2,h3⟩:=hs;have hm:xa P i ∈ pre++P:=by rw [ZcU h1];exact List.mem_append_right _ (gM h1)
 have h4:=((h.2 _).1 hm).1;refine ⟨h1,?_,h4,?_⟩
 ·have hi:pre.length+i<(pre++P).length:=by rw [List.length_append];omega
  have e:(pre++P)[pre.length+i]=xa P i:=by rw [ZcU h1,List.getElem_append_right (by omega)];simp
  rw [<-e];refine Zqy h hi (by rw [e];exact h2) fun k hk=>?_
  by_cases hk2:k<pre.length
  ·rw [List.getElem_append_left hk2];exact hpre _ (gM hk2)
  ·rw [List.getElem_append_right (by omega),<-ZcU];exact h3 _ (by omega)
 ·intro p hp;rw [List.mem_append] at hp;rcases hp with hp | hp
  ·exact ZgH (hpre p hp)
  ·obtain ⟨k,hk,rfl⟩:=List.mem_iff_getElem.1 hp;rw [List.length_take] at hk;rw [List.getElem_take,<-ZcU];by_cases e:k=i
   ·subst e;exact Zue _ _
   ·exact ZgH (h3 k (by omega))
theorem Zso {xs pre P:List ByteArray} {d:ByteArray} (h:Rk xs (pre++P)) (hpre:∀ p,p ∈ pre->st p d=true) (hf:fnK P d P.length=none):(best xs d).size=0:=by
 have hs:=Zgi (L:=P) (d:=d) (k:=P.length);rw [hf] at hs;refine ZsZ h fun k hk=>?_
 by_cases hk2:k<pre.length
 ·rw [List.getElem_append_left hk2];exact hpre _ (gM hk2)
 ·rw [List.length_append] at hk;rw [List.getElem_append_right (by omega),<-ZcU];exact hs _ (by omega)
theorem Zls {xs:List ByteArray} (h:many xs=false):xs.length<=12/\∀ i,(xa xs i).size<=512:=by
 rw [many,Bool.or_eq_false_iff,decide_eq_false_iff_not] at h;refine ⟨by omega,fun i=>?_⟩;apply Nat.le_of_not_lt;intro hlt;by_cases hi:i<xs.length
 ·have:∀ k,i<k->(lgK xs k).isSome=true:=by
   intro k hk
   induction k with
   | zero=>omega
   | succ k ih =>
    rw [lgK];by_cases e:i=k
    ·subst e
     cases lgK xs i with
     | some _=>rfl
     | none=>simp only;rw [if_pos hlt];rfl
    ·have:=ih (by omega)
     cases hq:lgK xs k with
     | some _=>rfl
     | none=>rw [hq] at this;cases this
  rw [this _ hi] at h
  cases h.2
 ·have:xa xs i=⟨#[]⟩:=by simp [xa,show xs.length<=i by omega]
  rw [this] at hlt;have:(⟨#[]⟩:ByteArray).size=0:=rfl;omega
end Tr
theorem ZoR (xs:List ByteArray) (size:Int) (ad:Option Addr) (cap:Nat) (w:World) (hx:TxSl w ad xs) (hB:∀ i,(Tr.xa xs i).size<=140737488355328) (hM:Mx w) (hm:Tr.many xs=false) (h0:0<=size) (h1:size<=256) :
 Calls Tryz.prog 66 #[.slice ad xs.length cap,.int .i64 size] w fun e w'=>e=.returned (.tuple #[.string (Tr.trn xs size.toNat),.int .i64 0])/\Below w.heap.size w w':=by
 obtain ⟨hn,hX⟩:=Tr.Zls hm;have c1:=Zcj xs ad cap w hx hB;rw [hm] at c1;have HR:Hid (∀ w',Below w.heap.size w w'->Calls Tryz.prog 104 #[.slice ad xs.length cap] w' fun e w2=>∃ ad' cap' L,e=.returned (.slice ad' (L:List ByteArray).length cap')/\L.length<=cap'/\L.length<=6144/\Tr.TxFar w'.heap.size w2 ad' L/\Tr.Rk xs L/\Below w'.heap.size w' w2):=fun w' hb=>Zlp xs ad cap w' (hx.below hb) hn hX (hM.below hb)
 have HM:Hid (∀ w',Below w.heap.size w w'->Mx w'):=fun w' hb=>hM.below hb
 have d1:decide (size<0)=false:=dF (by omega);have d2:decide ((256:Int)<size)=false:=dF (by omega);have HG:=Tr.Zgf xs size.toNat
 obtain ⟨R,hR⟩:∃ R,Tr.trn xs size.toNat=R:=⟨_,rfl⟩
 rw [hR] at HG |-
 have HR0:Hid (Tr.tro xs size.toNat 65 ⟨#[]⟩=R):=hR;have hRs:R.size<=256:=by have:=HG.most;omega
 clear hX hx hB hM hm hR HG;go_enter Tryz.func66,Tryz.ntmps66
 go_wp2_with fail
 refine c1.mono ?_;rintro e w1 ⟨rfl,B1⟩;clear c1;have c2:=HR.out (w1.alloc (.cells #[.string ⟨#[]⟩] 9 (0,0))) (B1.alloc B1.size _);go_wp2_with fail
 refine c2.mono ?_;rintro e w2 ⟨ad',cap',L,rfl,hLc,hL6,hT,hRk,B2⟩;clear c2 HR
 have hcx:w2.cell? ⟨w1.heap.size,0,none⟩=some (.string ⟨#[]⟩):=by
  rw [B2.cell (p:=⟨w1.heap.size,0,none⟩) (by simp)];exact cell_one_new _ _ _ 0 _ rfl
 have hfx:w2.frozen? ⟨w1.heap.size,0,none⟩=false:=by
  rw [B2.frozen (p:=⟨w1.heap.size,0,none⟩) (by simp)];exact fN _ _ _ _ rfl
 have B3:Below w.heap.size w w2:=bch (B1.alloc B1.size (.cells #[.string ⟨#[]⟩] 9 (0,0))) B2 (nl _);have hlo:w1.heap.size<(w1.alloc (.cells #[.string ⟨#[]⟩] 9 (0,0))).heap.size:=by simp
 have hwb:=B1.size;generalize (w1.alloc (.cells #[.string ⟨#[]⟩] 9 (0,0))).heap.size=lo at *;generalize w1.heap.size=bx at *;clear B1 B2;have HRk:Hid (Tr.Rk xs L):=hRk;clear hRk;go_wp2_with fail
 go_loopw [7] (fun v wr=>∃ (pre P:List ByteArray) (d:ByteArray) (f:Nat) (ad2:Option Addr) (c:Nat),v=.slice ad2 P.length c/\P.length<=c/\P.length<=6144/\Hid (pre++P=L)/\Tr.TxFar lo wr ad2 P/\Hid (∀ p,p ∈ pre->Tr.st p d=true)/\Hid (Tr.tro xs size.toNat f d=R)/\Hid (4*f+d.size=260)/\d.size<=256/\wr.cell? ⟨bx,0,none⟩=some (.string d)/\wr.frozen? ⟨bx,0,none⟩=false/\Below w.heap.size w wr)
  (fun v _=>Tr.slen v)
 case atStart=>exact ⟨[],L,⟨#[]⟩,65,ad',cap',rfl,hLc,hL6,rfl,hT,(fun p hp=>by cases hp),HR0,rfl,by decide,hcx,hfx,B3⟩
 case round =>
  clear hcx hfx hT B3 hLc hL6;obtain ⟨pre,P,d,f,ad2,c,rfl,hPc,hP6,HPL,hT,Hpre,HRd,Hf,hd,hcx,hfx,B3⟩:=hrel;by_cases hfit:(d.size:Int)+4<=size
  ·have e1:decide ((d.size:Int)+4<=size)=true:=zdT hfit;have hrk:Tr.Rk xs (pre++P):=by rw [HPL.out];exact HRk.out
   have hp4:∀ i,i<P.length->(Tr.xa P i).size=4:=fun i hi=>((hrk.2 _).1 (List.mem_append_right _ (by rw [Tr.ZcU hi];exact gM hi))).1
   have c3:=Zhk lo P d ad2 c bx wr hT (by omega) hcx (HM.out _ B3) (by omega) hp4;unfold Tr.fix at c3
   cases hq:Tr.fnK P d P.length with
   | none =>
    rw [hq] at c3;simp only at c3
    have HN:Hid (d=R):=by
     have h9:=HRd.out;rw [Tr.Zgq (Tr.Zso hrk Hpre.out hq)] at h9;exact h9
    clear hq hp4 hrk;have c4:=fun w=>ZP d w (by omega)
    go_wp2_with fail
    refine c3.mono ?_;rintro e w3 ⟨rfl,rfl⟩;go_wp2_with fail
    refine (c4 _).mono ?_;rintro e w4 ⟨rfl,G⟩;go_wp2_with fail
    go_ret2
    exact ⟨by rw [HN.out];rfl,bch B3 G (nl _)⟩
   | some i =>
    rw [hq] at c3;simp only at c3;obtain ⟨h2,h3,h4,h5⟩:=Tr.ZtB hrk Hpre.out hq
    obtain ⟨g,rfl⟩:∃ g,f=g+1:=⟨f - 1,by have:=Hf.out;omega⟩
    have HN:Hid (Tr.tro xs size.toNat g (Tr.xa P i++d)=R):=by
     have h9:=HRd.out;rw [Tr.Zkq (by omega) (by rw [h3];exact h4),h3] at h9;exact h9
    have HPre2:Hid (∀ p,p ∈ pre++P.take (i+1)->Tr.st p (Tr.xa P i++d)=true):=h5;have HPL2:Hid (pre++P.take (i+1)++P.drop (i+1)=L):=by show _=_;rw [List.append_assoc,List.take_append_drop];exact HPL.out
    rcases hT with hT | ⟨b2,off2,rfl,hlo2,hTx⟩
    ·rw [hT] at h2;simp at h2
    have cX:=hTx.2 i h2;have hXd:(Tr.xa P i++d).size=4+d.size:=by rw [ByteArray.size_append,h4]
    have hT2:=Tr.TxFar.drop hlo2 hTx (i+1);generalize Tr.xa P i=X at *;have hii:(i:Int)<(P.length:Int):=by omega
    have hi0:decide ((i:Int)<0)=false:=dF (by omega);have hi6:(i:Int)<=6144:=by omega
    have hXs:X.size<=4:=by omega
    clear hq hp4 hrk HRd Hpre HPL h3 h5 hTx;go_wp2_with fail
    refine c3.mono ?_;rintro e w3 ⟨rfl,rfl⟩;go_wp2_with fail
    go_region
    have hT3:=(hT2.set hlo (.string (X++d)))
    have hc3:(w3.setCell ⟨bx,0,none⟩ (.string (X++d))).cell? ⟨bx,0,none⟩=some (.string (X++d)):=cS _ _ _ hcx;have hf3:(w3.setCell ⟨bx,0,none⟩ (.string (X++d))).frozen? ⟨bx,0,none⟩=false:=by rw [World.frozen?_setCell];exact hfx
    have B4:Below w.heap.size w (w3.setCell ⟨bx,0,none⟩ (.string (X++d))):=B3.setCell hwb _;have HD:Hid ((P.drop (i+1)).length=P.length - (i+1)):=List.length_drop ..;have hlP:((i:Int)+1)<=(P.length:Int):=by omega
    have hlc:(P.length:Int)<=(c:Int):=by omega
    by_cases hce:i+1=c
    ·subst hce;obtain hPl:P.length=i+1:=by omega
     go_wp2_with fail
     go_roundw
     case rel=>exact ⟨pre++P.take (i+1),[],X++d,g,_,0,rfl,nl _,by simp,by have h9:=HPL2.out;rw [List.drop_of_length_le (by omega:P.length<=i+1)] at h9;exact h9,.inl rfl,HPre2,HN,by have:=Hf.out;show 4*g+_=260;omega,by omega,hc3,hf3,B4.drew⟩
     case measure=>simp [Tr.slen];omega
    ·have hce':¬ ((i:Int)+1=(c:Int)):=by omega
     go_wp2_with fail
     go_roundw
     case rel=>exact ⟨pre++P.take (i+1),P.drop (i+1),X++d,g,_,c - (i+1),by rw [HD.out],by rw [HD.out];omega,by rw [HD.out];omega,HPL2,hT3,HPre2,HN,by have:=Hf.out;show 4*g+_=260;omega,by omega,hc3,hf3,B4.drew⟩
     case measure=>simp [Tr.slen];omega
  ·have e1:decide ((d.size:Int)+4<=size)=false:=dF hfit
   have HN:Hid (d=R):=by
    have h9:=HRd.out;rw [Tr.Zkr (by omega)] at h9;exact h9
   have c4:=fun w=>ZP d w (by omega)
   go_wp2_with fail
   refine (c4 _).mono ?_;rintro e w4 ⟨rfl,G⟩;go_wp2_with fail
   go_ret2
   exact ⟨by rw [HN.out];rfl,bch B3 G (nl _)⟩
theorem ZlN (xs:List ByteArray) (size:Int) (ad:Option Addr) (cap:Nat) (w:World) (hx:TxSl w ad xs) (hB:∀ i,(Tr.xa xs i).size<=140737488355328) (hm:Tr.many xs=true) :
 Calls Tryz.prog 66 #[.slice ad xs.length cap,.int .i64 size] w fun e w'=>e=.returned (.tuple #[.string ⟨#[]⟩,.int .i64 2])/\Below w.heap.size w w':=by
 have c1:=Zcj xs ad cap w hx hB;rw [hm] at c1;clear hB hm hx;go_enter Tryz.func66,Tryz.ntmps66
 go_wp2_with fail
 refine c1.mono ?_;rintro e w1 ⟨rfl,B1⟩;go_wp2_with fail
 go_ret2
 exact ⟨rfl,B1⟩
theorem ZiV (xs:List ByteArray) (size:Int) (ad:Option Addr) (cap:Nat) (w:World) (hx:TxSl w ad xs) (hB:∀ i,(Tr.xa xs i).size<=140737488355328) (hm:Tr.many xs=false) (h:size<0\/256<size) :
 Calls Tryz.prog 66 #[.slice ad xs.length cap,.int .i64 size] w fun e w'=>e=.returned (.tuple #[.string ⟨#[]⟩,.int .i64 3])/\Below w.heap.size w w':=by
 have c1:=Zcj xs ad cap w hx hB;rw [hm] at c1;clear hB hm hx;by_cases h0:size<0
 ·have d1:decide (size<0)=true:=zdT h0;clear h;go_enter Tryz.func66,Tryz.ntmps66
  go_wp2_with fail
  refine c1.mono ?_;rintro e w1 ⟨rfl,B1⟩;go_wp2_with fail
  go_ret2
  exact ⟨rfl,B1⟩
 ·have d1:decide (size<0)=false:=dF h0;have h2:256<size:=by omega
  have d2:decide ((256:Int)<size)=true:=zdT h2;clear h;go_enter Tryz.func66,Tryz.ntmps66
  go_wp2_with fail
  refine c1.mono ?_;rintro e w1 ⟨rfl,B1⟩;go_wp2_with fail
  go_ret2
  exact ⟨rfl,B1⟩
namespace Tr
def tnE (xs:List ByteArray) (size:Int):Int:=if many xs=true then 2 else if 0<=size/\size<=256 then 0 else 3
def tnD (xs:List ByteArray) (size:Int):ByteArray:=if tnE xs size=0 then trn xs size.toNat else ⟨#[]⟩
end Tr
theorem Zes (xs:List ByteArray) (size:Int) (ad:Option Addr) (cap:Nat) (w:World) (hx:TxSl w ad xs) (hB:∀ i,(Tr.xa xs i).size<=140737488355328) (hM:Mx w) :
 Calls Tryz.prog 66 #[.slice ad xs.length cap,.int .i64 size] w fun e w'=>e=.returned (.tuple #[.string (Tr.tnD xs size),.int .i64 (Tr.tnE xs size)])/\Below w.heap.size w w':=by
 unfold Tr.tnD Tr.tnE
 cases hm:Tr.many xs with
 | true=>simpa using ZlN xs size ad cap w hx hB hm
 | false =>
  by_cases h:0<=size/\size<=256
  ·simpa [h] using ZoR xs size ad cap w hx hB hM hm h.1 h.2
  ·simpa [h] using ZiV xs size ad cap w hx hB hm (by omega)
theorem Ziw (ad af:Option Addr) (cd cf:Nat) (a:Ar.A) (size:Int) (w:World) (h:ArV w ad af a) (hs:SaneA a) (hc:Ar.chk a ≠ 0) :
 Calls Tryz.prog 25 #[av ad cd af cf a,.int .i64 size] w fun e w'=>ArSaid w Ar.az (Ar.chk a) e w':=by
 have C1:Hid (∀ w',Below w.heap.size w w'->Calls Tryz.prog 61 #[av ad cd af cf a] w' fun e w2=>Zag a w' e w2):=fun w' h9=>ZbO ad af cd cf a w' (h.below h9) hs
 have hQ:Hid (∀ w',Below w.heap.size w w'->ArSaid w Ar.az (Ar.chk a) (.returned (.tuple #[.agg #[.slice none 0 0,.slice none 0 0],.int .i64 (Ar.chk a)])) w'):=fun w' h9=>Zy h9
 generalize ArSaid w Ar.az (Ar.chk a)=Q at *;unfold Zag at C1;unfold av at C1 |-
 generalize Ar.chk a=E at *;generalize Ar.txs a=TX at *;generalize a.dicts.length=D at *;generalize a.files.length=N at *;have e1:(E != 0)=true:=by simpa using hc
 have e2:(E == 0)=false:=by simpa using hc
 clear h hs;go_enter Tryz.func25,Tryz.ntmps25
 go_wp2_with fail
 refine (C1.out _ (Fr.start w _ _).b).mono ?_;rintro e w1 ⟨adt,capt,L,rfl,_,_,_,_,G1⟩;have F1:=(Fr.start w _ _).next G1;clear G1;obtain ⟨b,a0,a1,r0,r1,z0,z1,hz⟩:=id F1;go_wp2_with fail
 rw [F1.zero];exact bodyPost_ret (v:=.tuple #[.agg #[.slice none 0 0,.slice none 0 0],.int .i64 E]) (by simp [results,Tryz.results25,go_sem,F1.r0,F1.r1]) rfl (hQ.out _ F1.b)
theorem ZgQ (ad af:Option Addr) (cd cf:Nat) (a:Ar.A) (size:Int) (w:World) (h:ArV w ad af a) (hs:SaneA a) (hM:Mx w) (hc:Ar.chk a=0) (hz:¬ (0<=size/\size<=256)) :
 Calls Tryz.prog 25 #[av ad cd af cf a,.int .i64 size] w fun e w'=>ArSaid w Ar.az 3 e w':=by
 have C1:Hid (∀ w',Below w.heap.size w w'->Calls Tryz.prog 61 #[av ad cd af cf a] w' fun e w2=>Zag a w' e w2):=fun w' h9=>ZbO ad af cd cf a w' (h.below h9) hs
 have hT:=Ar.ZcZ hc
 have C2:Hid (∀ w' adt capt,Below w.heap.size w w'->TxSl w' adt (Ar.txs a)->Calls Tryz.prog 66 #[.slice adt (Ar.txs a).length capt,.int .i64 size] w' fun e w2=>e=.returned (.tuple #[.string ⟨#[]⟩,.int .i64 3])/\Below w'.heap.size w' w2):=fun w' adt capt h8 h9=>by
  have:=Zes (Ar.txs a) size adt capt w' h9 (fun i=>by
   by_cases hi:i<(Ar.txs a).length
   ·have e:Tr.xa (Ar.txs a) i=(Ar.txs a)[i]:=by simp [Tr.xa,hi]
    rw [e];exact nt (hT.2 _ (gM hi)) (by decide)
   ·have e:Tr.xa (Ar.txs a) i=⟨#[]⟩:=by simp [Tr.xa,hi]
    rw [e];exact Nat.zero_le _) (hM.below h8)
  have eE:Tr.tnE (Ar.txs a) size=3:=by unfold Tr.tnE;rw [Ar.Zgn hc,if_neg (by decide),if_neg hz]
  have eD:Tr.tnD (Ar.txs a) size=⟨#[]⟩:=by unfold Tr.tnD;rw [eE,if_neg (by decide)]
  rw [eE,eD] at this;exact this
 have hQ:Hid (∀ w',Below w.heap.size w w'->ArSaid w Ar.az 3 (.returned (.tuple #[.agg #[.slice none 0 0,.slice none 0 0],.int .i64 3])) w'):=fun w' h9=>Zy h9
 generalize ArSaid w Ar.az 3=Q at *;unfold Zag at C1;rw [hc] at C1;unfold av at C1 |-
 generalize Ar.txs a=TX at *;generalize a.dicts.length=D at *;generalize a.files.length=N at *;clear h hs hM hc hz hT;go_enter Tryz.func25,Tryz.ntmps25
 go_wp2_with fail
 refine (C1.out _ (Fr.start w _ _).b).mono ?_;rintro e w1 ⟨adt,capt,L,rfl,_,hfar,hLx,_,G1⟩;have hLT:=hLx (by trivial);subst hLT;have F1:=(Fr.start w _ _).next G1;clear G1 hLx;obtain ⟨b,a0,a1,r0,r1,z0,z1,hz⟩:=id F1;have C2':=C2.out w1 adt capt b (TxFar.sl hfar);go_wp2_with fail
 refine C2'.mono ?_;rintro e w2 ⟨rfl,G2⟩;have F2:=F1.next G2;clear b a0 a1 r0 r1 z0 z1 hz;obtain ⟨b,a0,a1,r0,r1,z0,z1,hz⟩:=id F2;go_wp2_with fail
 rw [F2.zero];exact bodyPost_ret (v:=.tuple #[.agg #[.slice none 0 0,.slice none 0 0],.int .i64 3]) (by simp [results,Tryz.results25,go_sem,F2.r0,F2.r1]) rfl (hQ.out _ F2.b)
theorem Zha (ad af:Option Addr) (cd cf:Nat) (a:Ar.A) (size:Int) (w:World) (h:ArV w ad af a) (hs:SaneA a) (hM:Mx w) (hc:Ar.chk a=0) (hz:0<=size/\size<=256) (h4:a.dicts.length=4) :
 Calls Tryz.prog 25 #[av ad cd af cf a,.int .i64 size] w fun e w'=>ArSaid w Ar.az 2 e w':=by
 have C1:Hid (∀ w',Below w.heap.size w w'->Calls Tryz.prog 61 #[av ad cd af cf a] w' fun e w2=>Zag a w' e w2):=fun w' h9=>ZbO ad af cd cf a w' (h.below h9) hs
 have hT:=Ar.ZcZ hc
 have C2:Hid (∀ w' adt capt,Below w.heap.size w w'->TxSl w' adt (Ar.txs a)->Calls Tryz.prog 66 #[.slice adt (Ar.txs a).length capt,.int .i64 size] w' fun e w2=>e=.returned (.tuple #[.string (Tr.trn (Ar.txs a) size.toNat),.int .i64 0])/\Below w'.heap.size w' w2):=fun w' adt capt h8 h9=>by
  have:=Zes (Ar.txs a) size adt capt w' h9 (fun i=>by
   by_cases hi:i<(Ar.txs a).length
   ·have e:Tr.xa (Ar.txs a) i=(Ar.txs a)[i]:=by simp [Tr.xa,hi]
    rw [e];exact nt (hT.2 _ (gM hi)) (by decide)
   ·have e:Tr.xa (Ar.txs a) i=⟨#[]⟩:=by simp [Tr.xa,hi]
    rw [e];exact Nat.zero_le _) (hM.below h8)
  have eE:Tr.tnE (Ar.txs a) size=0:=by unfold Tr.tnE;rw [Ar.Zgn hc,if_neg (by decide),if_pos hz]
  have eD:Tr.tnD (Ar.txs a) size=Tr.trn (Ar.txs a) size.toNat:=by unfold Tr.tnD;rw [if_pos eE]
  rw [eE,eD] at this;exact this
 have hQ:Hid (∀ w',Below w.heap.size w w'->ArSaid w Ar.az 2 (.returned (.tuple #[.agg #[.slice none 0 0,.slice none 0 0],.int .i64 2])) w'):=fun w' h9=>Zy h9
 generalize ArSaid w Ar.az 2=Q at *;unfold Zag at C1;rw [hc] at C1;unfold av at C1 |-
 generalize Tr.trn (Ar.txs a) size.toNat=X at *;generalize Ar.txs a=TX at *;rw [h4] at C1 |-
 generalize a.files.length=N at *;clear h hs hM hc hz hT h4;go_enter Tryz.func25,Tryz.ntmps25
 go_wp2_with fail
 refine (C1.out _ (Fr.start w _ _).b).mono ?_;rintro e w1 ⟨adt,capt,L,rfl,_,hfar,hLx,_,G1⟩;have hLT:=hLx (by trivial);subst hLT;have F1:=(Fr.start w _ _).next G1;clear G1 hLx;obtain ⟨b,a0,a1,r0,r1,z0,z1,hz⟩:=id F1;have C2':=C2.out w1 adt capt b (TxFar.sl hfar);go_wp2_with fail
 refine C2'.mono ?_;rintro e w2 ⟨rfl,G2⟩;have F2:=F1.next G2;clear b a0 a1 r0 r1 z0 z1 hz;obtain ⟨b,a0,a1,r0,r1,z0,z1,hz⟩:=id F2;go_wp2_with fail
 rw [F2.zero];exact bodyPost_ret (v:=.tuple #[.agg #[.slice none 0 0,.slice none 0 0],.int .i64 2]) (by simp [results,Tryz.results25,go_sem,F2.r0,F2.r1]) rfl (hQ.out _ F2.b)
theorem ZkZ (ad af:Option Addr) (cd cf:Nat) (a:Ar.A) (size:Int) (w:World) (h:ArV w ad af a) (hs:SaneA a) (hM:Mx w) (hE:Ar.retE a size=0) :
 Calls Tryz.prog 25 #[av ad cd af cf a,.int .i64 size] w fun e w'=>ArSaid w ⟨Ar.retD a size,a.files.map (Ar.reF a size)⟩ 0 e w':=by
 obtain ⟨hc,hzz1,hzz2,h4⟩:=Ar.Zcv hE
 have hz:0<=size/\size<=256:=⟨hzz1,hzz2⟩
 obtain ⟨i0,hi,hz0,hz1,hz2⟩:=info_parts (P:=Tryz.prog) (e:=9) (z:=.string ⟨#[]⟩) (size:=1) (bytes:=16) (by kernel_rfl);obtain ⟨m1,m2,m3⟩:=Ar.Zw.1 (Ar.Zd.1 hc).1;have C1:Hid (∀ w',Below w.heap.size w w'->Calls Tryz.prog 61 #[av ad cd af cf a] w' fun e w2=>Zag a w' e w2):=fun w' h9=>ZbO ad af cd cf a w' (h.below h9) hs
 have hT:=Ar.ZcZ hc
 have C2:Hid (∀ w' adt capt,Below w.heap.size w w'->TxSl w' adt (Ar.txs a)->Calls Tryz.prog 66 #[.slice adt (Ar.txs a).length capt,.int .i64 size] w' fun e w2=>e=.returned (.tuple #[.string (Tr.trn (Ar.txs a) size.toNat),.int .i64 0])/\Below w'.heap.size w' w2):=fun w' adt capt h8 h9=>by
  have:=Zes (Ar.txs a) size adt capt w' h9 (fun i=>by
   by_cases hi:i<(Ar.txs a).length
   ·have e:Tr.xa (Ar.txs a) i=(Ar.txs a)[i]:=by simp [Tr.xa,hi]
    rw [e];exact nt (hT.2 _ (gM hi)) (by decide)
   ·have e:Tr.xa (Ar.txs a) i=⟨#[]⟩:=by simp [Tr.xa,hi]
    rw [e];exact Nat.zero_le _) (hM.below h8)
  have eE:Tr.tnE (Ar.txs a) size=0:=by unfold Tr.tnE;rw [Ar.Zgn hc,if_neg (by decide),if_pos hz]
  have eD:Tr.tnD (Ar.txs a) size=Tr.trn (Ar.txs a) size.toNat:=by unfold Tr.tnD;rw [if_pos eE]
  rw [eE,eD] at this;exact this
 have C6:Hid (∀ w',Below w.heap.size w w'->Calls Tryz.prog 53 #[av ad cd af cf a] w' fun e w2=>∃ v1 v2,e=.returned (.agg #[v1,v2])/\ArOwn w'.heap.size w2 v1 v2 a/\Below w'.heap.size w' w2):=fun w' h9=>Zbk ad af cd cf a w' (h.below h9) hs m1 m2
 have hmr:=Ar.Zfw hE;have hrl:(Ar.retD a size).length=a.dicts.length+1:=by unfold Ar.retD;rw [List.length_append];rfl
 have CP:Hid (∀ w' adx cdx afx cfx m,m<a.files.length->TxSl w' adx (Ar.retD a size)->Calls Tryz.prog 52 #[.agg #[.slice adx (a.dicts.length+1) cdx,.slice afx a.files.length cfx],.string (Ar.fa a.files m).name,.string (Tr.xa (Ar.txs a) m),.int .i64 ((a.dicts.length:Int)+1)] w' fun e w2=>e=.returned (.tuple #[.agg #[.string (Ar.reF a size (Ar.fa a.files m)).name,.int .i64 (Ar.reF a size (Ar.fa a.files m)).dict,.int .i64 (Ar.reF a size (Ar.fa a.files m)).size,.int .i64 (Ar.reF a size (Ar.fa a.files m)).sum,.string (Ar.reF a size (Ar.fa a.files m)).blk],.int .i64 0])/\Below w'.heap.size w' w2):=fun w' adx cdx afx cfx m hm hx=>by
  have hmem:Ar.fa a.files m ∈ a.files:=by rw [Ar.ZaJ hm];exact gM hm
  have e:Tr.xa (Ar.txs a) m=Ar.tx a.dicts (Ar.fa a.files m):=by unfold Ar.txs;simp [Tr.xa,Ar.fa,hm]
  have:=ZbK adx afx cdx cfx ⟨Ar.retD a size,a.files⟩ (Ar.fa a.files m).name (Tr.xa (Ar.txs a) m) ((a.dicts.length:Int)+1) w' hx (by show (Ar.retD a size).length<=4;omega) (Ar.ZaM hmr _) (by show Ar.has (Ar.retD a size) _=true;unfold Ar.has;rw [hrl];exact zdT ⟨by omega,by omega⟩) (by rw [e];exact Ar.Zdq hc hmem) (hs.nm m);unfold av at this;simp only [hrl] at this;rw [e] at this |-
  exact this
 have HQ:Hid (∀ v1 v2 w',w'.ownsRow w.heap.size 9 1 v1 (a.dicts.length+1) (a.dicts.map Value.string++[.string (Tr.trn (Ar.txs a) size.toNat)])->w'.ownsRow w.heap.size 46 5 v2 a.files.length (fcs (a.files.map (Ar.reF a size)))->(∀ j,v1.ownBlock=some j->v2.ownBlock ≠ some j)->Below w.heap.size w w'->ArSaid w ⟨Ar.retD a size,a.files.map (Ar.reF a size)⟩ 0 (.returned (.tuple #[.agg #[v1,v2],.int .i64 0])) w'):=fun v1 v2 w' h1 h2 h3 h4=>⟨v1,v2,rfl,⟨by
  show w'.ownsRow _ _ _ _ (Ar.retD a size).length ((Ar.retD a size).map Value.string);have e:(Ar.retD a size).map Value.string=a.dicts.map Value.string++[.string (Tr.trn (Ar.txs a) size.toNat)]:=by unfold Ar.retD;rw [List.map_append];rfl
  rw [hrl,e];exact h1,by show w'.ownsRow _ _ _ _ (a.files.map (Ar.reF a size)).length _;rw [List.length_map];exact h2,h3⟩,h4⟩
 generalize ArSaid w ⟨Ar.retD a size,a.files.map (Ar.reF a size)⟩ 0=Q at *
 have HTx:Hid (∀ lo w' ad' cap',w'.ownsRow lo 9 1 (.slice ad' (a.dicts.length+1) cap') (a.dicts.length+1) (a.dicts.map Value.string++[.string (Tr.trn (Ar.txs a) size.toNat)])->TxSl w' ad' (Ar.retD a size)):=fun lo w' ad' cap' h1=>by
  have e:(Ar.retD a size).map Value.string=a.dicts.map Value.string++[.string (Tr.trn (Ar.txs a) size.toNat)]:=by unfold Ar.retD;rw [List.map_append];rfl
  rw [<-hrl,<-e] at h1;obtain ⟨ad2,cap2,e2,_,h5⟩:=Zfb h1;simp only [Value.slice.injEq] at e2;obtain ⟨rfl,_,rfl⟩:=e2;exact TxFar.sl h5
 have HI:Hid (∀ m,m<a.files.length->(Ar.reI a size m).length=a.files.length/\Ar.fa (Ar.reI a size m) m=Ar.fa a.files m/\fcs (Ar.reI a size (m+1))=fcs ((Ar.reI a size m).take m++Ar.reF a size (Ar.fa a.files m) :: (Ar.reI a size m).drop (m+1))):=fun m hm=>⟨Ar.ZrM (nL hm),(Ar.Zrw hm).1,by rw [(Ar.Zrw hm).2]⟩
 have HIN:Hid (fcs (Ar.reI a size a.files.length)=fcs (a.files.map (Ar.reF a size))):=by show _=_;rw [Ar.Zsm]
 have HA:Hid (∀ lo w' v1 v2,ArOwn lo w' v1 v2 a->w'.ownsRow lo 9 1 v1 a.dicts.length (a.dicts.map Value.string)/\w'.ownsRow lo 46 5 v2 a.files.length (fcs (Ar.reI a size 0))/\(∀ j,v1.ownBlock=some j->v2.ownBlock ≠ some j)):=fun lo w' v1 v2 h9=>⟨h9.o1,by rw [Ar.Zpv];exact h9.o2,h9.ne⟩
 have HTl:Hid ((Ar.txs a).length=a.files.length):=by show _=_;unfold Ar.txs;rw [List.length_map]
 unfold Zag at C1;rw [hc] at C1;unfold av at C1 C6 |-
 generalize hTX:Ar.txs a=TX at *;generalize hXX:Tr.trn TX size.toNat=X at *;have HXX:Hid (Tr.trn TX size.toNat=X):=hXX
 have xz:X.size<=256:=by
  have:=(Tr.Zgf TX size.toNat).most;rw [hXX] at this;omega
 clear hXX hTX;generalize a.dicts.map Value.string=XS at *;clear h hs hM hc hz hT hmr hrl m3 hE;generalize a.dicts.length=D at *;generalize a.files.length=N at *;have hDi:(D:Int)<=4:=by omega
 have hNi:(N:Int)<=12:=by omega
 have d4:((D:Int) == 4)=false:=by simp;omega
 have d4':decide ((D:Int)=4)=false:=dF (by omega);have d4'':¬ (D:Int)=4:=by omega
 go_enter Tryz.func25,Tryz.ntmps25
 go_wp2_with fail
 refine (C1.out _ (Fr.start w _ _).b).mono ?_;rintro e w1 ⟨adt,capt,L,rfl,_,hfar,hLx,_,G1⟩;have hLT:=hLx (by trivial);subst hLT;have F1:=(Fr.start w _ _).next G1;clear G1 hLx C1;have hsl:=TxFar.sl hfar;obtain ⟨b,a0,a1,r0,r1,z0,z1,hz⟩:=id F1;have C2':=C2.out w1 adt capt b hsl;go_wp2_with fail
 refine C2'.mono ?_;rintro e w2 ⟨rfl,G2⟩;have F2:=F1.next G2
 have HX:Hid (∀ w',Below w2.heap.size w2 w'->∀ m,m<N->∃ b off,adt=some ⟨b,off,none⟩/\b<w2.heap.size/\w'.cell? ⟨b,off+m,none⟩=some (.string (Tr.xa L m))):=fun w' h9 m hm=>by
  obtain ⟨b,off,e1,e2,e3⟩:=(hsl.below G2).at (i:=m) (by rw [HTl.out];exact hm)
  exact ⟨b,off,e1,e2,(h9.cell (p:=⟨b,off+m,none⟩) e2).trans e3⟩
 clear b a0 a1 r0 r1 z0 z1 hz C2 C2' hsl hfar G2 F1;obtain ⟨b,a0,a1,r0,r1,z0,z1,hz⟩:=id F2;go_wp2_with fail
 refine (C6.out _ F2.b).mono ?_;rintro e w6 ⟨v1,v2,rfl,O6,G6⟩;have F6:=F2.next G6;obtain ⟨o1,o2,o3⟩:=HA.out _ _ _ _ O6;have hlo:w.heap.size+1<w2.heap.size:=F2.hz;have hl0:w2.heap.size<=w6.heap.size:=G6.size;have HX6:Hid (∀ w',Below w2.heap.size w6 w'->∀ m,m<N->∃ b off,adt=some ⟨b,off,none⟩/\b<w2.heap.size/\w'.cell? ⟨b,off+m,none⟩=some (.string (Tr.xa L m))):=fun w' h9 m hm=>HX.out w' (G6.trans h9) m hm
 generalize w2.heap.size=lo at o1 o2 hlo hl0 HX6;clear G6 O6 HA b a0 a1 r0 r1 z0 z1 hz C6 HX F2;obtain ⟨p1,q1,rfl,_⟩:=Zk o1;obtain ⟨p2,q2,rfl,_⟩:=Zk o2;obtain ⟨b,a0,a1,r0,r1,z0,z1,hz⟩:=id F6;have hz6:w.heap.size<w6.heap.size:=by omega
 have S0:CpS w6 (w6.alloc (.cells #[.slice p1 D q1,.slice p2 N q2] 25 (0,0))) w6.heap.size lo (.slice p1 D q1) (.slice p2 N q2) D N XS (fcs (Ar.reI a size 0)) :=
  ⟨cN _ _ _ 0,cN _ _ _ 1,fN _ _ _ _ rfl,fN _ _ _ _ rfl,o1.alloc _,o2.alloc _,o3,fun e=>by have:=(o1.lt _ e).2;omega,fun e=>by have:=(o2.lt _ e).2;omega,hl0,by simp,(bR _ _).alloc hl0 _⟩
 clear o1 o2 o3
 have hnw:∀ j u,[Value.string X][j]?=some u->((w6.alloc (.cells #[.slice p1 D q1,.slice p2 N q2] 25 (0,0))).alloc (.cells #[.string X] 9 (0,0))).cell? ((⟨w6.heap.size+1,0,none⟩:Addr).add j)=some u:=by
  intro j u hj;rw [ZaZ,(box2 w6 _ #[.string X] _ _).2];simpa using hj
 go_wp2_with (first
  | (at_builtin;refine zwL _ rfl _ _ 22 rfl lo 9 i0 (.string ⟨#[]⟩) 1 16 U22 hi hz0 hz1 hz2 rfl (by decide) (.slice p1 D q1) _ _ rfl (S0.o1.alloc _) ⟨w6.heap.size+1,0,none⟩ 1 1 [.string X] rfl rfl hnw (by simp [Value.oneCell']) (by decide) (by unfold maxLen;omega) (by omega) (by simp;omega) _ rfl ?_;intro g cp w5 hown5 hgrow5 hat5 hlt5;obtain ⟨⟨⟨qq1,qq2⟩,S5⟩,K5⟩:=S0.put1 hgrow5 hown5 hat5;have c15:=S5.c1;clear hgrow5 hown5 hat5 hlt5 K5)
  | fail)
 clear S0 hnw c15 qq1 qq2 b a0 a1 r0 r1 z0 z1 hz;generalize (w5.setCell ⟨w6.heap.size,0,none⟩ (.slice (some ⟨g,0,none⟩) (D+1) cp))=wq at *;generalize w6.heap.size=C at *;go_loopw [47] (fun i wr=>∃ m:Nat,m<=N/\i=.int .i64 m/\CpS w6 wr C lo (.slice (some ⟨g,0,none⟩) (D+1) cp) (.slice p2 N q2) (D+1) N (XS++[.string X]) (fcs (Ar.reI a size m))) (fun i _=>N - (intOf i).toNat)
 case atStart=>exact ⟨0,by omega,rfl,S5⟩
 case round =>
  clear S5;obtain ⟨m,hm2,rfl,S6⟩:=hrel;have F7:=F6.keep S6.bel hlo;by_cases hlt:m<N
  ·have d2:decide ((m:Int)<(N:Int))=true:=by simp;omega
   have d2':decide (m<N)=true:=by simp;omega
   have hmi:(m:Int)<(N:Int):=by omega
   have hmL:(m:Int)<(L.length:Int):=by rw [HTl.out];exact hmi
   have hmL':m<L.length:=by rw [HTl.out];exact hlt
   rcases S6.o2.2 with ⟨_,h0⟩ | ⟨g2,cap2,cur2,e,_⟩
   ·omega
   simp only [Value.slice.injEq] at e;obtain ⟨rfl,_,rfl⟩:=e;obtain ⟨hIl,hIf,hIs⟩:=HI.out m hlt;have HIs:Hid (fcs (Ar.reI a size (m+1))=fcs ((Ar.reI a size m).take m++Ar.reF a size (Ar.fa a.files m) :: (Ar.reI a size m).drop (m+1))):=hIs;have hat:=Zrl (i:=m) (fs:=Ar.reI a size m) (w:=wr) (lo:=lo) (g:=g2) (cap:=q2) (by rw [hIl];exact S6.o2) (by omega);rw [hIf] at hat;have x0:wr.cell? ⟨g2,m*5,none⟩=some (.string (Ar.fa a.files m).name):=hat.1 0 (by omega);have x1:wr.cell? ⟨g2,m*5+1,none⟩=some (.int .i64 (Ar.fa a.files m).dict):=hat.1 1 (by omega);have x2:wr.cell? ⟨g2,m*5+2,none⟩=some (.int .i64 (Ar.fa a.files m).size):=hat.1 2 (by omega);have x3:wr.cell? ⟨g2,m*5+3,none⟩=some (.int .i64 (Ar.fa a.files m).sum):=hat.1 3 (by omega);have x4:wr.cell? ⟨g2,m*5+4,none⟩=some (.string (Ar.fa a.files m).blk):=hat.1 4 (by omega);have hg2:g2<wr.heap.size:=(S6.o2.lt g2 rfl).2;have y:=hat.2;have CPm:=fun w' h9=>CP.out w' (some ⟨g,0,none⟩) cp (some ⟨g2,0,none⟩) q2 m hlt h9
   have HS5:Hid (∀ wk,CpS w6 wk C lo (.slice (some ⟨g,0,none⟩) (D+1) cp) (.slice (some ⟨g2,0,none⟩) N q2) (D+1) N (XS++[.string X]) (fcs (Ar.reI a size m))->CpS w6 (w5s wk g2 (m*5) (.string (Ar.reF a size (Ar.fa a.files m)).name) (.int .i64 (Ar.reF a size (Ar.fa a.files m)).dict) (.int .i64 (Ar.reF a size (Ar.fa a.files m)).size) (.int .i64 (Ar.reF a size (Ar.fa a.files m)).sum) (.string (Ar.reF a size (Ar.fa a.files m)).blk)) C lo (.slice (some ⟨g,0,none⟩) (D+1) cp) (.slice (some ⟨g2,0,none⟩) N q2) (D+1) N (XS++[.string X]) (fcs (Ar.reI a size (m+1)))):=fun wk h9=>by
    rw [<-hIl] at h9;have:=CpS.set5 (Ar.reF a size (Ar.fa a.files m)) h9 (i:=m) (by omega);rw [hIl,<-hIs] at this;exact this
   have htx:=HTx.out lo wr (some ⟨g,0,none⟩) cp S6.o1;clear hIs hIf hIl hat HIs;generalize (Ar.reF a size (Ar.fa a.files m)).name=n0 at *;generalize (Ar.reF a size (Ar.fa a.files m)).dict=n1 at *;generalize (Ar.reF a size (Ar.fa a.files m)).size=n2 at *;generalize (Ar.reF a size (Ar.fa a.files m)).sum=n3 at *;generalize (Ar.reF a size (Ar.fa a.files m)).blk=n4 at *;generalize (Ar.fa a.files m).name=f0 at *;generalize (Ar.fa a.files m).dict=f1 at *;generalize (Ar.fa a.files m).size=f2 at *;generalize (Ar.fa a.files m).sum=f3 at *;generalize (Ar.fa a.files m).blk=f4 at *;go_wp2_with fail
   have S7:=S6.below ((bR _ _).alloc (nl _) (.cells #[.string f0,.int .i64 f1,.int .i64 f2,.int .i64 f3,.string f4] 46 (0,0)));have hbx:(wr.alloc (.cells #[.string f0,.int .i64 f1,.int .i64 f2,.int .i64 f3,.string f4] 46 (0,0))).cell? ⟨wr.heap.size,0,none⟩=some (.string f0):=cN _ _ _ 0;have htx7:=htx.below ((bR _ _).alloc (nl _) (.cells #[.string f0,.int .i64 f1,.int .i64 f2,.int .i64 f3,.string f4] 46 (0,0)));have k:=fun (p:Addr) (hp:p.block<wr.heap.size)=>cA wr (.cells #[.string f0,.int .i64 f1,.int .i64 f2,.int .i64 f3,.string f4] 46 (0,0)) p hp
   have j0:=(k ⟨g2,m*5,none⟩ hg2).trans x0;have j1:=(k ⟨g2,m*5+1,none⟩ hg2).trans x1;have j2:=(k ⟨g2,m*5+2,none⟩ hg2).trans x2;have j3:=(k ⟨g2,m*5+3,none⟩ hg2).trans x3;have j4:=(k ⟨g2,m*5+4,none⟩ hg2).trans x4;have fz7:∀ o,(wr.alloc (.cells #[.string f0,.int .i64 f1,.int .i64 f2,.int .i64 f3,.string f4] 46 (0,0))).frozen? ⟨g2,o,none⟩=false:=fun o=>by rw [World.frozen?_alloc_past _ _ _ hg2];exact y o
   have hg27:g2<(wr.alloc (.cells #[.string f0,.int .i64 f1,.int .i64 f2,.int .i64 f3,.string f4] 46 (0,0))).heap.size:=by simp;omega
   generalize (wr.alloc (.cells #[.string f0,.int .i64 f1,.int .i64 f2,.int .i64 f3,.string f4] 46 (0,0)))=wP at *;generalize wr.heap.size=P at *;obtain ⟨bt,ot,rfl,hbt,hct⟩:=HX6.out wP S7.bel m hlt;have c0:=S7.c0;have c1:=S7.c1;clear x0 x1 x2 x3 x4 y k S6 htx F7;generalize Tr.xa L m=tm at *;have CP9:=CPm wP.drew (htx7.below ((bR _ _).drew))
   have HK:Hid (∀ wk,Below wP.heap.size wP.drew wk->CpS w6 wk C lo (.slice (some ⟨g,0,none⟩) (D+1) cp) (.slice (some ⟨g2,0,none⟩) N q2) (D+1) N (XS++[.string X]) (fcs (Ar.reI a size m))/\wk.cell? ⟨g2,m*5,none⟩=some (.string f0)/\wk.cell? ⟨g2,m*5+1,none⟩=some (.int .i64 f1)/\wk.cell? ⟨g2,m*5+2,none⟩=some (.int .i64 f2)/\wk.cell? ⟨g2,m*5+3,none⟩=some (.int .i64 f3)/\wk.cell? ⟨g2,m*5+4,none⟩=some (.string f4)/\∀ o,wk.frozen? ⟨g2,o,none⟩=false):=fun wk Gk=>by
    have G9:Below wP.heap.size wP wk:=Below.trans ((bR wP.heap.size wP).drew) Gk;exact ⟨S7.below G9,(G9.cell (p:=⟨g2,m*5,none⟩) hg27).trans j0,(G9.cell (p:=⟨g2,m*5+1,none⟩) hg27).trans j1,(G9.cell (p:=⟨g2,m*5+2,none⟩) hg27).trans j2,(G9.cell (p:=⟨g2,m*5+3,none⟩) hg27).trans j3,(G9.cell (p:=⟨g2,m*5+4,none⟩) hg27).trans j4,fun o=>(G9.frozen (p:=⟨g2,o,none⟩) hg27).trans (fz7 o)⟩
   have hC7:C<wP.heap.size:=S7.hb;have hloC:lo<=C:=S7.hC;have hlg:lo<=g2:=(S7.o2.lt g2 rfl).1;have hbt':bt<wP.heap.size:=by omega
   have hPP:P<wP.heap.size:=cL wP _ hbx
   have hS0:Hid (∀ wk,Below wP.heap.size wP.drew wk->wk.cell? ⟨C,0,none⟩=some (.slice (some ⟨g,0,none⟩) (D+1) cp)/\wk.cell? ⟨C,1,none⟩=some (.slice (some ⟨g2,0,none⟩) N q2)/\wk.cell? ⟨P,0,none⟩=some (.string f0)/\wk.cell? ⟨bt,ot+m,none⟩=some (.string tm)):=fun wk Gk=>by
    have G9:Below wP.heap.size wP wk:=Below.trans ((bR wP.heap.size wP).drew) Gk;exact ⟨(G9.cell (p:=⟨C,0,none⟩) hC7).trans c0,(G9.cell (p:=⟨C,1,none⟩) hC7).trans c1,(G9.cell (p:=⟨P,0,none⟩) hPP).trans hbx,(G9.cell (p:=⟨bt,ot+m,none⟩) hbt').trans hct⟩
   have hne1:C ≠ g2:=fun e=>S7.a2 (show some g2=some C by rw [e])
   have hS5:Hid (∀ wk,Below wP.heap.size wP.drew wk->(fun w9=>w9.cell? ⟨C,0,none⟩=some (.slice (some ⟨g,0,none⟩) (D+1) cp)/\w9.cell? ⟨C,1,none⟩=some (.slice (some ⟨g2,0,none⟩) N q2)/\w9.cell? ⟨P,0,none⟩=some (.string f0)/\w9.cell? ⟨bt,ot+m,none⟩=some (.string tm)) (w5s wk g2 (m*5) (.string n0) (.int .i64 n1) (.int .i64 n2) (.int .i64 n3) (.string n4))):=fun wk Gk=>by
    obtain ⟨e0,e1,e2,e3⟩:=hS0.out wk Gk;have gr:=ZcT wk g2 (m*5) (.string n0) (.int .i64 n1) (.int .i64 n2) (.int .i64 n3) (.string n4);exact ⟨Ze gr e0 (by simpa using hne1),Ze gr e1 (by simpa using hne1),Ze gr e2 (by simp;omega),Ze gr e3 (by simp;omega)⟩
   unfold w5s at hS5;simp only at hS5;clear S7 j0 j1 j2 j3 j4 fz7 htx7 CPm hg2 hct hbt hbt' hbx c0 c1 hC7 hPP hloC hlg;go_region_held3 (fun wk=>wk.cell? ⟨C,0,none⟩=some (.slice (some ⟨g,0,none⟩) (D+1) cp)/\wk.cell? ⟨C,1,none⟩=some (.slice (some ⟨g2,0,none⟩) N q2)/\wk.cell? ⟨P,0,none⟩=some (.string f0)/\wk.cell? ⟨bt,ot+m,none⟩=some (.string tm))
    (first | (exact hS0.out _ (bR _ _)) | (exact hS0.out _ Gk) | (exact hS5.out _ Gk))
    (first
     | (go_at_call 52;refine CP9.mono ?_;rintro e wk ⟨rfl,Gk⟩;obtain ⟨Sk,l0,l1,l2,l3,l4,lf⟩:=HK.out wk Gk;have lf0:=lf (m*5);have lf1:=lf (m*5+1);have lf2:=lf (m*5+2);have lf3:=lf (m*5+3);have lf4:=lf (m*5+4)))
   all_goals
    have S8:=HS5.out wk Sk;unfold w5s at S8;go_wp2_with fail
    go_roundw
    case rel=>exact ⟨m+1,by omega,by go_num,S8⟩
    case measure=>simp [intOf];omega
  ·obtain rfl:m=N:=by omega
   have d1:decide ((m:Int)<(m:Int))=false:=by simp
   rw [HIN.out] at S6;obtain ⟨b,a0,a1,r0,r1,z0,z1,hz⟩:=id F7;obtain ⟨Bz,Oz1,Oz2,Rz0,Rz1⟩:=Zbb b S6.o1 S6.o2 hlo r0 r1;have ne9:=S6.ne;have c0:=S6.c0;have c1:=S6.c1;have hC2:=S6.hb;have hzw:w.heap.size<wr.heap.size:=by omega
   clear S6 F7;go_wp2_with fail
   generalize (wr.setCell ⟨w.heap.size+1,0,none⟩ (.slice (some ⟨g,0,none⟩) (D+1) cp)).setCell ⟨w.heap.size+1,1,none⟩ (.slice p2 m q2)=wz at *;exact bodyPost_ret (v:=.tuple #[.agg #[.slice (some ⟨g,0,none⟩) (D+1) cp,.slice p2 m q2],.int .i64 0]) (by simp [results,Tryz.results25,go_sem,Rz0,Rz1]) rfl (HQ.out _ _ _ Oz1 Oz2 ne9 Bz)
theorem ZeV (ad af:Option Addr) (cd cf:Nat) (a:Ar.A) (size:Int) (w:World) (h:ArV w ad af a) (hs:SaneA a) (hM:Mx w) :
 Calls Tryz.prog 25 #[av ad cd af cf a,.int .i64 size] w fun e w'=>ArSaid w (Ar.retA a size) (Ar.retE a size) e w':=by
 by_cases hE:Ar.retE a size=0
 ·rw [Ar.ZiR hE,hE];exact ZkZ ad af cd cf a size w h hs hM hE
 ·have e:Ar.retA a size=Ar.az:=by unfold Ar.retA;rw [if_neg hE]
  rw [e];unfold Ar.retE at hE |-
  by_cases hc:Ar.chk a=0
  ·rw [if_neg (fun h9=>h9 hc)] at hE |-
   by_cases hz:0<=size/\size<=256
   ·rw [if_pos hz] at hE |-
    by_cases h4:a.dicts.length=4
    ·rw [if_pos h4];exact Zha ad af cd cf a size w h hs hM hc hz h4
    ·rw [if_neg h4] at hE;exact absurd rfl hE
   ·rw [if_neg hz];exact ZgQ ad af cd cf a size w h hs hM hc hz
  ·rw [if_pos hc];exact Ziw ad af cd cf a size w h hs hc
set_option linter.unusedVariables false
theorem ZlA (dict:ByteArray) (ad:Option Addr) (cap:Nat) (l:List Tk.T) (w:World) (hl:SlAt w ad l) (hs:Sane l) :
 Calls Tryz.prog 102 #[.string dict,.slice ad l.length cap] w fun e w'=>e=.returned (.string (Zau dict l))/\Below w.heap.size w w':=by
 have c1:=fun w hl=>ZnJ dict ad cap l w hl hs
 generalize Zau dict l=P at *;generalize Zo dict l=C at *;go_enter Tryz.func102,Tryz.ntmps102
 go_wp2_with fail
 refine (c1 _ hl).mono ?_;rintro e w1 ⟨rfl,G⟩;go_wp2_with fail
 go_ret
 exact ⟨rfl,G⟩
theorem ZgX {dict s:ByteArray} {m:List Tk.T} (hd:dict.size<=256) (hs:s.size<=140737488355328) (hm:ZC dict s=some m) (w:World):Calls Tryz.prog 101 #[.string dict,.string s] w fun e w'=>Below w.heap.size w w'/\∃ ad cap,e=.returned (.tuple #[.slice ad m.length cap,.bool true])/\SlAt w' ad m:=(Zdz dict s w hs).mono fun e w' h=>by
 rw [ZgE hd] at h
 rcases h with ⟨h1,⟨h2,_⟩ | ⟨k,a,c,h2,h3,h4⟩⟩
 ·rw [hm] at h2;cases h2
 ·rw [hm] at h2;cases h2;exact ⟨h1,a,c,h3,h4⟩
theorem ZjD {dict s:ByteArray} (hd:dict.size<=256) (hs:s.size<=140737488355328) (hm:ZC dict s=none) (w:World):Calls Tryz.prog 101 #[.string dict,.string s] w fun e w'=>Below w.heap.size w w'/\e=.returned (.tuple #[.slice none 0 0,.bool false]):=(Zdz dict s w hs).mono fun e w' h=>by
 rw [ZgE hd] at h
 rcases h with ⟨h1,⟨_,h2⟩ | ⟨k,a,c,h2,h3,h4⟩⟩
 ·exact ⟨h1,h2⟩
 ·rw [hm] at h2;cases h2
theorem Zhp {dict s:ByteArray} {m:List Tk.T} (hd:dict.size<=256) (hm:ZC dict s=some m) (ad:Option Addr) (cap:Nat) (w:World) (h:SlAt w ad m):Calls Tryz.prog 102 #[.string dict,.slice ad m.length cap] w fun e w'=>e=.returned (.string (Zau dict m))/\Below w.heap.size w w' :=
 ZlA dict ad cap m w h (Zds (Zbr (ZeB hd hm).2))
theorem ZZ {b:ByteArray} (h0:b.size ≠ 0):b.toList.isEmpty=false:=by
 rw [ByteArray.toList_eq,Bool.eq_false_iff];intro e;rw [List.isEmpty_iff] at e;apply h0;have:=congrArg List.length e;rw [Cd.Zf] at this;simpa using this
theorem ZpC {b:ByteArray} (h:0<b.size):Cd.at8 b 0=b[0].toNat:=by unfold Cd.at8;rw [Nm.ZN b 0 h];rfl
theorem ZuD (s:ByteArray) (j:Nat) (hj:j<8):Cd.at8 (s.extract 0 8) j=Cd.at8 s j:=by
 unfold Cd.at8
 congr 2
 simp [ByteArray.data_extract,Array.toList_extract];rw [List.getElem?_take_of_lt hj,Array.getElem?_toList]
theorem ZjA (s:ByteArray) (i:Nat):Bk.ptK s 8 i=Bk.pt (s.extract 0 8) i:=by
 unfold Bk.pt Bk.ptK;by_cases h:i<2*8
 ·rw [if_pos h,if_pos h,ZuD s (i / 2) (by omega)]
 ·rw [if_neg h,if_neg h]
theorem Zff (dict:ByteArray) (w:World) :
 Calls Tryz.prog 62 #[.string dict,.string ⟨#[]⟩] w fun e w'=>e=.returned (.tuple #[.string ⟨#[]⟩,.bool false])/\Below w.heap.size w w':=by
 go_enter Tryz.func62,Tryz.ntmps62
 go_wp2_with fail
 go_ret2
 exact ⟨rfl,bR _ _⟩
theorem ZlX (dict b S:ByteArray) (w:World) (hd:dict.size<=256) (hb:b.size<=140737488355328) (h0:0<b.size) (hS:b.extract 1 b.size=S) (hx:(b[0].toNat:Int)=0) :
 Calls Tryz.prog 62 #[.string dict,.string b] w fun e w'=>e=.returned (.tuple #[.string S,.bool (decide ((S.size:Int)<=512))])/\Below w.heap.size w w':=by
 have hne:=ZZ (b:=b) (by omega);have hb1:(1:Int)<=(b.size:Int):=by omega
 have hb1n:1<=b.size:=by omega
 have hb0:(0:Int)<(b.size:Int):=by omega
 have hbi:(b.size:Int)<=140737488355328:=by omega
 have hs1:=Zn b 1 b.size;rw [hS] at hs1;have hs2:S.size<=140737488355328:=by omega
 clear hs1;go_enter Tryz.func62,Tryz.ntmps62
 go_wp2_with fail
 go_region
 go_wp2_with fail
 go_ret2
 exact ⟨rfl,(bR _ _).drew⟩
theorem ZkV (dict b S:ByteArray) (w:World) (hd:dict.size<=256) (hb:b.size<=140737488355328) (h0:0<b.size) (hS:b.extract 1 b.size=S) (hx:2<(b[0].toNat:Int)) :
 Calls Tryz.prog 62 #[.string dict,.string b] w fun e w'=>e=.returned (.tuple #[.string ⟨#[]⟩,.bool false])/\Below w.heap.size w w':=by
 have hne:=ZZ (b:=b) (by omega);have hb1:(1:Int)<=(b.size:Int):=by omega
 have hb1n:1<=b.size:=by omega
 have hb0:(0:Int)<(b.size:Int):=by omega
 have hbi:(b.size:Int)<=140737488355328:=by omega
 have hs1:=Zn b 1 b.size;rw [hS] at hs1;have hs2:S.size<=140737488355328:=by omega
 clear hs1
 obtain ⟨x,hxe⟩:∃ x:Int,(b[0].toNat:Int)=x:=⟨_,rfl⟩
 rw [hxe] at hx;have q0:(x == 0)=false:=by simp;omega
 have q1:(x == 2)=false:=by simp;omega
 have q2:¬ x=0:=by omega
 have q3:¬ x=2:=by omega
 have q4:decide (2<x)=true:=by simp;omega
 go_enter Tryz.func62,Tryz.ntmps62
 go_wp2_with fail
 go_region
 go_wp2_with fail
 go_ret2
 exact ⟨rfl,(bR _ _).drew⟩
theorem ZhW (dict b S:ByteArray) (w:World) (hd:dict.size<=256) (hb:b.size<=140737488355328) (h0:0<b.size) (hS:b.extract 1 b.size=S) (hx:(b[0].toNat:Int)=1) (hm:ZC dict S=none) :
 Calls Tryz.prog 62 #[.string dict,.string b] w fun e w'=>e=.returned (.tuple #[.string ⟨#[]⟩,.bool false])/\Below w.heap.size w w':=by
 have hne:=ZZ (b:=b) (by omega);have hb1:(1:Int)<=(b.size:Int):=by omega
 have hb1n:1<=b.size:=by omega
 have hb0:(0:Int)<(b.size:Int):=by omega
 have hbi:(b.size:Int)<=140737488355328:=by omega
 have hs1:=Zn b 1 b.size;rw [hS] at hs1;have hs2:S.size<=140737488355328:=by omega
 clear hs1;have c1:=fun w=>ZjD hd (by omega) hm w
 clear hm;go_enter Tryz.func62,Tryz.ntmps62
 go_wp2_with fail
 go_region
 go_wp2_with fail
 refine (c1 _).mono ?_;rintro e w1 ⟨G1,rfl⟩;have B1:Below w.heap.size w w1:=(bR _ _).drew.trans G1;go_wp2_with fail
 go_ret2
 exact ⟨rfl,B1⟩
theorem ZhX (dict b S:ByteArray) (w:World) (hd:dict.size<=256) (hb:b.size<=140737488355328) (h0:0<b.size) (hS:b.extract 1 b.size=S) (hx:(b[0].toNat:Int)=1) (m:List Tk.T) (hm:ZC dict S=some m) :
 Calls Tryz.prog 62 #[.string dict,.string b] w fun e w'=>e=.returned (.tuple #[.string (Zau dict m),.bool true])/\Below w.heap.size w w':=by
 have hne:=ZZ (b:=b) (by omega);have hb1:(1:Int)<=(b.size:Int):=by omega
 have hb1n:1<=b.size:=by omega
 have hb0:(0:Int)<(b.size:Int):=by omega
 have hbi:(b.size:Int)<=140737488355328:=by omega
 have hs1:=Zn b 1 b.size;rw [hS] at hs1;have hs2:S.size<=140737488355328:=by omega
 clear hs1;have c1:=fun w=>ZgX hd (by omega) hm w
 have c2:=fun ad cap w h=>Zhp hd hm ad cap w h
 clear hm;generalize Zau dict m=P at *;go_enter Tryz.func62,Tryz.ntmps62
 go_wp2_with fail
 go_region
 go_wp2_with fail
 refine (c1 _).mono ?_;rintro e w1 ⟨G1,ad,cap,rfl,S1⟩;have B1:Below w.heap.size w w1:=(bR _ _).drew.trans G1;go_wp2_with fail
 refine (c2 ad cap _ S1).mono ?_;rintro e w2 ⟨rfl,G2⟩;have B2:=bch B1 G2 (nl _);go_wp2_with fail
 go_ret2
 exact ⟨rfl,B2⟩
theorem Zio (dict b S:ByteArray) (w:World) (hd:dict.size<=256) (hb:b.size<=140737488355328) (h0:0<b.size) (hS:b.extract 1 b.size=S) (hx:(b[0].toNat:Int)=2) (h8:S.size<8) :
 Calls Tryz.prog 62 #[.string dict,.string b] w fun e w'=>e=.returned (.tuple #[.string ⟨#[]⟩,.bool false])/\Below w.heap.size w w':=by
 have hne:=ZZ (b:=b) (by omega);have hb1:(1:Int)<=(b.size:Int):=by omega
 have hb1n:1<=b.size:=by omega
 have hb0:(0:Int)<(b.size:Int):=by omega
 have hbi:(b.size:Int)<=140737488355328:=by omega
 have hs1:=Zn b 1 b.size;rw [hS] at hs1;have hs2:S.size<=140737488355328:=by omega
 clear hs1;have h8':(S.size:Int)<8:=by omega
 have h8d:decide ((S.size:Int)<8)=true:=by simp;omega
 go_enter Tryz.func62,Tryz.ntmps62
 go_wp2_with fail
 go_region
 go_wp2_with fail
 go_ret2
 exact ⟨rfl,(bR _ _).drew⟩
set_option linter.unusedVariables false
theorem ZiS (dict b S:ByteArray) (w:World) (hd:dict.size<=256) (hb:b.size<=140737488355328) (h0:0<b.size) (hS:b.extract 1 b.size=S) (hx:(b[0].toNat:Int)=2) (Z:ByteArray) (hZ:S.extract 8 S.size=Z) (h8:¬ S.size<8) (hn:Nm.Zl Z.data.toList=none) :
 Calls Tryz.prog 62 #[.string dict,.string b] w fun e w'=>e=.returned (.tuple #[.string ⟨#[]⟩,.bool false])/\Below w.heap.size w w':=by
 have hne:=ZZ (b:=b) (by omega);have hb1:(1:Int)<=(b.size:Int):=by omega
 have hb1n:1<=b.size:=by omega
 have hb0:(0:Int)<(b.size:Int):=by omega
 have hbi:(b.size:Int)<=140737488355328:=by omega
 have hs1:=Zn b 1 b.size;rw [hS] at hs1;have hs2:S.size<=140737488355328:=by omega
 have hz1:=Zn S 8 S.size;rw [hZ] at hz1;have hz2:Z.size<=140737488355328:=by omega
 clear hs1 hz1;have h8':(8:Int)<=(S.size:Int):=by omega
 have h8n:8<=S.size:=by omega
 have h8d:decide ((S.size:Int)<8)=false:=by simp;omega
 have h8s:(S.size:Int)<=140737488355328:=by omega
 have c1:=fun w=>Zdd Z w (by omega) hn
 have c2:=fun w=>ZaY (Bk.pt (S.extract 0 8)) ⟨#[]⟩ 0 w
 generalize (Cd.rd (Bk.pt (S.extract 0 8)) ⟨#[]⟩ 0).1=X1 at *;generalize (Cd.rd (Bk.pt (S.extract 0 8)) ⟨#[]⟩ 0).2=X2 at *;clear hn;have HX:Hid (∀ i,Bk.ptK S 8 i=Bk.pt (S.extract 0 8) i):=ZjA S;generalize Bk.pt (S.extract 0 8)=f at *;have hif:=Zc f;have R3:=RowAt.new w (fun _=>0);have HB:Below w.heap.size w (w.alloc (.cells (arr fun _=>0) 127)):=(bR _ _).alloc (nl _) _;rw [<-Zm] at R3 HB;go_enter Tryz.func62,Tryz.ntmps62
 go_wp2_with fail
 go_region
 go_wp2_with fail
 rw [Zm] at R3 HB;rw [Zm];generalize w.alloc (.cells (arr fun _=>0) 127)=w0 at *
 obtain ⟨g3,hg3⟩:∃ g3,w.heap.size=g3:=⟨_,rfl⟩
 have hq:Hid (w.heap.size<=g3):=Nat.le_of_eq hg3;have hg3':w.heap.size=g3:=hg3;have R3':RowAt w0 g3 (Bk.ptK S 0):=by rw [<-hg3];exact R3.congr (fun i _=>by simp [Bk.ptK])
 clear R3;rw [hg3'];clear hg3;go_loopw [9] (fun i wr=>∃ k:Nat,k<=8/\i=.int .i64 k/\RowAt wr g3 (Bk.ptK S k)/\Below w.heap.size w wr) (fun i _=>8 - (intOf i).toNat)
 case atStart=>exact ⟨0,by omega,rfl,R3',HB.drew⟩
 case round =>
  clear R3' HB;obtain ⟨k,hk,rfl,R3,HB⟩:=hrel;by_cases hlt:k<8
  ·have hk1:decide ((k:Int)<8)=true:=by simp;omega
   have hk2:decide (k<8)=true:=by simp;omega
   have hks:k<S.size:=by omega
   have hk3:(k:Int)<(S.size:Int):=by omega
   obtain ⟨x,hxx⟩:∃ x:Int,(S[k].toNat:Int)=x:=⟨_,rfl⟩
   have hA:Cd.at8 S k=S[k].toNat:=by unfold Cd.at8;rw [Nm.ZN S k hks];rfl
   have hA2:=Cd.ZaC S k;have hx0:0<=x:=by omega
   have hx1:x<=255:=by omega
   obtain ⟨H,hH⟩:∃ H,Cd.at8 S k / 16=H:=⟨_,rfl⟩
   obtain ⟨L,hL⟩:∃ L,Cd.at8 S k % 16=L:=⟨_,rfl⟩
   have e1:x / 16=(H:Int):=by omega
   have e2:x % 16=(L:Int):=by omega
   have e3:x.tdiv 16=(H:Int):=by rw [Int.tdiv_eq_ediv_of_nonneg hx0];exact e1
   have e4:x.tmod 16=(L:Int):=by rw [Int.tmod_eq_emod_of_nonneg hx0];exact e2
   have hH2:H<16:=by omega
   have hL2:L<16:=by omega
   have u1:IntKind.u8.wrap (H:Int)=(H:Int):=IntWalk.u8_in _ ⟨by omega,by omega⟩;have u2:IntKind.i64.wrap (H:Int)=(H:Int):=IntWalk.i64_in _ ⟨by omega,by omega⟩;have u3:IntKind.u8.wrap (L:Int)=(L:Int):=IntWalk.u8_in _ ⟨by omega,by omega⟩;have u4:IntKind.i64.wrap (L:Int)=(L:Int):=IntWalk.i64_in _ ⟨by omega,by omega⟩
   obtain ⟨K2,hK2e⟩:∃ K2,2*k=K2:=⟨_,rfl⟩
   obtain ⟨K3,hK3e⟩:∃ K3,2*k+1=K3:=⟨_,rfl⟩
   have hK2:K2<16:=by omega
   have hK3:K3<16:=by omega
   have m2:2*(k:Int)=(K2:Int):=by omega
   have m3:(K2:Int)+1=(K3:Int):=by omega
   have hK2i:(K2:Int)<16:=by omega
   have hK3i:(K3:Int)<16:=by omega
   have w4:IntKind.i64.wrap (K2:Int)=(K2:Int):=IntWalk.i64_in _ ⟨by omega,by omega⟩;have w5:IntKind.i64.wrap (K3:Int)=(K3:Int):=IntWalk.i64_in _ ⟨by omega,by omega⟩;have c1:=R3.cell K2 hK2;have f1:=R3.frozen K2;have c2:=R3.cell K3 hK3;have f2:=R3.frozen K3;have S3:=R3.set K2 (H:Int);have SB:=HB.setCell (p:=⟨g3,K2,none⟩) (by have:=hq.out;show _<=g3;omega) (.int .i64 (H:Int));have T3:=(S3.set K3 (L:Int)).congr (f':=Bk.ptK S (k+1)) (fun i _=>by rw [<-hK2e,<-hK3e,<-hH,<-hL];exact Bk.ZcC S k i);have TB:=SB.setCell (p:=⟨g3,K3,none⟩) (by have:=hq.out;show _<=g3;omega) (.int .i64 (L:Int));clear hA hA2 hH hL e1 e2 hK2e hK3e R3 HB S3 SB;go_wp2_with fail
   go_region
   all_goals go_wp2_with fail
   all_goals go_roundw
   case rel=>exact ⟨k+1,by omega,by go_num,T3,TB.drew⟩
   case measure=>simp [intOf];omega
  ·obtain rfl:k=8:=by omega
   have hk1:decide ((8:Int)<8)=false:=by decide
   have R4:=R3.congr (f':=f) (fun i _=>HX.out i);clear R3 HX hx;go_wp2_with fail
   refine (c1 _).mono ?_;rintro e w1 ⟨rfl,G1⟩;have R5:=R4.below G1;have B5:=bch HB G1 (nl _);clear R4 HB G1 c1;go_wp2_with (refine wpList_load_row rfl 127 _ rfl g3 rfl 127 (arr f) (0,0) _ R5.2 U127 rfl hif ?_)
   refine (c2 _).mono ?_;rintro e w2 ⟨rfl,G2⟩;have B6:=bch B5 G2 (nl _);go_wp2_with fail
   go_ret2
   exact ⟨rfl,B6⟩
theorem ZiI (dict b S:ByteArray) (w:World) (hd:dict.size<=256) (hb:b.size<=140737488355328) (h0:0<b.size) (hS:b.extract 1 b.size=S) (hx:(b[0].toNat:Int)=2) (Z:ByteArray) (hZ:S.extract 8 S.size=Z) (h8:¬ S.size<8) (n k:Nat) (Y:ByteArray) (hn:Nm.Zl Z.data.toList=some (n,k)) (hY:Z.extract k Z.size=Y) (hE:(Cd.rd (Bk.pt (S.extract 0 8)) Y (n:Nat)).2 ≠ 0) :
 Calls Tryz.prog 62 #[.string dict,.string b] w fun e w'=>e=.returned (.tuple #[.string ⟨#[]⟩,.bool false])/\Below w.heap.size w w':=by
 have hne:=ZZ (b:=b) (by omega);have hb1:(1:Int)<=(b.size:Int):=by omega
 have hb1n:1<=b.size:=by omega
 have hb0:(0:Int)<(b.size:Int):=by omega
 have hbi:(b.size:Int)<=140737488355328:=by omega
 have hs1:=Zn b 1 b.size;rw [hS] at hs1;have hs2:S.size<=140737488355328:=by omega
 have hz1:=Zn S 8 S.size;rw [hZ] at hz1;have hz2:Z.size<=140737488355328:=by omega
 clear hs1 hz1;have h8':(8:Int)<=(S.size:Int):=by omega
 have h8n:8<=S.size:=by omega
 have h8d:decide ((S.size:Int)<8)=false:=by simp;omega
 have h8s:(S.size:Int)<=140737488355328:=by omega
 have c1:=fun w=>ZaS Z w n k (by omega) hn
 rw [hY] at c1;have c2:=fun w=>ZaY (Bk.pt (S.extract 0 8)) Y (n:Nat) w
 generalize (Cd.rd (Bk.pt (S.extract 0 8)) Y (n:Nat)).1=X1 at *;generalize (Cd.rd (Bk.pt (S.extract 0 8)) Y (n:Nat)).2=X2 at *;have q1:(X2 == 0)=false:=by simp [hE]
 have q2:(X2 != 0)=true:=by simp [hE]
 clear hn hY;have HX:Hid (∀ i,Bk.ptK S 8 i=Bk.pt (S.extract 0 8) i):=ZjA S;generalize Bk.pt (S.extract 0 8)=f at *;have hif:=Zc f;have R3:=RowAt.new w (fun _=>0);have HB:Below w.heap.size w (w.alloc (.cells (arr fun _=>0) 127)):=(bR _ _).alloc (nl _) _;rw [<-Zm] at R3 HB;go_enter Tryz.func62,Tryz.ntmps62
 go_wp2_with fail
 go_region
 go_wp2_with fail
 rw [Zm] at R3 HB;rw [Zm];generalize w.alloc (.cells (arr fun _=>0) 127)=w0 at *
 obtain ⟨g3,hg3⟩:∃ g3,w.heap.size=g3:=⟨_,rfl⟩
 have hq:Hid (w.heap.size<=g3):=Nat.le_of_eq hg3;have hg3':w.heap.size=g3:=hg3;have R3':RowAt w0 g3 (Bk.ptK S 0):=by rw [<-hg3];exact R3.congr (fun i _=>by simp [Bk.ptK])
 clear R3;rw [hg3'];clear hg3;go_loopw [9] (fun i wr=>∃ k:Nat,k<=8/\i=.int .i64 k/\RowAt wr g3 (Bk.ptK S k)/\Below w.heap.size w wr) (fun i _=>8 - (intOf i).toNat)
 case atStart=>exact ⟨0,by omega,rfl,R3',HB.drew⟩
 case round =>
  clear R3' HB;obtain ⟨k,hk,rfl,R3,HB⟩:=hrel;by_cases hlt:k<8
  ·have hk1:decide ((k:Int)<8)=true:=by simp;omega
   have hk2:decide (k<8)=true:=by simp;omega
   have hks:k<S.size:=by omega
   have hk3:(k:Int)<(S.size:Int):=by omega
   obtain ⟨x,hxx⟩:∃ x:Int,(S[k].toNat:Int)=x:=⟨_,rfl⟩
   have hA:Cd.at8 S k=S[k].toNat:=by unfold Cd.at8;rw [Nm.ZN S k hks];rfl
   have hA2:=Cd.ZaC S k;have hx0:0<=x:=by omega
   have hx1:x<=255:=by omega
   obtain ⟨H,hH⟩:∃ H,Cd.at8 S k / 16=H:=⟨_,rfl⟩
   obtain ⟨L,hL⟩:∃ L,Cd.at8 S k % 16=L:=⟨_,rfl⟩
   have e1:x / 16=(H:Int):=by omega
   have e2:x % 16=(L:Int):=by omega
   have e3:x.tdiv 16=(H:Int):=by rw [Int.tdiv_eq_ediv_of_nonneg hx0];exact e1
   have e4:x.tmod 16=(L:Int):=by rw [Int.tmod_eq_emod_of_nonneg hx0];exact e2
   have hH2:H<16:=by omega
   have hL2:L<16:=by omega
   have u1:IntKind.u8.wrap (H:Int)=(H:Int):=IntWalk.u8_in _ ⟨by omega,by omega⟩;have u2:IntKind.i64.wrap (H:Int)=(H:Int):=IntWalk.i64_in _ ⟨by omega,by omega⟩;have u3:IntKind.u8.wrap (L:Int)=(L:Int):=IntWalk.u8_in _ ⟨by omega,by omega⟩;have u4:IntKind.i64.wrap (L:Int)=(L:Int):=IntWalk.i64_in _ ⟨by omega,by omega⟩
   obtain ⟨K2,hK2e⟩:∃ K2,2*k=K2:=⟨_,rfl⟩
   obtain ⟨K3,hK3e⟩:∃ K3,2*k+1=K3:=⟨_,rfl⟩
   have hK2:K2<16:=by omega
   have hK3:K3<16:=by omega
   have m2:2*(k:Int)=(K2:Int):=by omega
   have m3:(K2:Int)+1=(K3:Int):=by omega
   have hK2i:(K2:Int)<16:=by omega
   have hK3i:(K3:Int)<16:=by omega
   have w4:IntKind.i64.wrap (K2:Int)=(K2:Int):=IntWalk.i64_in _ ⟨by omega,by omega⟩;have w5:IntKind.i64.wrap (K3:Int)=(K3:Int):=IntWalk.i64_in _ ⟨by omega,by omega⟩;have c1:=R3.cell K2 hK2;have f1:=R3.frozen K2;have c2:=R3.cell K3 hK3;have f2:=R3.frozen K3;have S3:=R3.set K2 (H:Int);have SB:=HB.setCell (p:=⟨g3,K2,none⟩) (by have:=hq.out;show _<=g3;omega) (.int .i64 (H:Int));have T3:=(S3.set K3 (L:Int)).congr (f':=Bk.ptK S (k+1)) (fun i _=>by rw [<-hK2e,<-hK3e,<-hH,<-hL];exact Bk.ZcC S k i);have TB:=SB.setCell (p:=⟨g3,K3,none⟩) (by have:=hq.out;show _<=g3;omega) (.int .i64 (L:Int));clear hA hA2 hH hL e1 e2 hK2e hK3e R3 HB S3 SB;go_wp2_with fail
   go_region
   all_goals go_wp2_with fail
   all_goals go_roundw
   case rel=>exact ⟨k+1,by omega,by go_num,T3,TB.drew⟩
   case measure=>simp [intOf];omega
  ·obtain rfl:k=8:=by omega
   have hk1:decide ((8:Int)<8)=false:=by decide
   have R4:=R3.congr (f':=f) (fun i _=>HX.out i);clear R3 HX hx;go_wp2_with fail
   refine (c1 _).mono ?_;rintro e w1 ⟨rfl,G1⟩;have R5:=R4.below G1;have B5:=bch HB G1 (nl _);clear R4 HB G1 c1;go_wp2_with (refine wpList_load_row rfl 127 _ rfl g3 rfl 127 (arr f) (0,0) _ R5.2 U127 rfl hif ?_)
   refine (c2 _).mono ?_;rintro e w2 ⟨rfl,G2⟩;have B6:=bch B5 G2 (nl _);clear R5 B5 G2 c2;go_wp2_with fail
   go_ret2
   exact ⟨rfl,B6⟩
theorem Zhr (dict b S:ByteArray) (w:World) (hd:dict.size<=256) (hb:b.size<=140737488355328) (h0:0<b.size) (hS:b.extract 1 b.size=S) (hx:(b[0].toNat:Int)=2) (Z:ByteArray) (hZ:S.extract 8 S.size=Z) (h8:¬ S.size<8) (n k:Nat) (Y:ByteArray) (hn:Nm.Zl Z.data.toList=some (n,k)) (hY:Z.extract k Z.size=Y) (X1:ByteArray) (hE:Cd.rd (Bk.pt (S.extract 0 8)) Y (n:Nat)=(X1,0)) (hX:X1.size<=140737488355328) (hm:ZC dict X1=none) :
 Calls Tryz.prog 62 #[.string dict,.string b] w fun e w'=>e=.returned (.tuple #[.string ⟨#[]⟩,.bool false])/\Below w.heap.size w w':=by
 have hne:=ZZ (b:=b) (by omega);have hb1:(1:Int)<=(b.size:Int):=by omega
 have hb1n:1<=b.size:=by omega
 have hb0:(0:Int)<(b.size:Int):=by omega
 have hbi:(b.size:Int)<=140737488355328:=by omega
 have hs1:=Zn b 1 b.size;rw [hS] at hs1;have hs2:S.size<=140737488355328:=by omega
 have hz1:=Zn S 8 S.size;rw [hZ] at hz1;have hz2:Z.size<=140737488355328:=by omega
 clear hs1 hz1;have h8':(8:Int)<=(S.size:Int):=by omega
 have h8n:8<=S.size:=by omega
 have h8d:decide ((S.size:Int)<8)=false:=by simp;omega
 have h8s:(S.size:Int)<=140737488355328:=by omega
 have c1:=fun w=>ZaS Z w n k (by omega) hn
 rw [hY] at c1;have c2:=fun w=>ZaY (Bk.pt (S.extract 0 8)) Y (n:Nat) w
 rw [hE] at c2;have c3:=fun w=>ZjD hd hX hm w
 clear hn hY hE hm;have HX:Hid (∀ i,Bk.ptK S 8 i=Bk.pt (S.extract 0 8) i):=ZjA S;generalize Bk.pt (S.extract 0 8)=f at *;have hif:=Zc f;have R3:=RowAt.new w (fun _=>0);have HB:Below w.heap.size w (w.alloc (.cells (arr fun _=>0) 127)):=(bR _ _).alloc (nl _) _;rw [<-Zm] at R3 HB;go_enter Tryz.func62,Tryz.ntmps62
 go_wp2_with fail
 go_region
 go_wp2_with fail
 rw [Zm] at R3 HB;rw [Zm];generalize w.alloc (.cells (arr fun _=>0) 127)=w0 at *
 obtain ⟨g3,hg3⟩:∃ g3,w.heap.size=g3:=⟨_,rfl⟩
 have hq:Hid (w.heap.size<=g3):=Nat.le_of_eq hg3;have hg3':w.heap.size=g3:=hg3;have R3':RowAt w0 g3 (Bk.ptK S 0):=by rw [<-hg3];exact R3.congr (fun i _=>by simp [Bk.ptK])
 clear R3;rw [hg3'];clear hg3;go_loopw [9] (fun i wr=>∃ k:Nat,k<=8/\i=.int .i64 k/\RowAt wr g3 (Bk.ptK S k)/\Below w.heap.size w wr) (fun i _=>8 - (intOf i).toNat)
 case atStart=>exact ⟨0,by omega,rfl,R3',HB.drew⟩
 case round =>
  clear R3' HB;obtain ⟨k,hk,rfl,R3,HB⟩:=hrel;by_cases hlt:k<8
  ·have hk1:decide ((k:Int)<8)=true:=by simp;omega
   have hk2:decide (k<8)=true:=by simp;omega
   have hks:k<S.size:=by omega
   have hk3:(k:Int)<(S.size:Int):=by omega
   obtain ⟨x,hxx⟩:∃ x:Int,(S[k].toNat:Int)=x:=⟨_,rfl⟩
   have hA:Cd.at8 S k=S[k].toNat:=by unfold Cd.at8;rw [Nm.ZN S k hks];rfl
   have hA2:=Cd.ZaC S k;have hx0:0<=x:=by omega
   have hx1:x<=255:=by omega
   obtain ⟨H,hH⟩:∃ H,Cd.at8 S k / 16=H:=⟨_,rfl⟩
   obtain ⟨L,hL⟩:∃ L,Cd.at8 S k % 16=L:=⟨_,rfl⟩
   have e1:x / 16=(H:Int):=by omega
   have e2:x % 16=(L:Int):=by omega
   have e3:x.tdiv 16=(H:Int):=by rw [Int.tdiv_eq_ediv_of_nonneg hx0];exact e1
   have e4:x.tmod 16=(L:Int):=by rw [Int.tmod_eq_emod_of_nonneg hx0];exact e2
   have hH2:H<16:=by omega
   have hL2:L<16:=by omega
   have u1:IntKind.u8.wrap (H:Int)=(H:Int):=IntWalk.u8_in _ ⟨by omega,by omega⟩;have u2:IntKind.i64.wrap (H:Int)=(H:Int):=IntWalk.i64_in _ ⟨by omega,by omega⟩;have u3:IntKind.u8.wrap (L:Int)=(L:Int):=IntWalk.u8_in _ ⟨by omega,by omega⟩;have u4:IntKind.i64.wrap (L:Int)=(L:Int):=IntWalk.i64_in _ ⟨by omega,by omega⟩
   obtain ⟨K2,hK2e⟩:∃ K2,2*k=K2:=⟨_,rfl⟩
   obtain ⟨K3,hK3e⟩:∃ K3,2*k+1=K3:=⟨_,rfl⟩
   have hK2:K2<16:=by omega
   have hK3:K3<16:=by omega
   have m2:2*(k:Int)=(K2:Int):=by omega
   have m3:(K2:Int)+1=(K3:Int):=by omega
   have hK2i:(K2:Int)<16:=by omega
   have hK3i:(K3:Int)<16:=by omega
   have w4:IntKind.i64.wrap (K2:Int)=(K2:Int):=IntWalk.i64_in _ ⟨by omega,by omega⟩;have w5:IntKind.i64.wrap (K3:Int)=(K3:Int):=IntWalk.i64_in _ ⟨by omega,by omega⟩;have c1:=R3.cell K2 hK2;have f1:=R3.frozen K2;have c2:=R3.cell K3 hK3;have f2:=R3.frozen K3;have S3:=R3.set K2 (H:Int);have SB:=HB.setCell (p:=⟨g3,K2,none⟩) (by have:=hq.out;show _<=g3;omega) (.int .i64 (H:Int));have T3:=(S3.set K3 (L:Int)).congr (f':=Bk.ptK S (k+1)) (fun i _=>by rw [<-hK2e,<-hK3e,<-hH,<-hL];exact Bk.ZcC S k i);have TB:=SB.setCell (p:=⟨g3,K3,none⟩) (by have:=hq.out;show _<=g3;omega) (.int .i64 (L:Int));clear hA hA2 hH hL e1 e2 hK2e hK3e R3 HB S3 SB;go_wp2_with fail
   go_region
   all_goals go_wp2_with fail
   all_goals go_roundw
   case rel=>exact ⟨k+1,by omega,by go_num,T3,TB.drew⟩
   case measure=>simp [intOf];omega
  ·obtain rfl:k=8:=by omega
   have hk1:decide ((8:Int)<8)=false:=by decide
   have R4:=R3.congr (f':=f) (fun i _=>HX.out i);clear R3 HX hx;go_wp2_with fail
   refine (c1 _).mono ?_;rintro e w1 ⟨rfl,G1⟩;have R5:=R4.below G1;have B5:=bch HB G1 (nl _);clear R4 HB G1 c1;go_wp2_with (refine wpList_load_row rfl 127 _ rfl g3 rfl 127 (arr f) (0,0) _ R5.2 U127 rfl hif ?_)
   refine (c2 _).mono ?_;rintro e w2 ⟨rfl,G2⟩;have B6:=bch B5 G2 (nl _);clear R5 B5 G2 c2;go_wp2_with fail
   refine (c3 _).mono ?_;rintro e w3 ⟨G3,rfl⟩;have B7:=bch B6 G3 (nl _);go_wp2_with fail
   go_ret2
   exact ⟨rfl,B7⟩
theorem ZhQ (dict b S:ByteArray) (w:World) (hd:dict.size<=256) (hb:b.size<=140737488355328) (h0:0<b.size) (hS:b.extract 1 b.size=S) (hx:(b[0].toNat:Int)=2) (Z:ByteArray) (hZ:S.extract 8 S.size=Z) (h8:¬ S.size<8) (n k:Nat) (Y:ByteArray) (hn:Nm.Zl Z.data.toList=some (n,k)) (hY:Z.extract k Z.size=Y) (X1:ByteArray) (hE:Cd.rd (Bk.pt (S.extract 0 8)) Y (n:Nat)=(X1,0)) (hX:X1.size<=140737488355328) (m:List Tk.T) (hm:ZC dict X1=some m) :
 Calls Tryz.prog 62 #[.string dict,.string b] w fun e w'=>e=.returned (.tuple #[.string (Zau dict m),.bool true])/\Below w.heap.size w w':=by
 have hne:=ZZ (b:=b) (by omega);have hb1:(1:Int)<=(b.size:Int):=by omega
 have hb1n:1<=b.size:=by omega
 have hb0:(0:Int)<(b.size:Int):=by omega
 have hbi:(b.size:Int)<=140737488355328:=by omega
 have hs1:=Zn b 1 b.size;rw [hS] at hs1;have hs2:S.size<=140737488355328:=by omega
 have hz1:=Zn S 8 S.size;rw [hZ] at hz1;have hz2:Z.size<=140737488355328:=by omega
 clear hs1 hz1;have h8':(8:Int)<=(S.size:Int):=by omega
 have h8n:8<=S.size:=by omega
 have h8d:decide ((S.size:Int)<8)=false:=by simp;omega
 have h8s:(S.size:Int)<=140737488355328:=by omega
 have c1:=fun w=>ZaS Z w n k (by omega) hn
 rw [hY] at c1;have c2:=fun w=>ZaY (Bk.pt (S.extract 0 8)) Y (n:Nat) w
 rw [hE] at c2;have c3:=fun w=>ZgX hd hX hm w
 have c4:=fun ad cap w h=>Zhp hd hm ad cap w h
 clear hn hY hE hm;generalize Zau dict m=P at *;have HX:Hid (∀ i,Bk.ptK S 8 i=Bk.pt (S.extract 0 8) i):=ZjA S;generalize Bk.pt (S.extract 0 8)=f at *;have hif:=Zc f;have R3:=RowAt.new w (fun _=>0);have HB:Below w.heap.size w (w.alloc (.cells (arr fun _=>0) 127)):=(bR _ _).alloc (nl _) _;rw [<-Zm] at R3 HB;go_enter Tryz.func62,Tryz.ntmps62
 go_wp2_with fail
 go_region
 go_wp2_with fail
 rw [Zm] at R3 HB;rw [Zm];generalize w.alloc (.cells (arr fun _=>0) 127)=w0 at *
 obtain ⟨g3,hg3⟩:∃ g3,w.heap.size=g3:=⟨_,rfl⟩
 have hq:Hid (w.heap.size<=g3):=Nat.le_of_eq hg3;have hg3':w.heap.size=g3:=hg3;have R3':RowAt w0 g3 (Bk.ptK S 0):=by rw [<-hg3];exact R3.congr (fun i _=>by simp [Bk.ptK])
 clear R3;rw [hg3'];clear hg3;go_loopw [9] (fun i wr=>∃ k:Nat,k<=8/\i=.int .i64 k/\RowAt wr g3 (Bk.ptK S k)/\Below w.heap.size w wr) (fun i _=>8 - (intOf i).toNat)
 case atStart=>exact ⟨0,by omega,rfl,R3',HB.drew⟩
 case round =>
  clear R3' HB;obtain ⟨k,hk,rfl,R3,HB⟩:=hrel;by_cases hlt:k<8
  ·have hk1:decide ((k:Int)<8)=true:=by simp;omega
   have hk2:decide (k<8)=true:=by simp;omega
   have hks:k<S.size:=by omega
   have hk3:(k:Int)<(S.size:Int):=by omega
   obtain ⟨x,hxx⟩:∃ x:Int,(S[k].toNat:Int)=x:=⟨_,rfl⟩
   have hA:Cd.at8 S k=S[k].toNat:=by unfold Cd.at8;rw [Nm.ZN S k hks];rfl
   have hA2:=Cd.ZaC S k;have hx0:0<=x:=by omega
   have hx1:x<=255:=by omega
   obtain ⟨H,hH⟩:∃ H,Cd.at8 S k / 16=H:=⟨_,rfl⟩
   obtain ⟨L,hL⟩:∃ L,Cd.at8 S k % 16=L:=⟨_,rfl⟩
   have e1:x / 16=(H:Int):=by omega
   have e2:x % 16=(L:Int):=by omega
   have e3:x.tdiv 16=(H:Int):=by rw [Int.tdiv_eq_ediv_of_nonneg hx0];exact e1
   have e4:x.tmod 16=(L:Int):=by rw [Int.tmod_eq_emod_of_nonneg hx0];exact e2
   have hH2:H<16:=by omega
   have hL2:L<16:=by omega
   have u1:IntKind.u8.wrap (H:Int)=(H:Int):=IntWalk.u8_in _ ⟨by omega,by omega⟩;have u2:IntKind.i64.wrap (H:Int)=(H:Int):=IntWalk.i64_in _ ⟨by omega,by omega⟩;have u3:IntKind.u8.wrap (L:Int)=(L:Int):=IntWalk.u8_in _ ⟨by omega,by omega⟩;have u4:IntKind.i64.wrap (L:Int)=(L:Int):=IntWalk.i64_in _ ⟨by omega,by omega⟩
   obtain ⟨K2,hK2e⟩:∃ K2,2*k=K2:=⟨_,rfl⟩
   obtain ⟨K3,hK3e⟩:∃ K3,2*k+1=K3:=⟨_,rfl⟩
   have hK2:K2<16:=by omega
   have hK3:K3<16:=by omega
   have m2:2*(k:Int)=(K2:Int):=by omega
   have m3:(K2:Int)+1=(K3:Int):=by omega
   have hK2i:(K2:Int)<16:=by omega
   have hK3i:(K3:Int)<16:=by omega
   have w4:IntKind.i64.wrap (K2:Int)=(K2:Int):=IntWalk.i64_in _ ⟨by omega,by omega⟩;have w5:IntKind.i64.wrap (K3:Int)=(K3:Int):=IntWalk.i64_in _ ⟨by omega,by omega⟩;have c1:=R3.cell K2 hK2;have f1:=R3.frozen K2;have c2:=R3.cell K3 hK3;have f2:=R3.frozen K3;have S3:=R3.set K2 (H:Int);have SB:=HB.setCell (p:=⟨g3,K2,none⟩) (by have:=hq.out;show _<=g3;omega) (.int .i64 (H:Int));have T3:=(S3.set K3 (L:Int)).congr (f':=Bk.ptK S (k+1)) (fun i _=>by rw [<-hK2e,<-hK3e,<-hH,<-hL];exact Bk.ZcC S k i);have TB:=SB.setCell (p:=⟨g3,K3,none⟩) (by have:=hq.out;show _<=g3;omega) (.int .i64 (L:Int));clear hA hA2 hH hL e1 e2 hK2e hK3e R3 HB S3 SB;go_wp2_with fail
   go_region
   all_goals go_wp2_with fail
   all_goals go_roundw
   case rel=>exact ⟨k+1,by omega,by go_num,T3,TB.drew⟩
   case measure=>simp [intOf];omega
  ·obtain rfl:k=8:=by omega
   have hk1:decide ((8:Int)<8)=false:=by decide
   have R4:=R3.congr (f':=f) (fun i _=>HX.out i);clear R3 HX hx;go_wp2_with fail
   refine (c1 _).mono ?_;rintro e w1 ⟨rfl,G1⟩;have R5:=R4.below G1;have B5:=bch HB G1 (nl _);clear R4 HB G1 c1;go_wp2_with (refine wpList_load_row rfl 127 _ rfl g3 rfl 127 (arr f) (0,0) _ R5.2 U127 rfl hif ?_)
   refine (c2 _).mono ?_;rintro e w2 ⟨rfl,G2⟩;have B6:=bch B5 G2 (nl _);clear R5 B5 G2 c2;go_wp2_with fail
   refine (c3 _).mono ?_;rintro e w3 ⟨G3,ad,cap,rfl,S3⟩;have B7:=bch B6 G3 (nl _);go_wp2_with fail
   refine (c4 ad cap _ S3).mono ?_;rintro e w4 ⟨rfl,G4⟩;have B8:=bch B7 G4 (nl _);go_wp2_with fail
   go_ret2
   exact ⟨rfl,B8⟩
end Go.Proofs.YtbjbjbpgmojcbabGreat
