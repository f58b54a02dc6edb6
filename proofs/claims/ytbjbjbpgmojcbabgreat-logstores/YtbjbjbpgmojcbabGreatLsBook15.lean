/- A part of the proof: what it leans on. -/
import Derived.WalkMore
import Derived.RegionTactic
import Derived.ChangeAlike
import Derived.BigRegion
import Derived.Test.YtbjbjbpgmojcbabGreatLsBook01
import Derived.Test.YtbjbjbpgmojcbabGreatLsBook02
import Derived.Test.YtbjbjbpgmojcbabGreatLsBook07
import Derived.Test.YtbjbjbpgmojcbabGreatLsBook08
import Derived.Test.YtbjbjbpgmojcbabGreatLsBook10
import Derived.Test.YtbjbjbpgmojcbabGreatLsBook11
import Derived.Test.YtbjbjbpgmojcbabGreatLsBook14
set_option maxRecDepth 8000
set_option maxHeartbeats 8000000
namespace Go.Proofs.YtbjbjbpgmojcbabGreat
open Go.RowKit
theorem Zak {p:Prop} (h:p):Hid p:=h
def Ar.anyK (fs:List Ar.F) (n:Int):Nat->Bool
 | 0=>false
 | k+1=>Ar.anyK fs n k || decide ((Ar.fa fs k).dict=n)
theorem Zoc {fs:List Ar.F} {n:Int}:∀ {k:Nat},k<=fs.length->(Ar.anyK fs n k=(fs.take k).any fun f=>decide (f.dict=n))
 | 0,_=>by simp [Ar.anyK]
 | k+1,h=>by
  rw [Ar.anyK,Zoc (by omega),Ar.ZQ (by omega),List.any_append];simp
theorem Zng {a:Ar.A} {n:Int}:Ar.anyK a.files n a.files.length=Ar.used a n:=by
 rw [Zoc (nl _),List.take_length];rfl
theorem Zmz:∀ (fs:List Ar.F) (i r:Nat),i<fs.length->r<5->(fcs fs)[i*5+r]?=(fc (Ar.fa fs i))[r]?
 | f :: fs,0,r,_,hr=>by
  rw [fcs,List.getElem?_append_left (by simp;omega)];simp only [Nat.zero_mul,Nat.zero_add];rfl
 | f :: fs,i+1,r,h,hr=>by
  have ih:=Zmz fs i r (by simpa using h) hr;rw [fcs,List.getElem?_append_right (by simp;omega)];have e:(i+1)*5+r - ([.string f.name,.int .i64 f.dict,.int .i64 f.size,.int .i64 f.sum,.string f.blk]:List Value).length=i*5+r:=by simp;omega
  rw [e,ih];rfl
theorem FlSl.news {w:World} {ad:Option Addr} {l:List Ar.F} (h:FlSl w ad l):l.length=0\/∃ b,ad=some b/\∀ j u,(fcs l)[j]?=some u->w.cell? (b.add j)=some u:=by
 rcases h with rfl | ⟨b,off,rfl,_,h⟩
 ·exact .inl rfl
 ·refine .inr ⟨_,rfl,fun j u hj=>?_⟩;rw [Zkj]
  have hl:j<l.length*5:=by
   rcases Nat.lt_or_ge j (l.length*5) with h9 | h9
   ·exact h9
   ·rw [List.getElem?_eq_none (by rw [Zai];exact h9)] at hj;cases hj
  have hi:j / 5<l.length:=by omega
  have e:j=j / 5*5+j % 5:=by omega
  have hr:j % 5<5:=by omega
  obtain ⟨c0,c1,c2,c3,c4⟩:=h (j / 5) hi;rw [e,Zmz l (j / 5) (j % 5) hi hr] at hj;rw [e,<-Nat.add_assoc];generalize j / 5=i at *;generalize j % 5=r at *
  match r,hr with
  | 0,_=>rw [Nat.add_zero,c0];exact hj
  | 1,_=>rw [c1];exact hj
  | 2,_=>rw [c2];exact hj
  | 3,_=>rw [c3];exact hj
  | 4,_=>rw [c4];exact hj
theorem ZpQ (a:Ar.A):a.files.map (Ar.cpF a 0)=a.files:=by
 conv=>rhs;rw [<-List.map_id a.files]
 refine List.map_congr_left (fun f _=>?_);unfold Ar.cpF;rw [if_neg (by omega)];rfl
namespace Im
theorem Zqi {s r q:ByteArray} {k:Nat} {x:Act} (hr:s.extract k s.size=r) (h:rAct r=some (x,q)):q.size<r.size/\r.size=s.size - k/\s.extract (k+(r.size - q.size)) s.size=q:=by
 obtain ⟨_,h2⟩:=(Zgq r x q).1 h;have hl:=congrArg List.length h2;rw [List.length_append,<-Zj,<-Zj] at hl;have hp:0<(actB x).length:=List.length_pos_iff.2 (ZjG x);have hz:r.size=s.size - k:=by rw [<-hr];simp
 refine ⟨by omega,hz,?_⟩;apply Nm.ZG;rw [Zap,<-List.drop_drop,<-Zap s k,hr,h2,show r.size - q.size=(actB x).length by omega];simp
end Im
def RpSaid (l:List Im.Act) (n:Nat) (E:Int) (w:World) (e:Ending) (w':World):Prop:=∃ v,e=.returned (.tuple #[v,.int .i64 (n:Nat),.int .i64 E])/\w'.ownsRow w.heap.size 54 4 v l.length (xcs l)/\Below w.heap.size w w'
theorem Zdh (s:ByteArray) (w:World) :
 Calls Tryz.prog 42 #[.string s] w fun e w'=>RpSaid (Im.rplL s) (Im.rplN s) (Im.rplE s) w e w':=by
 by_cases hbig:16384<s.size
 ·have e1:Im.rplL s=[]:=if_pos hbig;have e2:Im.rplN s=0:=if_pos hbig;have e3:Im.rplE s=2:=if_pos hbig;rw [e1,e2,e3];have d1:decide ((16384:Int)<(s.size:Int))=true:=zdT (by omega)
  have hq:RpSaid [] 0 2 w (.returned (.tuple #[.slice none 0 0,.int .i64 0,.int .i64 2])) w:=⟨_,rfl,World.ownsRow_nil _ _ _ _,bR _ _⟩
  generalize RpSaid [] 0 2 w=Q at *;clear e1 e2 e3;go_enter Tryz.func42,Tryz.ntmps42
  go_wp2_with fail
  go_step3
  go_wp2_with fail
  rw [Exit.noGoto_ret];go_ret3
  exact hq
 ·obtain ⟨j0,gi,gz0,gz1,gz2⟩:=info_parts (P:=Tryz.prog) (e:=54) (z:=.agg #[.int .i64 0,.int .i64 0,.string ⟨#[]⟩,.string ⟨#[]⟩]) (size:=4) (bytes:=48) (by kernel_rfl);have e1:Im.rplL s=(Im.rep 100 s).1:=if_neg hbig;have e2:Im.rplN s=s.size - (Im.rep 100 s).2.size:=if_neg hbig;have e3:Im.rplE s=0:=if_neg hbig;rw [e1,e2,e3];have d1:decide ((16384:Int)<(s.size:Int))=false:=dF (by omega);have hs:s.size<=16384:=by omega
  have HQ:Hid (∀ (l:List Im.Act) (k:Nat) (r:ByteArray),s.extract k s.size=r->k<=s.size->Im.rep 100 s=(l,r)->∀ v w',w'.ownsRow w.heap.size 54 4 v l.length (xcs l)->Below w.heap.size w w'->RpSaid (Im.rep 100 s).1 (s.size - (Im.rep 100 s).2.size) 0 w (.returned (.tuple #[v,.int .i64 (k:Nat),.int .i64 0])) w'):=fun l k r h1 h2 h3 v w' h4 h5=>by
   have hz:r.size=s.size - k:=by rw [<-h1];simp
   rw [h3];exact ⟨v,by simp only;rw [show s.size - r.size=k by omega],h4,h5⟩
  generalize RpSaid (Im.rep 100 s).1 (s.size - (Im.rep 100 s).2.size) 0 w=Q at *;clear e1 e2 e3 hbig;go_enter Tryz.func42,Tryz.ntmps42
  go_wp2_with fail
  go_step3
  go_wp2_with fail
  go_step3
  go_wp2_with fail
  go_loopw [5,6] (fun v i wr=>∃ (l:List Im.Act) (k:Nat) (r:ByteArray),i=.int .i64 k/\Hid (s.extract k s.size=r)/\k<=s.size/\l.length<=100/\Hid (Im.rep 100 s=(l++(Im.rep (100 - l.length) r).1,(Im.rep (100 - l.length) r).2))/\wr.ownsRow w.heap.size 54 4 v l.length (xcs l)/\Below w.heap.size w wr) (fun _ i _=>s.size - (intOf i).toNat)
  case atStart=>exact ⟨[],0,s,rfl,by show _=_;apply Nm.ZG;rw [Im.Zap];rfl,by omega,by simp,rfl,World.ownsRow_nil _ _ _ _,Below.refl _ _⟩
  case round =>
   obtain ⟨l,k,r,rfl,HR,hk,hl,HP,O,B⟩:=hrel;obtain ⟨x,c,rfl,_⟩:=Zl O;have hki:(k:Int)<=(s.size:Int):=by omega
   by_cases hlt:l.length<100
   ·have d2:decide ((l.length:Int)<100)=true:=decide_eq_true (by omega);have d2':decide (l.length<100)=true:=decide_eq_true hlt;have hr:=HR.out;have hrz:r.size<=281474976710656:=by rw [<-hr];simp;omega
    cases ha:Im.rAct r with
    | none =>
     have C:=fun w=>ZkL r w hrz ha
     have HF:=Zak (Im.ZjO HP.out ha);clear ha HP;have HS:Hid (xcs l=xcs l):=rfl;go_wp2_with fail
     refine (C _).mono ?_;rintro e w1 ⟨rfl,G⟩;have GA:=Za w1 (.cells #[.int .i64 0,.int .i64 0,.string ⟨#[]⟩,.string ⟨#[]⟩] 54 (0,0));have hq:=HQ.out l k r HR.out hk HF.out _ _ (Zh (Zh O G) GA) (bch (bch B G (nl _)) GA (nl _));clear C O B G HQ HF HR;go_wp2_with fail
     rw [Exit.noGoto_ret];go_ret3
     exact hq
    | some y =>
     obtain ⟨⟨ak,an,nm,tx⟩,q⟩:=y;obtain ⟨q1,q2,q3⟩:=Im.Zqi hr ha;have C:=fun w=>Zlb r q ak an nm tx w hrz ha
     have HF:=Zak (Im.Zkq HP.out hlt ha);have hdn:(r.size:Int) - (q.size:Int)=((r.size - q.size:Nat):Int):=by omega
     simp only [hdn] at C;have hqs:q.size<=r.size:=by omega
     have HR':=Zak q3;have h1:0<r.size - q.size:=by omega
     have h2:k+(r.size - q.size)<=s.size:=by omega
     clear hdn ha HP q3;generalize r.size - q.size=dn at *;have d3:((dn:Int) == 0)=false:=by simp;omega
     have d3':(dn == 0)=false:=by simp;omega
     go_wp2_with fail
     refine (C _).mono ?_;rintro e w1 ⟨rfl,G⟩;have GA:=Za w1 (.cells #[.int .i64 ak,.int .i64 an,.string nm,.string tx] 54 (0,0));have O2:=Zh (Zh O G) GA;have B2:=bch (bch B G (Nat.le_refl _)) GA (Nat.le_refl _);have X2:=XB.new w1 54 ak an nm tx;clear C O B G GA HR hr;obtain ⟨x0,x1,x2,x3,_⟩:=id X2;have hb2:=B2.size;have hsz:(w1.alloc (.cells #[.int .i64 ak,.int .i64 an,.string nm,.string tx] 54 (0,0))).heap.size=w1.heap.size+1:=by simp
     have hnw:=ZuL (w1.alloc (.cells #[.int .i64 ak,.int .i64 an,.string nm,.string tx] 54 (0,0))) (.int .i64 ak) (.int .i64 an) (.string nm) (.string tx) 54;rw [hsz] at hnw hb2;clear hsz;have HS:Hid (xcs (l++[⟨ak,an,nm,tx⟩])=xcs l++[.int .i64 ak,.int .i64 an,.string nm,.string tx]):=by show _=_;rw [Zdo];rfl
     go_wp2_with (first
      | (at_builtin;go_must (refine wpList_append_lies _ rfl _ _ 60 rfl w.heap.size 54 j0 (.agg #[.int .i64 0,.int .i64 0,.string ⟨#[]⟩,.string ⟨#[]⟩]) 4 48 Tryz.underlying60 gi gz0 gz1 gz2 rfl (by decide) _ _ _ rfl (O2.alloc _) ⟨w1.heap.size+1,0,none⟩ 1 1 [.int .i64 ak,.int .i64 an,.string nm,.string tx] rfl rfl hnw (one4 _ _ _ _) (by decide) (by unfold maxLen;omega) (by omega) (by simp;omega) _ rfl ?_;intro g cp w7 hown hgrow hat hlt7))
      | fail)
     have B3:Below w.heap.size w w7:=(B2.alloc (by simp;omega) _).grown hgrow (by simp;omega) (fun j hj=>(O2.lt j hj).1);go_roundw
     case rel=>exact ⟨l++[⟨ak,an,nm,tx⟩],k+dn,q,by go_num,HR',by omega,by simp;omega,HF,by rw [HS.out];simpa using hown,B3⟩
     case measure=>simp [intOf];omega
   ·have h100:l.length=100:=by omega
    have d2:decide ((l.length:Int)<100)=false:=dF (by omega);have d2':decide (l.length<100)=false:=dF hlt;have hq:=HQ.out l k r HR.out hk (Im.Zjz HP.out (by omega)) _ _ O B;clear HQ HP HR O h100;go_wp2_with fail
    rw [Exit.noGoto_ret];go_ret3
    exact hq
namespace Tr
def fnK (L:List ByteArray) (d:ByteArray):Nat->Option Nat
 | 0=>none
 | k+1=>match fnK L d k with
  | some i=>some i
  | none=>if st (xa L k) d=true then none else some k
theorem ZqR {L:List ByteArray} {d:ByteArray} {k i:Nat} (h:fnK L d k=some i):∀ j,fnK L d (k+j)=some i:=by
 intro j
 induction j with
 | zero=>exact h
 | succ j ih=>rw [<-Nat.add_assoc,fnK,ih]
theorem ZfR {L:List ByteArray} {d:ByteArray}:∀ {k:Nat},(match fnK L d k with | none=>∀ j,j<k->st (xa L j) d=true | some i=>i<k/\st (xa L i) d=false/\∀ j,j<i->st (xa L j) d=true)
 | 0=>by intro j h;omega
 | k+1=>by
  have ih:=ZfR (L:=L) (d:=d) (k:=k);rw [fnK]
  cases h:fnK L d k with
  | some i=>rw [h] at ih;exact ⟨by have:=ih.1;omega,ih.2⟩
  | none =>
   rw [h] at ih;simp only at ih |-
   by_cases hs:st (xa L k) d=true
   ·rw [if_pos hs];intro j hj;by_cases e:j=k
    ·subst e;exact hs
    ·exact ih j (by omega)
   ·rw [if_neg hs];exact ⟨by omega,by simpa using hs,ih⟩
def fix (L:List ByteArray) (d:ByteArray):Int:=match fnK L d L.length with | none=>-1 | some i=>(i:Int)
end Tr
theorem Zoz (p d:ByteArray) (bx:Nat) (w:World) (hc:w.cell? ⟨bx,0,none⟩=some (.string d)) (hM:Mx w) (hd:d.size<=4000000000) (hp:0<p.size) :
 Calls Tryz.prog 106 #[.string p,.pointer (some ⟨bx,0,none⟩)] w fun e w'=>e=.returned (.bool (!Tr.st p d))/\w'=w:=by
 have c1:=Zhx d p w hM hd hp;generalize Tr.st p d=r at *;go_enter Tryz.func106,Tryz.ntmps106
 go_wp2_with fail
 refine c1.mono ?_;rintro e w2 ⟨rfl,rfl⟩;go_wp2_with fail
 go_ret
 exact ⟨rfl,rfl⟩
theorem ZfU (L:List ByteArray) (d:ByteArray) (b off cap bx:Nat) (w:World) (hx:Tr.TxAt w b off L) (hn:L.length<=100000) (hc:w.cell? ⟨bx,0,none⟩=some (.string d)) (hM:Mx w) (hd:d.size<=4000000000) (hp:∀ i,i<L.length->(Tr.xa L i).size=4) :
 Calls Tryz.prog 105 #[.slice (some ⟨b,off,none⟩) L.length cap,.func (.func 106) #[] #[.pointer (some ⟨bx,0,none⟩)]] w fun e w'=>e=.returned (.int .i64 (Tr.fix L d))/\w'=w:=by
 have HX:Hid (∀ i,i<L.length->w.cell? ⟨b,off+i,none⟩=some (.string (Tr.xa L i))):=hx.2;have HP:Hid (∀ i,i<L.length->Calls Tryz.prog 106 #[.string (Tr.xa L i),.pointer (some ⟨bx,0,none⟩)] w fun e w'=>e=.returned (.bool (!Tr.st (Tr.xa L i) d))/\w'=w):=fun i hi=>Zoz _ d bx w hc hM hd (by rw [hp i hi];omega)
 clear hp hc hM hx
 obtain ⟨r,hr⟩:∃ r,Tr.fix L d=r:=⟨_,rfl⟩
 rw [hr];have Hr:Hid ((match Tr.fnK L d L.length with | none=>(-1:Int) | some i=>(i:Int))=r):=hr;clear hr;go_enter Tryz.func105,Tryz.ntmps105
 go_wp2_with fail
 go_loopw [8] (fun i wr=>∃ k:Nat,k<=L.length/\i=.int .i64 k/\Hid (Tr.fnK L d k=none)/\wr=w) (fun i _=>L.length - (intOf i).toNat)
 case atStart=>exact ⟨0,by omega,rfl,rfl,rfl⟩
 case round =>
  obtain ⟨k,hk2,rfl,HL,rfl⟩:=hrel;by_cases hlt:k<L.length
  ·have d1:decide ((k:Int)<(L.length:Int))=true:=by simp;omega
   have d1':decide (k<L.length)=true:=by simp;omega
   have hki:(k:Int)<(L.length:Int):=by omega
   have c1:=HX.out k hlt;have c2:=HP.out k hlt
   cases hs:Tr.st (Tr.xa L k) d with
   | false =>
    have HN:Hid (Tr.fnK L d (k+1)=some k):=by show _=_;rw [Tr.fnK,HL.out];simp only;rw [hs];rfl
    have HR:Hid ((k:Int)=r):=by
     have h9:=Tr.ZqR HN.out (L.length - (k+1));rw [show k+1+(L.length - (k+1))=L.length by omega] at h9;have:=Hr.out;rw [h9] at this;exact this
    rw [hs] at c2;generalize Tr.xa L k=X at *;clear HN hs;go_wp2_with fail
    refine c2.mono ?_;rintro e w2 ⟨rfl,rfl⟩;go_wp2_with fail
    go_ret
    exact ⟨congrArg (fun x=>Ending.returned (Value.int .i64 x)) HR.out,rfl⟩
   | true =>
    have HN:Hid (Tr.fnK L d (k+1)=none):=by show _=_;rw [Tr.fnK,HL.out];exact if_pos hs
    rw [hs] at c2;generalize Tr.xa L k=X at *;clear hs;go_wp2_with fail
    refine c2.mono ?_;rintro e w2 ⟨rfl,rfl⟩;go_wp2_with fail
    go_roundw
    case rel=>exact ⟨k+1,by omega,by go_num,HN,by trivial⟩
    case measure=>simp [intOf];omega
  ·obtain rfl:k=L.length:=by omega
   have HR:Hid ((-1:Int)=r):=by have:=Hr.out;rw [HL.out] at this;exact this
   have d1:decide ((L.length:Int)<(L.length:Int))=false:=by simp
   clear Hr;go_wp2_with fail
   go_ret
   exact ⟨congrArg (fun x=>Ending.returned (Value.int .i64 x)) HR.out,rfl⟩
theorem ZgJ (ad:Option Addr) (cap:Nat) (fv:Value) (w:World) :
 Calls Tryz.prog 105 #[.slice ad 0 cap,fv] w fun e w'=>e=.returned (.int .i64 (-1))/\w'=w:=by
 go_enter Tryz.func105,Tryz.ntmps105
 go_wp2_with fail
 go_loopw [8] (fun i wr=>i=.int .i64 0/\wr=w) (fun i _=>0)
 case atStart=>exact ⟨rfl,rfl⟩
 case round =>
  obtain ⟨rfl,rfl⟩:=hrel;go_wp2_with fail
  go_ret
  exact ⟨rfl,rfl⟩
theorem ZhS (lo:Nat) (L:List ByteArray) (d:ByteArray) (ad:Option Addr) (cap bx:Nat) (w:World) (hx:Tr.TxFar lo w ad L) (hn:L.length<=100000) (hc:w.cell? ⟨bx,0,none⟩=some (.string d)) (hM:Mx w) (hd:d.size<=4000000000) (hp:∀ i,i<L.length->(Tr.xa L i).size=4) :
 Calls Tryz.prog 105 #[.slice ad L.length cap,.func (.func 106) #[] #[.pointer (some ⟨bx,0,none⟩)]] w fun e w'=>e=.returned (.int .i64 (Tr.fix L d))/\w'=w:=by
 rcases hx with rfl | ⟨b,off,rfl,_,h2⟩
 ·exact ZgJ ad cap _ w
 ·exact ZfU L d b off cap bx w h2 hn hc hM hd hp
namespace Tr
theorem TxFar.set {lo:Nat} {w:World} {ad:Option Addr} {xs:List ByteArray} (h:TxFar lo w ad xs) {bx:Nat} (hb:bx<lo) (v:Value):TxFar lo (w.setCell ⟨bx,0,none⟩ v) ad xs:=by
 rcases h with h | ⟨b,off,h1,h2,h3⟩
 ·exact .inl h
 ·refine .inr ⟨b,off,h1,h2,by simpa using h3.1,fun i hi=>?_⟩;exact (World.cell?_setCell_other w _ _ _ (by intro e;have:=congrArg Addr.block e;simp at this;omega)).trans (h3.2 i hi)
theorem TxFar.drop {lo:Nat} {w:World} {b off:Nat} {xs:List ByteArray} (h2:lo<=b) (h:TxAt w b off xs) (j:Nat):TxFar lo w (some ⟨b,off+j,none⟩) (xs.drop j):=by
 refine .inr ⟨b,off+j,rfl,h2,h.1,fun i hi=>?_⟩;rw [List.length_drop] at hi;rw [show off+j+i=off+(j+i) by omega,h.2 (j+i) (by omega)];simp [xa]
def slen:Value->Nat
 | .slice _ n _=>n
 | _=>0
theorem ZcI {L:List ByteArray} {i:Nat} (h:i<L.length):xa L i=L[i]:=by simp [xa,h]
theorem Ztb {xs pre P:List ByteArray} {d:ByteArray} (h:Rk xs (pre++P)) (hpre:∀ p,p ∈ pre->st p d=true) {i:Nat} (hf:fnK P d P.length=some i) :
 i<P.length/\best xs d=xa P i/\(xa P i).size=4/\(∀ p,p ∈ pre++P.take (i+1)->st p (xa P i++d)=true):=by
 have hs:=ZfR (L:=P) (d:=d) (k:=P.length);rw [hf] at hs;obtain ⟨h1,h2,h3⟩:=hs;have hm:xa P i ∈ pre++P:=by rw [ZcI h1];exact List.mem_append_right _ (List.getElem_mem h1)
 have h4:=((h.2 _).1 hm).1;refine ⟨h1,?_,h4,?_⟩
 ·have hi:pre.length+i<(pre++P).length:=by rw [List.length_append];omega
  have e:(pre++P)[pre.length+i]=xa P i:=by rw [ZcI h1,List.getElem_append_right (by omega)];simp
  rw [<-e];refine Zps h hi (by rw [e];exact h2) fun k hk=>?_
  by_cases hk2:k<pre.length
  ·rw [List.getElem_append_left hk2];exact hpre _ (List.getElem_mem hk2)
  ·rw [List.getElem_append_right (by omega),<-ZcI];exact h3 _ (by omega)
 ·intro p hp;rw [List.mem_append] at hp;rcases hp with hp | hp
  ·exact ZhJ (hpre p hp)
  ·obtain ⟨k,hk,rfl⟩:=List.mem_iff_getElem.1 hp;rw [List.length_take] at hk;rw [List.getElem_take,<-ZcI];by_cases e:k=i
   ·subst e;exact Zun _ _
   ·exact ZhJ (h3 k (by omega))
theorem ZsM {xs pre P:List ByteArray} {d:ByteArray} (h:Rk xs (pre++P)) (hpre:∀ p,p ∈ pre->st p d=true) (hf:fnK P d P.length=none):(best xs d).size=0:=by
 have hs:=ZfR (L:=P) (d:=d) (k:=P.length);rw [hf] at hs;refine Zsq h fun k hk=>?_
 by_cases hk2:k<pre.length
 ·rw [List.getElem_append_left hk2];exact hpre _ (List.getElem_mem hk2)
 ·rw [List.length_append] at hk;rw [List.getElem_append_right (by omega),<-ZcI];exact hs _ (by omega)
theorem ZlB {xs:List ByteArray} (h:many xs=false):xs.length<=12/\∀ i,(xa xs i).size<=512:=by
 rw [many,Bool.or_eq_false_iff,decide_eq_false_iff_not] at h;refine ⟨by omega,fun i=>?_⟩;apply Nat.le_of_not_lt;intro hlt;by_cases hi:i<xs.length
 ·have:∀ k,i<k->(lgK xs k).isSome=true:=by
   intro k hk
   induction k with
   | zero=>omega
   | succ k ih =>
    rw [lgK];by_cases e:i=k
    ·subst e
     cases lgK xs i with
     | some _=>rfl
     | none=>simp only;rw [if_pos hlt];rfl
    ·have:=ih (by omega)
     cases hq:lgK xs k with
     | some _=>rfl
     | none=>rw [hq] at this;cases this
  rw [this _ hi] at h
  cases h.2
 ·have:xa xs i=⟨#[]⟩:=by simp [xa,show xs.length<=i by omega]
  rw [this] at hlt;have:(⟨#[]⟩:ByteArray).size=0:=rfl;omega
end Tr
theorem Zpa (xs:List ByteArray) (size:Int) (ad:Option Addr) (cap:Nat) (w:World) (hx:TxSl w ad xs) (hB:∀ i,(Tr.xa xs i).size<=140737488355328) (hM:Mx w) (hm:Tr.many xs=false) (h0:0<=size) (h1:size<=256) :
 Calls Tryz.prog 66 #[.slice ad xs.length cap,.int .i64 size] w fun e w'=>e=.returned (.tuple #[.string (Tr.trn xs size.toNat),.int .i64 0])/\Below w.heap.size w w':=by
 obtain ⟨hn,hX⟩:=Tr.ZlB hm;have c1:=Zco xs ad cap w hx hB;rw [hm] at c1;have HR:Hid (∀ w',Below w.heap.size w w'->Calls Tryz.prog 104 #[.slice ad xs.length cap] w' fun e w2=>∃ ad' cap' L,e=.returned (.slice ad' (L:List ByteArray).length cap')/\L.length<=cap'/\L.length<=6144/\Tr.TxFar w'.heap.size w2 ad' L/\Tr.Rk xs L/\Below w'.heap.size w' w2):=fun w' hb=>ZkV xs ad cap w' (hx.below hb) hn hX (hM.below hb)
 have HM:Hid (∀ w',Below w.heap.size w w'->Mx w'):=fun w' hb=>hM.below hb
 have d1:decide (size<0)=false:=dF (by omega);have d2:decide ((256:Int)<size)=false:=dF (by omega);have HG:=Tr.ZfX xs size.toNat
 obtain ⟨R,hR⟩:∃ R,Tr.trn xs size.toNat=R:=⟨_,rfl⟩
 rw [hR] at HG |-
 have HR0:Hid (Tr.tro xs size.toNat 65 ⟨#[]⟩=R):=hR;have hRs:R.size<=256:=by have:=HG.most;omega
 clear hX hx hB hM hm hR HG;go_enter Tryz.func66,Tryz.ntmps66
 go_wp2_with fail
 refine c1.mono ?_;rintro e w1 ⟨rfl,B1⟩;clear c1;have c2:=HR.out (w1.alloc (.cells #[.string ⟨#[]⟩] 9 (0,0))) (B1.alloc B1.size _);go_wp2_with fail
 refine c2.mono ?_;rintro e w2 ⟨ad',cap',L,rfl,hLc,hL6,hT,hRk,B2⟩;clear c2 HR
 have hcx:w2.cell? ⟨w1.heap.size,0,none⟩=some (.string ⟨#[]⟩):=by
  rw [B2.cell (p:=⟨w1.heap.size,0,none⟩) (by simp)];exact cell_one_new _ _ _ 0 _ rfl
 have hfx:w2.frozen? ⟨w1.heap.size,0,none⟩=false:=by
  rw [B2.frozen (p:=⟨w1.heap.size,0,none⟩) (by simp)];exact World.frozen?_alloc_at _ _ _ _ rfl
 have B3:Below w.heap.size w w2:=bch (B1.alloc B1.size (.cells #[.string ⟨#[]⟩] 9 (0,0))) B2 (Nat.le_refl _);have hlo:w1.heap.size<(w1.alloc (.cells #[.string ⟨#[]⟩] 9 (0,0))).heap.size:=by simp
 have hwb:=B1.size;generalize (w1.alloc (.cells #[.string ⟨#[]⟩] 9 (0,0))).heap.size=lo at *;generalize w1.heap.size=bx at *;clear B1 B2;have HRk:Hid (Tr.Rk xs L):=hRk;clear hRk;go_wp2_with fail
 go_loopw [7] (fun v wr=>∃ (pre P:List ByteArray) (d:ByteArray) (f:Nat) (ad2:Option Addr) (c:Nat),v=.slice ad2 P.length c/\P.length<=c/\P.length<=6144/\Hid (pre++P=L)/\Tr.TxFar lo wr ad2 P/\Hid (∀ p,p ∈ pre->Tr.st p d=true)/\Hid (Tr.tro xs size.toNat f d=R)/\Hid (4*f+d.size=260)/\d.size<=256/\wr.cell? ⟨bx,0,none⟩=some (.string d)/\wr.frozen? ⟨bx,0,none⟩=false/\Below w.heap.size w wr)
  (fun v _=>Tr.slen v)
 case atStart=>exact ⟨[],L,⟨#[]⟩,65,ad',cap',rfl,hLc,hL6,rfl,hT,(fun p hp=>by cases hp),HR0,rfl,by decide,hcx,hfx,B3⟩
 case round =>
  clear hcx hfx hT B3 hLc hL6;obtain ⟨pre,P,d,f,ad2,c,rfl,hPc,hP6,HPL,hT,Hpre,HRd,Hf,hd,hcx,hfx,B3⟩:=hrel;by_cases hfit:(d.size:Int)+4<=size
  ·have e1:decide ((d.size:Int)+4<=size)=true:=zdT hfit;have hrk:Tr.Rk xs (pre++P):=by rw [HPL.out];exact HRk.out
   have hp4:∀ i,i<P.length->(Tr.xa P i).size=4:=fun i hi=>((hrk.2 _).1 (List.mem_append_right _ (by rw [Tr.ZcI hi];exact List.getElem_mem hi))).1
   have c3:=ZhS lo P d ad2 c bx wr hT (by omega) hcx (HM.out _ B3) (by omega) hp4;unfold Tr.fix at c3
   cases hq:Tr.fnK P d P.length with
   | none =>
    rw [hq] at c3;simp only at c3
    have HN:Hid (d=R):=by
     have h9:=HRd.out;rw [Tr.ZfG (Tr.ZsM hrk Hpre.out hq)] at h9;exact h9
    clear hq hp4 hrk;have c4:=fun w=>ZP d w (by omega)
    go_wp2_with fail
    refine c3.mono ?_;rintro e w3 ⟨rfl,rfl⟩;go_wp2_with fail
    refine (c4 _).mono ?_;rintro e w4 ⟨rfl,G⟩;go_wp2_with fail
    go_ret2
    exact ⟨by rw [HN.out];rfl,bch B3 G (nl _)⟩
   | some i =>
    rw [hq] at c3;simp only at c3;obtain ⟨h2,h3,h4,h5⟩:=Tr.Ztb hrk Hpre.out hq
    obtain ⟨g,rfl⟩:∃ g,f=g+1:=⟨f - 1,by have:=Hf.out;omega⟩
    have HN:Hid (Tr.tro xs size.toNat g (Tr.xa P i++d)=R):=by
     have h9:=HRd.out;rw [Tr.Zkp (by omega) (by rw [h3];exact h4),h3] at h9;exact h9
    have HPre2:Hid (∀ p,p ∈ pre++P.take (i+1)->Tr.st p (Tr.xa P i++d)=true):=h5;have HPL2:Hid (pre++P.take (i+1)++P.drop (i+1)=L):=by show _=_;rw [List.append_assoc,List.take_append_drop];exact HPL.out
    rcases hT with hT | ⟨b2,off2,rfl,hlo2,hTx⟩
    ·rw [hT] at h2;simp at h2
    have cX:=hTx.2 i h2;have hXd:(Tr.xa P i++d).size=4+d.size:=by rw [ByteArray.size_append,h4]
    have hT2:=Tr.TxFar.drop hlo2 hTx (i+1);generalize Tr.xa P i=X at *;have hii:(i:Int)<(P.length:Int):=by omega
    have hi0:decide ((i:Int)<0)=false:=dF (by omega);have hi6:(i:Int)<=6144:=by omega
    have hXs:X.size<=4:=by omega
    clear hq hp4 hrk HRd Hpre HPL h3 h5 hTx;go_wp2_with fail
    refine c3.mono ?_;rintro e w3 ⟨rfl,rfl⟩;go_wp2_with fail
    go_region
    have hT3:=(hT2.set hlo (.string (X++d)))
    have hc3:(w3.setCell ⟨bx,0,none⟩ (.string (X++d))).cell? ⟨bx,0,none⟩=some (.string (X++d)):=cS _ _ _ hcx;have hf3:(w3.setCell ⟨bx,0,none⟩ (.string (X++d))).frozen? ⟨bx,0,none⟩=false:=by rw [fS];exact hfx
    have B4:Below w.heap.size w (w3.setCell ⟨bx,0,none⟩ (.string (X++d))):=B3.setCell hwb _;have HD:Hid ((P.drop (i+1)).length=P.length - (i+1)):=List.length_drop ..;have hlP:((i:Int)+1)<=(P.length:Int):=by omega
    have hlc:(P.length:Int)<=(c:Int):=by omega
    by_cases hce:i+1=c
    ·subst hce;obtain hPl:P.length=i+1:=by omega
     go_wp2_with fail
     go_roundw
     case rel=>exact ⟨pre++P.take (i+1),[],X++d,g,_,0,rfl,Nat.le_refl _,by simp,by have h9:=HPL2.out;rw [List.drop_of_length_le (by omega:P.length<=i+1)] at h9;exact h9,.inl rfl,HPre2,HN,by have:=Hf.out;show 4*g+_=260;omega,by omega,hc3,hf3,B4.drew⟩
     case measure=>simp [Tr.slen];omega
    ·have hce':¬ ((i:Int)+1=(c:Int)):=by omega
     go_wp2_with fail
     go_roundw
     case rel=>exact ⟨pre++P.take (i+1),P.drop (i+1),X++d,g,_,c - (i+1),by rw [HD.out],by rw [HD.out];omega,by rw [HD.out];omega,HPL2,hT3,HPre2,HN,by have:=Hf.out;show 4*g+_=260;omega,by omega,hc3,hf3,B4.drew⟩
     case measure=>simp [Tr.slen];omega
  ·have e1:decide ((d.size:Int)+4<=size)=false:=dF hfit
   have HN:Hid (d=R):=by
    have h9:=HRd.out;rw [Tr.Zjn (by omega)] at h9;exact h9
   have c4:=fun w=>ZP d w (by omega)
   go_wp2_with fail
   refine (c4 _).mono ?_;rintro e w4 ⟨rfl,G⟩;go_wp2_with fail
   go_ret2
   exact ⟨by rw [HN.out];rfl,bch B3 G (nl _)⟩
theorem ZlO (xs:List ByteArray) (size:Int) (ad:Option Addr) (cap:Nat) (w:World) (hx:TxSl w ad xs) (hB:∀ i,(Tr.xa xs i).size<=140737488355328) (hm:Tr.many xs=true) :
 Calls Tryz.prog 66 #[.slice ad xs.length cap,.int .i64 size] w fun e w'=>e=.returned (.tuple #[.string ⟨#[]⟩,.int .i64 2])/\Below w.heap.size w w':=by
 have c1:=Zco xs ad cap w hx hB;rw [hm] at c1;clear hB hm hx;go_enter Tryz.func66,Tryz.ntmps66
 go_wp2_with fail
 refine c1.mono ?_;rintro e w1 ⟨rfl,B1⟩;go_wp2_with fail
 go_ret2
 exact ⟨rfl,B1⟩
theorem Zip (xs:List ByteArray) (size:Int) (ad:Option Addr) (cap:Nat) (w:World) (hx:TxSl w ad xs) (hB:∀ i,(Tr.xa xs i).size<=140737488355328) (hm:Tr.many xs=false) (h:size<0\/256<size) :
 Calls Tryz.prog 66 #[.slice ad xs.length cap,.int .i64 size] w fun e w'=>e=.returned (.tuple #[.string ⟨#[]⟩,.int .i64 3])/\Below w.heap.size w w':=by
 have c1:=Zco xs ad cap w hx hB;rw [hm] at c1;clear hB hm hx;by_cases h0:size<0
 ·have d1:decide (size<0)=true:=zdT h0;clear h;go_enter Tryz.func66,Tryz.ntmps66
  go_wp2_with fail
  refine c1.mono ?_;rintro e w1 ⟨rfl,B1⟩;go_wp2_with fail
  go_ret2
  exact ⟨rfl,B1⟩
 ·have d1:decide (size<0)=false:=dF h0;have h2:256<size:=by omega
  have d2:decide ((256:Int)<size)=true:=zdT h2;clear h;go_enter Tryz.func66,Tryz.ntmps66
  go_wp2_with fail
  refine c1.mono ?_;rintro e w1 ⟨rfl,B1⟩;go_wp2_with fail
  go_ret2
  exact ⟨rfl,B1⟩
namespace Tr
def tnE (xs:List ByteArray) (size:Int):Int:=if many xs=true then 2 else if 0<=size/\size<=256 then 0 else 3
def tnD (xs:List ByteArray) (size:Int):ByteArray:=if tnE xs size=0 then trn xs size.toNat else ⟨#[]⟩
end Tr
theorem ZeC (xs:List ByteArray) (size:Int) (ad:Option Addr) (cap:Nat) (w:World) (hx:TxSl w ad xs) (hB:∀ i,(Tr.xa xs i).size<=140737488355328) (hM:Mx w) :
 Calls Tryz.prog 66 #[.slice ad xs.length cap,.int .i64 size] w fun e w'=>e=.returned (.tuple #[.string (Tr.tnD xs size),.int .i64 (Tr.tnE xs size)])/\Below w.heap.size w w':=by
 unfold Tr.tnD Tr.tnE
 cases hm:Tr.many xs with
 | true=>simpa using ZlO xs size ad cap w hx hB hm
 | false =>
  by_cases h:0<=size/\size<=256
  ·simpa [h] using Zpa xs size ad cap w hx hB hM hm h.1 h.2
  ·simpa [h] using Zip xs size ad cap w hx hB hm (by omega)
theorem ZiE (ad af:Option Addr) (cd cf:Nat) (a:Ar.A) (size:Int) (w:World) (h:ArV w ad af a) (hs:SaneA a) (hc:Ar.chk a ≠ 0) :
 Calls Tryz.prog 25 #[av ad cd af cf a,.int .i64 size] w fun e w'=>ArSaid w Ar.az (Ar.chk a) e w':=by
 have C1:Hid (∀ w',Below w.heap.size w w'->Calls Tryz.prog 61 #[av ad cd af cf a] w' fun e w2=>Zag a w' e w2):=fun w' h9=>ZbG ad af cd cf a w' (h.below h9) hs
 have hQ:Hid (∀ w',Below w.heap.size w w'->ArSaid w Ar.az (Ar.chk a) (.returned (.tuple #[.agg #[.slice none 0 0,.slice none 0 0],.int .i64 (Ar.chk a)])) w'):=fun w' h9=>Zy h9
 generalize ArSaid w Ar.az (Ar.chk a)=Q at *;unfold Zag at C1;unfold av at C1 |-
 generalize Ar.chk a=E at *;generalize Ar.txs a=TX at *;generalize a.dicts.length=D at *;generalize a.files.length=N at *;have e1:(E != 0)=true:=by simpa using hc
 have e2:(E == 0)=false:=by simpa using hc
 clear h hs;go_enter Tryz.func25,Tryz.ntmps25
 go_wp2_with fail
 refine (C1.out _ (Fr.start w _ _).b).mono ?_;rintro e w1 ⟨adt,capt,L,rfl,_,_,_,_,G1⟩;have F1:=(Fr.start w _ _).next G1;clear G1;obtain ⟨b,a0,a1,r0,r1,z0,z1,hz⟩:=id F1;go_wp2_with fail
 rw [F1.zero];exact bodyPost_ret (v:=.tuple #[.agg #[.slice none 0 0,.slice none 0 0],.int .i64 E]) (by simp [results,Tryz.results25,go_sem,F1.r0,F1.r1]) rfl (hQ.out _ F1.b)
theorem ZgT (ad af:Option Addr) (cd cf:Nat) (a:Ar.A) (size:Int) (w:World) (h:ArV w ad af a) (hs:SaneA a) (hM:Mx w) (hc:Ar.chk a=0) (hz:¬ (0<=size/\size<=256)) :
 Calls Tryz.prog 25 #[av ad cd af cf a,.int .i64 size] w fun e w'=>ArSaid w Ar.az 3 e w':=by
 have C1:Hid (∀ w',Below w.heap.size w w'->Calls Tryz.prog 61 #[av ad cd af cf a] w' fun e w2=>Zag a w' e w2):=fun w' h9=>ZbG ad af cd cf a w' (h.below h9) hs
 have hT:=Ar.Zcx hc
 have C2:Hid (∀ w' adt capt,Below w.heap.size w w'->TxSl w' adt (Ar.txs a)->Calls Tryz.prog 66 #[.slice adt (Ar.txs a).length capt,.int .i64 size] w' fun e w2=>e=.returned (.tuple #[.string ⟨#[]⟩,.int .i64 3])/\Below w'.heap.size w' w2):=fun w' adt capt h8 h9=>by
  have:=ZeC (Ar.txs a) size adt capt w' h9 (fun i=>by
   by_cases hi:i<(Ar.txs a).length
   ·have e:Tr.xa (Ar.txs a) i=(Ar.txs a)[i]:=by simp [Tr.xa,hi]
    rw [e];exact Nat.le_trans (hT.2 _ (List.getElem_mem hi)) (by decide)
   ·have e:Tr.xa (Ar.txs a) i=⟨#[]⟩:=by simp [Tr.xa,hi]
    rw [e];exact Nat.zero_le _) (hM.below h8)
  have eE:Tr.tnE (Ar.txs a) size=3:=by unfold Tr.tnE;rw [Ar.ZfP hc,if_neg (by decide),if_neg hz]
  have eD:Tr.tnD (Ar.txs a) size=⟨#[]⟩:=by unfold Tr.tnD;rw [eE,if_neg (by decide)]
  rw [eE,eD] at this;exact this
 have hQ:Hid (∀ w',Below w.heap.size w w'->ArSaid w Ar.az 3 (.returned (.tuple #[.agg #[.slice none 0 0,.slice none 0 0],.int .i64 3])) w'):=fun w' h9=>Zy h9
 generalize ArSaid w Ar.az 3=Q at *;unfold Zag at C1;rw [hc] at C1;unfold av at C1 |-
 generalize Ar.txs a=TX at *;generalize a.dicts.length=D at *;generalize a.files.length=N at *;clear h hs hM hc hz hT;go_enter Tryz.func25,Tryz.ntmps25
 go_wp2_with fail
 refine (C1.out _ (Fr.start w _ _).b).mono ?_;rintro e w1 ⟨adt,capt,L,rfl,_,hfar,hLx,_,G1⟩;have hLT:=hLx (by trivial);subst hLT;have F1:=(Fr.start w _ _).next G1;clear G1 hLx;obtain ⟨b,a0,a1,r0,r1,z0,z1,hz⟩:=id F1;have C2':=C2.out w1 adt capt b (TxFar.sl hfar);go_wp2_with fail
 refine C2'.mono ?_;rintro e w2 ⟨rfl,G2⟩;have F2:=F1.next G2;clear b a0 a1 r0 r1 z0 z1 hz;obtain ⟨b,a0,a1,r0,r1,z0,z1,hz⟩:=id F2;go_wp2_with fail
 rw [F2.zero];exact bodyPost_ret (v:=.tuple #[.agg #[.slice none 0 0,.slice none 0 0],.int .i64 3]) (by simp [results,Tryz.results25,go_sem,F2.r0,F2.r1]) rfl (hQ.out _ F2.b)
theorem ZgE (ad af:Option Addr) (cd cf:Nat) (a:Ar.A) (size:Int) (w:World) (h:ArV w ad af a) (hs:SaneA a) (hM:Mx w) (hc:Ar.chk a=0) (hz:0<=size/\size<=256) (h4:a.dicts.length=4) :
 Calls Tryz.prog 25 #[av ad cd af cf a,.int .i64 size] w fun e w'=>ArSaid w Ar.az 2 e w':=by
 have C1:Hid (∀ w',Below w.heap.size w w'->Calls Tryz.prog 61 #[av ad cd af cf a] w' fun e w2=>Zag a w' e w2):=fun w' h9=>ZbG ad af cd cf a w' (h.below h9) hs
 have hT:=Ar.Zcx hc
 have C2:Hid (∀ w' adt capt,Below w.heap.size w w'->TxSl w' adt (Ar.txs a)->Calls Tryz.prog 66 #[.slice adt (Ar.txs a).length capt,.int .i64 size] w' fun e w2=>e=.returned (.tuple #[.string (Tr.trn (Ar.txs a) size.toNat),.int .i64 0])/\Below w'.heap.size w' w2):=fun w' adt capt h8 h9=>by
  have:=ZeC (Ar.txs a) size adt capt w' h9 (fun i=>by
   by_cases hi:i<(Ar.txs a).length
   ·have e:Tr.xa (Ar.txs a) i=(Ar.txs a)[i]:=by simp [Tr.xa,hi]
    rw [e];exact Nat.le_trans (hT.2 _ (List.getElem_mem hi)) (by decide)
   ·have e:Tr.xa (Ar.txs a) i=⟨#[]⟩:=by simp [Tr.xa,hi]
    rw [e];exact Nat.zero_le _) (hM.below h8)
  have eE:Tr.tnE (Ar.txs a) size=0:=by unfold Tr.tnE;rw [Ar.ZfP hc,if_neg (by decide),if_pos hz]
  have eD:Tr.tnD (Ar.txs a) size=Tr.trn (Ar.txs a) size.toNat:=by unfold Tr.tnD;rw [if_pos eE]
  rw [eE,eD] at this;exact this
 have hQ:Hid (∀ w',Below w.heap.size w w'->ArSaid w Ar.az 2 (.returned (.tuple #[.agg #[.slice none 0 0,.slice none 0 0],.int .i64 2])) w'):=fun w' h9=>Zy h9
 generalize ArSaid w Ar.az 2=Q at *;unfold Zag at C1;rw [hc] at C1;unfold av at C1 |-
 generalize Tr.trn (Ar.txs a) size.toNat=X at *;generalize Ar.txs a=TX at *;rw [h4] at C1 |-
 generalize a.files.length=N at *;clear h hs hM hc hz hT h4;go_enter Tryz.func25,Tryz.ntmps25
 go_wp2_with fail
 refine (C1.out _ (Fr.start w _ _).b).mono ?_;rintro e w1 ⟨adt,capt,L,rfl,_,hfar,hLx,_,G1⟩;have hLT:=hLx (by trivial);subst hLT;have F1:=(Fr.start w _ _).next G1;clear G1 hLx;obtain ⟨b,a0,a1,r0,r1,z0,z1,hz⟩:=id F1;have C2':=C2.out w1 adt capt b (TxFar.sl hfar);go_wp2_with fail
 refine C2'.mono ?_;rintro e w2 ⟨rfl,G2⟩;have F2:=F1.next G2;clear b a0 a1 r0 r1 z0 z1 hz;obtain ⟨b,a0,a1,r0,r1,z0,z1,hz⟩:=id F2;go_wp2_with fail
 rw [F2.zero];exact bodyPost_ret (v:=.tuple #[.agg #[.slice none 0 0,.slice none 0 0],.int .i64 2]) (by simp [results,Tryz.results25,go_sem,F2.r0,F2.r1]) rfl (hQ.out _ F2.b)
theorem ZlV (ad af:Option Addr) (cd cf:Nat) (a:Ar.A) (size:Int) (w:World) (h:ArV w ad af a) (hs:SaneA a) (hM:Mx w) (hE:Ar.retE a size=0) :
 Calls Tryz.prog 25 #[av ad cd af cf a,.int .i64 size] w fun e w'=>ArSaid w ⟨Ar.retD a size,a.files.map (Ar.reF a size)⟩ 0 e w':=by
 obtain ⟨hc,hzz1,hzz2,h4⟩:=Ar.ZcU hE
 have hz:0<=size/\size<=256:=⟨hzz1,hzz2⟩
 obtain ⟨i0,hi,hz0,hz1,hz2⟩:=info_parts (P:=Tryz.prog) (e:=9) (z:=.string ⟨#[]⟩) (size:=1) (bytes:=16) (by kernel_rfl);obtain ⟨m1,m2,m3⟩:=Ar.Zw.1 (Ar.Zd.1 hc).1;have C1:Hid (∀ w',Below w.heap.size w w'->Calls Tryz.prog 61 #[av ad cd af cf a] w' fun e w2=>Zag a w' e w2):=fun w' h9=>ZbG ad af cd cf a w' (h.below h9) hs
 have hT:=Ar.Zcx hc
 have C2:Hid (∀ w' adt capt,Below w.heap.size w w'->TxSl w' adt (Ar.txs a)->Calls Tryz.prog 66 #[.slice adt (Ar.txs a).length capt,.int .i64 size] w' fun e w2=>e=.returned (.tuple #[.string (Tr.trn (Ar.txs a) size.toNat),.int .i64 0])/\Below w'.heap.size w' w2):=fun w' adt capt h8 h9=>by
  have:=ZeC (Ar.txs a) size adt capt w' h9 (fun i=>by
   by_cases hi:i<(Ar.txs a).length
   ·have e:Tr.xa (Ar.txs a) i=(Ar.txs a)[i]:=by simp [Tr.xa,hi]
    rw [e];exact Nat.le_trans (hT.2 _ (List.getElem_mem hi)) (by decide)
   ·have e:Tr.xa (Ar.txs a) i=⟨#[]⟩:=by simp [Tr.xa,hi]
    rw [e];exact Nat.zero_le _) (hM.below h8)
  have eE:Tr.tnE (Ar.txs a) size=0:=by unfold Tr.tnE;rw [Ar.ZfP hc,if_neg (by decide),if_pos hz]
  have eD:Tr.tnD (Ar.txs a) size=Tr.trn (Ar.txs a) size.toNat:=by unfold Tr.tnD;rw [if_pos eE]
  rw [eE,eD] at this;exact this
 have C6:Hid (∀ w',Below w.heap.size w w'->Calls Tryz.prog 53 #[av ad cd af cf a] w' fun e w2=>∃ v1 v2,e=.returned (.agg #[v1,v2])/\ArOwn w'.heap.size w2 v1 v2 a/\Below w'.heap.size w' w2):=fun w' h9=>Zbn ad af cd cf a w' (h.below h9) hs m1 m2
 have hmr:=Ar.Zgr hE;have hrl:(Ar.retD a size).length=a.dicts.length+1:=by unfold Ar.retD;rw [List.length_append];rfl
 have CP:Hid (∀ w' adx cdx afx cfx m,m<a.files.length->TxSl w' adx (Ar.retD a size)->Calls Tryz.prog 52 #[.agg #[.slice adx (a.dicts.length+1) cdx,.slice afx a.files.length cfx],.string (Ar.fa a.files m).name,.string (Tr.xa (Ar.txs a) m),.int .i64 ((a.dicts.length:Int)+1)] w' fun e w2=>e=.returned (.tuple #[.agg #[.string (Ar.reF a size (Ar.fa a.files m)).name,.int .i64 (Ar.reF a size (Ar.fa a.files m)).dict,.int .i64 (Ar.reF a size (Ar.fa a.files m)).size,.int .i64 (Ar.reF a size (Ar.fa a.files m)).sum,.string (Ar.reF a size (Ar.fa a.files m)).blk],.int .i64 0])/\Below w'.heap.size w' w2):=fun w' adx cdx afx cfx m hm hx=>by
  have hmem:Ar.fa a.files m ∈ a.files:=by rw [Ar.ZaJ hm];exact List.getElem_mem hm
  have e:Tr.xa (Ar.txs a) m=Ar.tx a.dicts (Ar.fa a.files m):=by unfold Ar.txs;simp [Tr.xa,Ar.fa,hm]
  have:=ZbM adx afx cdx cfx ⟨Ar.retD a size,a.files⟩ (Ar.fa a.files m).name (Tr.xa (Ar.txs a) m) ((a.dicts.length:Int)+1) w' hx (by show (Ar.retD a size).length<=4;omega) (Ar.ZaL hmr _) (by show Ar.has (Ar.retD a size) _=true;unfold Ar.has;rw [hrl];exact decide_eq_true ⟨by omega,by omega⟩) (by rw [e];exact Ar.Zdq hc hmem) (hs.nm m);unfold av at this;simp only [hrl] at this;rw [e] at this |-
  exact this
 have HQ:Hid (∀ v1 v2 w',w'.ownsRow w.heap.size 9 1 v1 (a.dicts.length+1) (a.dicts.map Value.string++[.string (Tr.trn (Ar.txs a) size.toNat)])->w'.ownsRow w.heap.size 46 5 v2 a.files.length (fcs (a.files.map (Ar.reF a size)))->(∀ j,v1.ownBlock=some j->v2.ownBlock ≠ some j)->Below w.heap.size w w'->ArSaid w ⟨Ar.retD a size,a.files.map (Ar.reF a size)⟩ 0 (.returned (.tuple #[.agg #[v1,v2],.int .i64 0])) w'):=fun v1 v2 w' h1 h2 h3 h4=>⟨v1,v2,rfl,⟨by
  show w'.ownsRow _ _ _ _ (Ar.retD a size).length ((Ar.retD a size).map Value.string);have e:(Ar.retD a size).map Value.string=a.dicts.map Value.string++[.string (Tr.trn (Ar.txs a) size.toNat)]:=by unfold Ar.retD;rw [List.map_append];rfl
  rw [hrl,e];exact h1,by show w'.ownsRow _ _ _ _ (a.files.map (Ar.reF a size)).length _;rw [List.length_map];exact h2,h3⟩,h4⟩
 generalize ArSaid w ⟨Ar.retD a size,a.files.map (Ar.reF a size)⟩ 0=Q at *
 have HTx:Hid (∀ lo w' ad' cap',w'.ownsRow lo 9 1 (.slice ad' (a.dicts.length+1) cap') (a.dicts.length+1) (a.dicts.map Value.string++[.string (Tr.trn (Ar.txs a) size.toNat)])->TxSl w' ad' (Ar.retD a size)):=fun lo w' ad' cap' h1=>by
  have e:(Ar.retD a size).map Value.string=a.dicts.map Value.string++[.string (Tr.trn (Ar.txs a) size.toNat)]:=by unfold Ar.retD;rw [List.map_append];rfl
  rw [<-hrl,<-e] at h1;obtain ⟨ad2,cap2,e2,_,h5⟩:=Zex h1;simp only [Value.slice.injEq] at e2;obtain ⟨rfl,_,rfl⟩:=e2;exact TxFar.sl h5
 have HI:Hid (∀ m,m<a.files.length->(Ar.reI a size m).length=a.files.length/\Ar.fa (Ar.reI a size m) m=Ar.fa a.files m/\fcs (Ar.reI a size (m+1))=fcs ((Ar.reI a size m).take m++Ar.reF a size (Ar.fa a.files m) :: (Ar.reI a size m).drop (m+1))):=fun m hm=>⟨Ar.ZsN (Nat.le_of_lt hm),(Ar.ZrI hm).1,by rw [(Ar.ZrI hm).2]⟩
 have HIN:Hid (fcs (Ar.reI a size a.files.length)=fcs (a.files.map (Ar.reF a size))):=by show _=_;rw [Ar.ZsJ]
 have HA:Hid (∀ lo w' v1 v2,ArOwn lo w' v1 v2 a->w'.ownsRow lo 9 1 v1 a.dicts.length (a.dicts.map Value.string)/\w'.ownsRow lo 46 5 v2 a.files.length (fcs (Ar.reI a size 0))/\(∀ j,v1.ownBlock=some j->v2.ownBlock ≠ some j)):=fun lo w' v1 v2 h9=>⟨h9.o1,by rw [Ar.ZpS];exact h9.o2,h9.ne⟩
 have HTl:Hid ((Ar.txs a).length=a.files.length):=by show _=_;unfold Ar.txs;rw [List.length_map]
 unfold Zag at C1;rw [hc] at C1;unfold av at C1 C6 |-
 generalize hTX:Ar.txs a=TX at *;generalize hXX:Tr.trn TX size.toNat=X at *;have HXX:Hid (Tr.trn TX size.toNat=X):=hXX
 have xz:X.size<=256:=by
  have:=(Tr.ZfX TX size.toNat).most;rw [hXX] at this;omega
 clear hXX hTX;generalize a.dicts.map Value.string=XS at *;clear h hs hM hc hz hT hmr hrl m3 hE;generalize a.dicts.length=D at *;generalize a.files.length=N at *;have hDi:(D:Int)<=4:=by omega
 have hNi:(N:Int)<=12:=by omega
 have d4:((D:Int) == 4)=false:=by simp;omega
 have d4':decide ((D:Int)=4)=false:=dF (by omega);have d4'':¬ (D:Int)=4:=by omega
 go_enter Tryz.func25,Tryz.ntmps25
 go_wp2_with fail
 refine (C1.out _ (Fr.start w _ _).b).mono ?_;rintro e w1 ⟨adt,capt,L,rfl,_,hfar,hLx,_,G1⟩;have hLT:=hLx (by trivial);subst hLT;have F1:=(Fr.start w _ _).next G1;clear G1 hLx C1;have hsl:=TxFar.sl hfar;obtain ⟨b,a0,a1,r0,r1,z0,z1,hz⟩:=id F1;have C2':=C2.out w1 adt capt b hsl;go_wp2_with fail
 refine C2'.mono ?_;rintro e w2 ⟨rfl,G2⟩;have F2:=F1.next G2
 have HX:Hid (∀ w',Below w2.heap.size w2 w'->∀ m,m<N->∃ b off,adt=some ⟨b,off,none⟩/\b<w2.heap.size/\w'.cell? ⟨b,off+m,none⟩=some (.string (Tr.xa L m))):=fun w' h9 m hm=>by
  obtain ⟨b,off,e1,e2,e3⟩:=(hsl.below G2).at (i:=m) (by rw [HTl.out];exact hm)
  exact ⟨b,off,e1,e2,(h9.cell (p:=⟨b,off+m,none⟩) e2).trans e3⟩
 clear b a0 a1 r0 r1 z0 z1 hz C2 C2' hsl hfar G2 F1;obtain ⟨b,a0,a1,r0,r1,z0,z1,hz⟩:=id F2;go_wp2_with fail
 refine (C6.out _ F2.b).mono ?_;rintro e w6 ⟨v1,v2,rfl,O6,G6⟩;have F6:=F2.next G6;obtain ⟨o1,o2,o3⟩:=HA.out _ _ _ _ O6;have hlo:w.heap.size+1<w2.heap.size:=F2.hz;have hl0:w2.heap.size<=w6.heap.size:=G6.size;have HX6:Hid (∀ w',Below w2.heap.size w6 w'->∀ m,m<N->∃ b off,adt=some ⟨b,off,none⟩/\b<w2.heap.size/\w'.cell? ⟨b,off+m,none⟩=some (.string (Tr.xa L m))):=fun w' h9 m hm=>HX.out w' (G6.trans h9) m hm
 generalize w2.heap.size=lo at o1 o2 hlo hl0 HX6;clear G6 O6 HA b a0 a1 r0 r1 z0 z1 hz C6 HX F2;obtain ⟨p1,q1,rfl,_⟩:=Zl o1;obtain ⟨p2,q2,rfl,_⟩:=Zl o2;obtain ⟨b,a0,a1,r0,r1,z0,z1,hz⟩:=id F6;have hz6:w.heap.size<w6.heap.size:=by omega
 have S0:CpS w6 (w6.alloc (.cells #[.slice p1 D q1,.slice p2 N q2] 25 (0,0))) w6.heap.size lo (.slice p1 D q1) (.slice p2 N q2) D N XS (fcs (Ar.reI a size 0)) :=
  ⟨World.cell?_alloc_new _ _ _ 0,World.cell?_alloc_new _ _ _ 1,World.frozen?_alloc_at _ _ _ _ rfl,World.frozen?_alloc_at _ _ _ _ rfl,o1.alloc _,o2.alloc _,o3,fun e=>by have:=(o1.lt _ e).2;omega,fun e=>by have:=(o2.lt _ e).2;omega,hl0,by simp,(Below.refl _ _).alloc hl0 _⟩
 clear o1 o2 o3
 have hnw:∀ j u,[Value.string X][j]?=some u->((w6.alloc (.cells #[.slice p1 D q1,.slice p2 N q2] 25 (0,0))).alloc (.cells #[.string X] 9 (0,0))).cell? ((⟨w6.heap.size+1,0,none⟩:Addr).add j)=some u:=by
  intro j u hj;rw [ZaY,(box2 w6 _ #[.string X] _ _).2];simpa using hj
 go_wp2_with (first
  | (at_builtin;refine wpList_append_lies _ rfl _ _ 22 rfl lo 9 i0 (.string ⟨#[]⟩) 1 16 Tryz.underlying22 hi hz0 hz1 hz2 rfl (by decide) (.slice p1 D q1) _ _ rfl (S0.o1.alloc _) ⟨w6.heap.size+1,0,none⟩ 1 1 [.string X] rfl rfl hnw (by simp [Value.oneCell']) (by decide) (by unfold maxLen;omega) (by omega) (by simp;omega) _ rfl ?_;intro g cp w5 hown5 hgrow5 hat5 hlt5;obtain ⟨⟨⟨qq1,qq2⟩,S5⟩,K5⟩:=S0.put1 hgrow5 hown5 hat5;have c15:=S5.c1;clear hgrow5 hown5 hat5 hlt5 K5)
  | fail)
 clear S0 hnw c15 qq1 qq2 b a0 a1 r0 r1 z0 z1 hz;generalize (w5.setCell ⟨w6.heap.size,0,none⟩ (.slice (some ⟨g,0,none⟩) (D+1) cp))=wq at *;generalize w6.heap.size=C at *;go_loopw [47] (fun i wr=>∃ m:Nat,m<=N/\i=.int .i64 m/\CpS w6 wr C lo (.slice (some ⟨g,0,none⟩) (D+1) cp) (.slice p2 N q2) (D+1) N (XS++[.string X]) (fcs (Ar.reI a size m))) (fun i _=>N - (intOf i).toNat)
 case atStart=>exact ⟨0,by omega,rfl,S5⟩
 case round =>
  clear S5;obtain ⟨m,hm2,rfl,S6⟩:=hrel;have F7:=F6.keep S6.bel hlo;by_cases hlt:m<N
  ·have d2:decide ((m:Int)<(N:Int))=true:=by simp;omega
   have d2':decide (m<N)=true:=by simp;omega
   have hmi:(m:Int)<(N:Int):=by omega
   have hmL:(m:Int)<(L.length:Int):=by rw [HTl.out];exact hmi
   have hmL':m<L.length:=by rw [HTl.out];exact hlt
   rcases S6.o2.2 with ⟨_,h0⟩ | ⟨g2,cap2,cur2,e,_⟩
   ·omega
   simp only [Value.slice.injEq] at e;obtain ⟨rfl,_,rfl⟩:=e;obtain ⟨hIl,hIf,hIs⟩:=HI.out m hlt;have HIs:Hid (fcs (Ar.reI a size (m+1))=fcs ((Ar.reI a size m).take m++Ar.reF a size (Ar.fa a.files m) :: (Ar.reI a size m).drop (m+1))):=hIs;have hat:=ZqX (i:=m) (fs:=Ar.reI a size m) (w:=wr) (lo:=lo) (g:=g2) (cap:=q2) (by rw [hIl];exact S6.o2) (by omega);rw [hIf] at hat;have x0:wr.cell? ⟨g2,m*5,none⟩=some (.string (Ar.fa a.files m).name):=hat.1 0 (by omega);have x1:wr.cell? ⟨g2,m*5+1,none⟩=some (.int .i64 (Ar.fa a.files m).dict):=hat.1 1 (by omega);have x2:wr.cell? ⟨g2,m*5+2,none⟩=some (.int .i64 (Ar.fa a.files m).size):=hat.1 2 (by omega);have x3:wr.cell? ⟨g2,m*5+3,none⟩=some (.int .i64 (Ar.fa a.files m).sum):=hat.1 3 (by omega);have x4:wr.cell? ⟨g2,m*5+4,none⟩=some (.string (Ar.fa a.files m).blk):=hat.1 4 (by omega);have hg2:g2<wr.heap.size:=(S6.o2.lt g2 rfl).2;have y:=hat.2;have CPm:=fun w' h9=>CP.out w' (some ⟨g,0,none⟩) cp (some ⟨g2,0,none⟩) q2 m hlt h9
   have HS5:Hid (∀ wk,CpS w6 wk C lo (.slice (some ⟨g,0,none⟩) (D+1) cp) (.slice (some ⟨g2,0,none⟩) N q2) (D+1) N (XS++[.string X]) (fcs (Ar.reI a size m))->CpS w6 (w5s wk g2 (m*5) (.string (Ar.reF a size (Ar.fa a.files m)).name) (.int .i64 (Ar.reF a size (Ar.fa a.files m)).dict) (.int .i64 (Ar.reF a size (Ar.fa a.files m)).size) (.int .i64 (Ar.reF a size (Ar.fa a.files m)).sum) (.string (Ar.reF a size (Ar.fa a.files m)).blk)) C lo (.slice (some ⟨g,0,none⟩) (D+1) cp) (.slice (some ⟨g2,0,none⟩) N q2) (D+1) N (XS++[.string X]) (fcs (Ar.reI a size (m+1)))):=fun wk h9=>by
    rw [<-hIl] at h9;have:=CpS.set5 (Ar.reF a size (Ar.fa a.files m)) h9 (i:=m) (by omega);rw [hIl,<-hIs] at this;exact this
   have htx:=HTx.out lo wr (some ⟨g,0,none⟩) cp S6.o1;clear hIs hIf hIl hat HIs;generalize (Ar.reF a size (Ar.fa a.files m)).name=n0 at *;generalize (Ar.reF a size (Ar.fa a.files m)).dict=n1 at *;generalize (Ar.reF a size (Ar.fa a.files m)).size=n2 at *;generalize (Ar.reF a size (Ar.fa a.files m)).sum=n3 at *;generalize (Ar.reF a size (Ar.fa a.files m)).blk=n4 at *;generalize (Ar.fa a.files m).name=f0 at *;generalize (Ar.fa a.files m).dict=f1 at *;generalize (Ar.fa a.files m).size=f2 at *;generalize (Ar.fa a.files m).sum=f3 at *;generalize (Ar.fa a.files m).blk=f4 at *;go_wp2_with fail
   have S7:=S6.below ((bR _ _).alloc (nl _) (.cells #[.string f0,.int .i64 f1,.int .i64 f2,.int .i64 f3,.string f4] 46 (0,0)));have hbx:(wr.alloc (.cells #[.string f0,.int .i64 f1,.int .i64 f2,.int .i64 f3,.string f4] 46 (0,0))).cell? ⟨wr.heap.size,0,none⟩=some (.string f0):=cN _ _ _ 0;have htx7:=htx.below ((bR _ _).alloc (nl _) (.cells #[.string f0,.int .i64 f1,.int .i64 f2,.int .i64 f3,.string f4] 46 (0,0)));have k:=fun (p:Addr) (hp:p.block<wr.heap.size)=>World.cell?_alloc_lt wr (.cells #[.string f0,.int .i64 f1,.int .i64 f2,.int .i64 f3,.string f4] 46 (0,0)) p hp
   have j0:=(k ⟨g2,m*5,none⟩ hg2).trans x0;have j1:=(k ⟨g2,m*5+1,none⟩ hg2).trans x1;have j2:=(k ⟨g2,m*5+2,none⟩ hg2).trans x2;have j3:=(k ⟨g2,m*5+3,none⟩ hg2).trans x3;have j4:=(k ⟨g2,m*5+4,none⟩ hg2).trans x4;have fz7:∀ o,(wr.alloc (.cells #[.string f0,.int .i64 f1,.int .i64 f2,.int .i64 f3,.string f4] 46 (0,0))).frozen? ⟨g2,o,none⟩=false:=fun o=>by rw [World.frozen?_alloc_past _ _ _ hg2];exact y o
   have hg27:g2<(wr.alloc (.cells #[.string f0,.int .i64 f1,.int .i64 f2,.int .i64 f3,.string f4] 46 (0,0))).heap.size:=by simp;omega
   generalize (wr.alloc (.cells #[.string f0,.int .i64 f1,.int .i64 f2,.int .i64 f3,.string f4] 46 (0,0)))=wP at *;generalize wr.heap.size=P at *;obtain ⟨bt,ot,rfl,hbt,hct⟩:=HX6.out wP S7.bel m hlt;have c0:=S7.c0;have c1:=S7.c1;clear x0 x1 x2 x3 x4 y k S6 htx F7;generalize Tr.xa L m=tm at *;have CP9:=CPm wP.drew (htx7.below ((bR _ _).drew))
   have HK:Hid (∀ wk,Below wP.heap.size wP.drew wk->CpS w6 wk C lo (.slice (some ⟨g,0,none⟩) (D+1) cp) (.slice (some ⟨g2,0,none⟩) N q2) (D+1) N (XS++[.string X]) (fcs (Ar.reI a size m))/\wk.cell? ⟨g2,m*5,none⟩=some (.string f0)/\wk.cell? ⟨g2,m*5+1,none⟩=some (.int .i64 f1)/\wk.cell? ⟨g2,m*5+2,none⟩=some (.int .i64 f2)/\wk.cell? ⟨g2,m*5+3,none⟩=some (.int .i64 f3)/\wk.cell? ⟨g2,m*5+4,none⟩=some (.string f4)/\∀ o,wk.frozen? ⟨g2,o,none⟩=false):=fun wk Gk=>by
    have G9:Below wP.heap.size wP wk:=Below.trans ((bR wP.heap.size wP).drew) Gk;exact ⟨S7.below G9,(G9.cell (p:=⟨g2,m*5,none⟩) hg27).trans j0,(G9.cell (p:=⟨g2,m*5+1,none⟩) hg27).trans j1,(G9.cell (p:=⟨g2,m*5+2,none⟩) hg27).trans j2,(G9.cell (p:=⟨g2,m*5+3,none⟩) hg27).trans j3,(G9.cell (p:=⟨g2,m*5+4,none⟩) hg27).trans j4,fun o=>(G9.frozen (p:=⟨g2,o,none⟩) hg27).trans (fz7 o)⟩
   have hC7:C<wP.heap.size:=S7.hb;have hloC:lo<=C:=S7.hC;have hlg:lo<=g2:=(S7.o2.lt g2 rfl).1;have hbt':bt<wP.heap.size:=by omega
   have hPP:P<wP.heap.size:=cL wP _ hbx
   have hS0:Hid (∀ wk,Below wP.heap.size wP.drew wk->wk.cell? ⟨C,0,none⟩=some (.slice (some ⟨g,0,none⟩) (D+1) cp)/\wk.cell? ⟨C,1,none⟩=some (.slice (some ⟨g2,0,none⟩) N q2)/\wk.cell? ⟨P,0,none⟩=some (.string f0)/\wk.cell? ⟨bt,ot+m,none⟩=some (.string tm)):=fun wk Gk=>by
    have G9:Below wP.heap.size wP wk:=Below.trans ((bR wP.heap.size wP).drew) Gk;exact ⟨(G9.cell (p:=⟨C,0,none⟩) hC7).trans c0,(G9.cell (p:=⟨C,1,none⟩) hC7).trans c1,(G9.cell (p:=⟨P,0,none⟩) hPP).trans hbx,(G9.cell (p:=⟨bt,ot+m,none⟩) hbt').trans hct⟩
   have hne1:C ≠ g2:=fun e=>S7.a2 (show some g2=some C by rw [e])
   have hS5:Hid (∀ wk,Below wP.heap.size wP.drew wk->(fun w9=>w9.cell? ⟨C,0,none⟩=some (.slice (some ⟨g,0,none⟩) (D+1) cp)/\w9.cell? ⟨C,1,none⟩=some (.slice (some ⟨g2,0,none⟩) N q2)/\w9.cell? ⟨P,0,none⟩=some (.string f0)/\w9.cell? ⟨bt,ot+m,none⟩=some (.string tm)) (w5s wk g2 (m*5) (.string n0) (.int .i64 n1) (.int .i64 n2) (.int .i64 n3) (.string n4))):=fun wk Gk=>by
    obtain ⟨e0,e1,e2,e3⟩:=hS0.out wk Gk;have gr:=Zda wk g2 (m*5) (.string n0) (.int .i64 n1) (.int .i64 n2) (.int .i64 n3) (.string n4);exact ⟨Ze gr e0 (by simpa using hne1),Ze gr e1 (by simpa using hne1),Ze gr e2 (by simp;omega),Ze gr e3 (by simp;omega)⟩
   unfold w5s at hS5;simp only at hS5;clear S7 j0 j1 j2 j3 j4 fz7 htx7 CPm hg2 hct hbt hbt' hbx c0 c1 hC7 hPP hloC hlg;go_region_held3 (fun wk=>wk.cell? ⟨C,0,none⟩=some (.slice (some ⟨g,0,none⟩) (D+1) cp)/\wk.cell? ⟨C,1,none⟩=some (.slice (some ⟨g2,0,none⟩) N q2)/\wk.cell? ⟨P,0,none⟩=some (.string f0)/\wk.cell? ⟨bt,ot+m,none⟩=some (.string tm))
    (first | (exact hS0.out _ (bR _ _)) | (exact hS0.out _ Gk) | (exact hS5.out _ Gk))
    (first
     | (go_at_call 52;refine CP9.mono ?_;rintro e wk ⟨rfl,Gk⟩;obtain ⟨Sk,l0,l1,l2,l3,l4,lf⟩:=HK.out wk Gk;have lf0:=lf (m*5);have lf1:=lf (m*5+1);have lf2:=lf (m*5+2);have lf3:=lf (m*5+3);have lf4:=lf (m*5+4)))
   all_goals
    have S8:=HS5.out wk Sk;unfold w5s at S8;go_wp2_with fail
    go_roundw
    case rel=>exact ⟨m+1,by omega,by go_num,S8⟩
    case measure=>simp [intOf];omega
  ·obtain rfl:m=N:=by omega
   have d1:decide ((m:Int)<(m:Int))=false:=by simp
   rw [HIN.out] at S6;obtain ⟨b,a0,a1,r0,r1,z0,z1,hz⟩:=id F7;obtain ⟨Bz,Oz1,Oz2,Rz0,Rz1⟩:=Zbb b S6.o1 S6.o2 hlo r0 r1;have ne9:=S6.ne;have c0:=S6.c0;have c1:=S6.c1;have hC2:=S6.hb;have hzw:w.heap.size<wr.heap.size:=by omega
   clear S6 F7;go_wp2_with fail
   generalize (wr.setCell ⟨w.heap.size+1,0,none⟩ (.slice (some ⟨g,0,none⟩) (D+1) cp)).setCell ⟨w.heap.size+1,1,none⟩ (.slice p2 m q2)=wz at *;exact bodyPost_ret (v:=.tuple #[.agg #[.slice (some ⟨g,0,none⟩) (D+1) cp,.slice p2 m q2],.int .i64 0]) (by simp [results,Tryz.results25,go_sem,Rz0,Rz1]) rfl (HQ.out _ _ _ Oz1 Oz2 ne9 Bz)
theorem Zfa (ad af:Option Addr) (cd cf:Nat) (a:Ar.A) (size:Int) (w:World) (h:ArV w ad af a) (hs:SaneA a) (hM:Mx w) :
 Calls Tryz.prog 25 #[av ad cd af cf a,.int .i64 size] w fun e w'=>ArSaid w (Ar.retA a size) (Ar.retE a size) e w':=by
 by_cases hE:Ar.retE a size=0
 ·rw [Ar.ZhW hE,hE];exact ZlV ad af cd cf a size w h hs hM hE
 ·have e:Ar.retA a size=Ar.az:=by unfold Ar.retA;rw [if_neg hE]
  rw [e];unfold Ar.retE at hE |-
  by_cases hc:Ar.chk a=0
  ·rw [if_neg (fun h9=>h9 hc)] at hE |-
   by_cases hz:0<=size/\size<=256
   ·rw [if_pos hz] at hE |-
    by_cases h4:a.dicts.length=4
    ·rw [if_pos h4];exact ZgE ad af cd cf a size w h hs hM hc hz h4
    ·rw [if_neg h4] at hE;exact absurd rfl hE
   ·rw [if_neg hz];exact ZgT ad af cd cf a size w h hs hM hc hz
  ·rw [if_pos hc];exact ZiE ad af cd cf a size w h hs hc
set_option linter.unusedVariables false
theorem ZlS (dict:ByteArray) (ad:Option Addr) (cap:Nat) (l:List Tk.T) (w:World) (hl:SlAt w ad l) (hs:Sane l) :
 Calls Tryz.prog 102 #[.string dict,.slice ad l.length cap] w fun e w'=>e=.returned (.string (Zat dict l))/\Below w.heap.size w w':=by
 have c1:=fun w hl=>Zoe dict ad cap l w hl hs
 generalize Zat dict l=P at *;generalize Zo dict l=C at *;go_enter Tryz.func102,Tryz.ntmps102
 go_wp2_with fail
 refine (c1 _ hl).mono ?_;rintro e w1 ⟨rfl,G⟩;go_wp2_with fail
 go_ret
 exact ⟨rfl,G⟩
theorem ZgP {dict s:ByteArray} {m:List Tk.T} (hd:dict.size<=256) (hs:s.size<=140737488355328) (hm:ZC dict s=some m) (w:World):Calls Tryz.prog 101 #[.string dict,.string s] w fun e w'=>Below w.heap.size w w'/\∃ ad cap,e=.returned (.tuple #[.slice ad m.length cap,.bool true])/\SlAt w' ad m:=(Zdz dict s w hs).mono fun e w' h=>by
 rw [Zhb hd] at h
 rcases h with ⟨h1,⟨h2,_⟩ | ⟨k,a,c,h2,h3,h4⟩⟩
 ·rw [hm] at h2;cases h2
 ·rw [hm] at h2;cases h2;exact ⟨h1,a,c,h3,h4⟩
theorem Zjf {dict s:ByteArray} (hd:dict.size<=256) (hs:s.size<=140737488355328) (hm:ZC dict s=none) (w:World):Calls Tryz.prog 101 #[.string dict,.string s] w fun e w'=>Below w.heap.size w w'/\e=.returned (.tuple #[.slice none 0 0,.bool false]):=(Zdz dict s w hs).mono fun e w' h=>by
 rw [Zhb hd] at h
 rcases h with ⟨h1,⟨_,h2⟩ | ⟨k,a,c,h2,h3,h4⟩⟩
 ·exact ⟨h1,h2⟩
 ·rw [hm] at h2;cases h2
theorem ZhQ {dict s:ByteArray} {m:List Tk.T} (hd:dict.size<=256) (hm:ZC dict s=some m) (ad:Option Addr) (cap:Nat) (w:World) (h:SlAt w ad m):Calls Tryz.prog 102 #[.string dict,.slice ad m.length cap] w fun e w'=>e=.returned (.string (Zat dict m))/\Below w.heap.size w w' :=
 ZlS dict ad cap m w h (Zds (Zbp (Zek hd hm).2))
theorem ZZ {b:ByteArray} (h0:b.size ≠ 0):b.toList.isEmpty=false:=by
 rw [ByteArray.toList_eq,Bool.eq_false_iff];intro e;rw [List.isEmpty_iff] at e;apply h0;have:=congrArg List.length e;rw [Cd.Zf] at this;simpa using this
theorem Zqa {b:ByteArray} (h:0<b.size):Cd.at8 b 0=b[0].toNat:=by unfold Cd.at8;rw [Nm.ZN b 0 h];rfl
theorem ZuS (s:ByteArray) (j:Nat) (hj:j<8):Cd.at8 (s.extract 0 8) j=Cd.at8 s j:=by
 unfold Cd.at8
 congr 2
 simp [ByteArray.data_extract,Array.toList_extract];rw [List.getElem?_take_of_lt hj,Array.getElem?_toList]
theorem ZjY (s:ByteArray) (i:Nat):Bk.ptK s 8 i=Bk.pt (s.extract 0 8) i:=by
 unfold Bk.pt Bk.ptK;by_cases h:i<2*8
 ·rw [if_pos h,if_pos h,ZuS s (i / 2) (by omega)]
 ·rw [if_neg h,if_neg h]
theorem Zfi (dict:ByteArray) (w:World) :
 Calls Tryz.prog 62 #[.string dict,.string ⟨#[]⟩] w fun e w'=>e=.returned (.tuple #[.string ⟨#[]⟩,.bool false])/\Below w.heap.size w w':=by
 go_enter Tryz.func62,Tryz.ntmps62
 go_wp2_with fail
 go_ret2
 exact ⟨rfl,bR _ _⟩
theorem ZkW (dict b S:ByteArray) (w:World) (hd:dict.size<=256) (hb:b.size<=140737488355328) (h0:0<b.size) (hS:b.extract 1 b.size=S) (hx:(b[0].toNat:Int)=0) :
 Calls Tryz.prog 62 #[.string dict,.string b] w fun e w'=>e=.returned (.tuple #[.string S,.bool (decide ((S.size:Int)<=512))])/\Below w.heap.size w w':=by
 have hne:=ZZ (b:=b) (by omega);have hb1:(1:Int)<=(b.size:Int):=by omega
 have hb1n:1<=b.size:=by omega
 have hb0:(0:Int)<(b.size:Int):=by omega
 have hbi:(b.size:Int)<=140737488355328:=by omega
 have hs1:=Zn b 1 b.size;rw [hS] at hs1;have hs2:S.size<=140737488355328:=by omega
 clear hs1;go_enter Tryz.func62,Tryz.ntmps62
 go_wp2_with fail
 go_region
 go_wp2_with fail
 go_ret2
 exact ⟨rfl,(bR _ _).drew⟩
theorem ZkD (dict b S:ByteArray) (w:World) (hd:dict.size<=256) (hb:b.size<=140737488355328) (h0:0<b.size) (hS:b.extract 1 b.size=S) (hx:2<(b[0].toNat:Int)) :
 Calls Tryz.prog 62 #[.string dict,.string b] w fun e w'=>e=.returned (.tuple #[.string ⟨#[]⟩,.bool false])/\Below w.heap.size w w':=by
 have hne:=ZZ (b:=b) (by omega);have hb1:(1:Int)<=(b.size:Int):=by omega
 have hb1n:1<=b.size:=by omega
 have hb0:(0:Int)<(b.size:Int):=by omega
 have hbi:(b.size:Int)<=140737488355328:=by omega
 have hs1:=Zn b 1 b.size;rw [hS] at hs1;have hs2:S.size<=140737488355328:=by omega
 clear hs1
 obtain ⟨x,hxe⟩:∃ x:Int,(b[0].toNat:Int)=x:=⟨_,rfl⟩
 rw [hxe] at hx;have q0:(x == 0)=false:=by simp;omega
 have q1:(x == 2)=false:=by simp;omega
 have q2:¬ x=0:=by omega
 have q3:¬ x=2:=by omega
 have q4:decide (2<x)=true:=by simp;omega
 go_enter Tryz.func62,Tryz.ntmps62
 go_wp2_with fail
 go_region
 go_wp2_with fail
 go_ret2
 exact ⟨rfl,(bR _ _).drew⟩
theorem Zii (dict b S:ByteArray) (w:World) (hd:dict.size<=256) (hb:b.size<=140737488355328) (h0:0<b.size) (hS:b.extract 1 b.size=S) (hx:(b[0].toNat:Int)=1) (hm:ZC dict S=none) :
 Calls Tryz.prog 62 #[.string dict,.string b] w fun e w'=>e=.returned (.tuple #[.string ⟨#[]⟩,.bool false])/\Below w.heap.size w w':=by
 have hne:=ZZ (b:=b) (by omega);have hb1:(1:Int)<=(b.size:Int):=by omega
 have hb1n:1<=b.size:=by omega
 have hb0:(0:Int)<(b.size:Int):=by omega
 have hbi:(b.size:Int)<=140737488355328:=by omega
 have hs1:=Zn b 1 b.size;rw [hS] at hs1;have hs2:S.size<=140737488355328:=by omega
 clear hs1;have c1:=fun w=>Zjf hd (by omega) hm w
 clear hm;go_enter Tryz.func62,Tryz.ntmps62
 go_wp2_with fail
 go_region
 go_wp2_with fail
 refine (c1 _).mono ?_;rintro e w1 ⟨G1,rfl⟩;have B1:Below w.heap.size w w1:=(bR _ _).drew.trans G1;go_wp2_with fail
 go_ret2
 exact ⟨rfl,B1⟩
theorem Zie (dict b S:ByteArray) (w:World) (hd:dict.size<=256) (hb:b.size<=140737488355328) (h0:0<b.size) (hS:b.extract 1 b.size=S) (hx:(b[0].toNat:Int)=1) (m:List Tk.T) (hm:ZC dict S=some m) :
 Calls Tryz.prog 62 #[.string dict,.string b] w fun e w'=>e=.returned (.tuple #[.string (Zat dict m),.bool true])/\Below w.heap.size w w':=by
 have hne:=ZZ (b:=b) (by omega);have hb1:(1:Int)<=(b.size:Int):=by omega
 have hb1n:1<=b.size:=by omega
 have hb0:(0:Int)<(b.size:Int):=by omega
 have hbi:(b.size:Int)<=140737488355328:=by omega
 have hs1:=Zn b 1 b.size;rw [hS] at hs1;have hs2:S.size<=140737488355328:=by omega
 clear hs1;have c1:=fun w=>ZgP hd (by omega) hm w
 have c2:=fun ad cap w h=>ZhQ hd hm ad cap w h
 clear hm;generalize Zat dict m=P at *;go_enter Tryz.func62,Tryz.ntmps62
 go_wp2_with fail
 go_region
 go_wp2_with fail
 refine (c1 _).mono ?_;rintro e w1 ⟨G1,ad,cap,rfl,S1⟩;have B1:Below w.heap.size w w1:=(bR _ _).drew.trans G1;go_wp2_with fail
 refine (c2 ad cap _ S1).mono ?_;rintro e w2 ⟨rfl,G2⟩;have B2:=bch B1 G2 (nl _);go_wp2_with fail
 go_ret2
 exact ⟨rfl,B2⟩
theorem Zit (dict b S:ByteArray) (w:World) (hd:dict.size<=256) (hb:b.size<=140737488355328) (h0:0<b.size) (hS:b.extract 1 b.size=S) (hx:(b[0].toNat:Int)=2) (h8:S.size<8) :
 Calls Tryz.prog 62 #[.string dict,.string b] w fun e w'=>e=.returned (.tuple #[.string ⟨#[]⟩,.bool false])/\Below w.heap.size w w':=by
 have hne:=ZZ (b:=b) (by omega);have hb1:(1:Int)<=(b.size:Int):=by omega
 have hb1n:1<=b.size:=by omega
 have hb0:(0:Int)<(b.size:Int):=by omega
 have hbi:(b.size:Int)<=140737488355328:=by omega
 have hs1:=Zn b 1 b.size;rw [hS] at hs1;have hs2:S.size<=140737488355328:=by omega
 clear hs1;have h8':(S.size:Int)<8:=by omega
 have h8d:decide ((S.size:Int)<8)=true:=by simp;omega
 go_enter Tryz.func62,Tryz.ntmps62
 go_wp2_with fail
 go_region
 go_wp2_with fail
 go_ret2
 exact ⟨rfl,(bR _ _).drew⟩
end Go.Proofs.YtbjbjbpgmojcbabGreat
