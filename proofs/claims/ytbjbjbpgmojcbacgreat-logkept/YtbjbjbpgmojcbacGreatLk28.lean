/- A part of the proof: what it leans on. -/
import Derived.WalkMore
import Derived.RegionTactic
import Derived.ChangeAlike
import Derived.Test.YtbjbjbpgmojcbacGreatLk27
set_option maxRecDepth 8000
set_option maxHeartbeats 4000000
namespace Go.Proofs.YtbjbjbpgmojcbacGreat
open Go.RowKit
namespace Im
theorem Zpx {s r q:ByteArray} {k:Nat} {x:Act} (hr:s.extract k s.size=r) (h:rAct r=some (x,q)):q.size<r.size/\r.size=s.size - k/\s.extract (k+(r.size - q.size)) s.size=q:=by
 obtain ⟨_,h2⟩:=(Zck r x q).1 h;have hl:=congrArg List.length h2;rw [List.length_append,<-Zq,<-Zq] at hl;have hp:0<(actB x).length:=List.length_pos_iff.2 (ZiT x);have hz:r.size=s.size - k:=by rw [<-hr];simp
 refine ⟨by omega,hz,?_⟩;apply Nm.ZF;rw [Zap,<-List.drop_drop,<-Zap s k,hr,h2,show r.size - q.size=(actB x).length by omega];simp
end Im
def RpSaid (l:List Im.Act) (n:Nat) (E:Int) (w:World) (e:Ending) (w':World):Prop:=∃ v,e=.returned (.tuple #[v,.int .i64 (n:Nat),.int .i64 E])/\w'.ownsRow w.heap.size 29 4 v l.length (xcs l)/\Below w.heap.size w w'
theorem Zdc (s:ByteArray) (w:World) :
 Calls Tryz.prog 20 #[.string s] w fun e w'=>RpSaid (Im.rplL s) (Im.rplN s) (Im.rplE s) w e w':=by
 by_cases hbig:16384<s.size
 ·have e1:Im.rplL s=[]:=if_pos hbig;have e2:Im.rplN s=0:=if_pos hbig;have e3:Im.rplE s=2:=if_pos hbig;rw [e1,e2,e3];have d1:decide ((16384:Int)<(s.size:Int))=true:=zdT (by omega)
  have hq:RpSaid [] 0 2 w (.returned (.tuple #[.slice none 0 0,.int .i64 0,.int .i64 2])) w:=⟨_,rfl,World.ownsRow_nil _ _ _ _,bR _ _⟩
  generalize RpSaid [] 0 2 w=Q at *;clear e1 e2 e3;go_enter Tryz.func20,Tryz.ntmps20
  go_wp2_with fail
  go_step3
  go_wp2_with fail
  rw [Exit.noGoto_ret];go_ret3
  exact hq
 ·obtain ⟨j0,gi,gz0,gz1,gz2⟩:=info_parts (P:=Tryz.prog) (e:=29) (z:=.agg #[.int .i64 0,.int .i64 0,.string ⟨#[]⟩,.string ⟨#[]⟩]) (size:=4) (bytes:=48) (by kernel_rfl);have e1:Im.rplL s=(Im.rep 100 s).1:=if_neg hbig;have e2:Im.rplN s=s.size - (Im.rep 100 s).2.size:=if_neg hbig;have e3:Im.rplE s=0:=if_neg hbig;rw [e1,e2,e3];have d1:decide ((16384:Int)<(s.size:Int))=false:=dF (by omega);have hs:s.size<=16384:=by omega
  have HQ:Hid (∀ (l:List Im.Act) (k:Nat) (r:ByteArray),s.extract k s.size=r->k<=s.size->Im.rep 100 s=(l,r)->∀ v w',w'.ownsRow w.heap.size 29 4 v l.length (xcs l)->Below w.heap.size w w'->RpSaid (Im.rep 100 s).1 (s.size - (Im.rep 100 s).2.size) 0 w (.returned (.tuple #[v,.int .i64 (k:Nat),.int .i64 0])) w'):=fun l k r h1 h2 h3 v w' h4 h5=>by
   have hz:r.size=s.size - k:=by rw [<-h1];simp
   rw [h3];exact ⟨v,by simp only;rw [show s.size - r.size=k by omega],h4,h5⟩
  generalize RpSaid (Im.rep 100 s).1 (s.size - (Im.rep 100 s).2.size) 0 w=Q at *;clear e1 e2 e3 hbig;go_enter Tryz.func20,Tryz.ntmps20
  go_wp2_with fail
  go_step3
  go_wp2_with fail
  go_step3
  go_wp2_with fail
  go_loopw [5,6] (fun v i wr=>∃ (l:List Im.Act) (k:Nat) (r:ByteArray),i=.int .i64 k/\Hid (s.extract k s.size=r)/\k<=s.size/\l.length<=100/\Hid (Im.rep 100 s=(l++(Im.rep (100 - l.length) r).1,(Im.rep (100 - l.length) r).2))/\wr.ownsRow w.heap.size 29 4 v l.length (xcs l)/\Below w.heap.size w wr) (fun _ i _=>s.size - (intOf i).toNat)
  case atStart=>exact ⟨[],0,s,rfl,by show _=_;apply Nm.ZF;rw [Im.Zap];rfl,by omega,by simp,rfl,World.ownsRow_nil _ _ _ _,bR _ _⟩
  case round =>
   obtain ⟨l,k,r,rfl,HR,hk,hl,HP,O,B⟩:=hrel;obtain ⟨x,c,rfl,_⟩:=Zi O;have hki:(k:Int)<=(s.size:Int):=by omega
   by_cases hlt:l.length<100
   ·have d2:decide ((l.length:Int)<100)=true:=zdT (by omega);have d2':decide (l.length<100)=true:=zdT hlt;have hr:=HR.out;have hrz:r.size<=281474976710656:=by rw [<-hr];simp;omega
    cases ha:Im.rAct r with
    | none =>
     have C:=fun w=>Zlr r w hrz ha
     have HF:=Zar (Im.Zpe HP.out ha);clear ha HP;have HS:Hid (xcs l=xcs l):=rfl;go_wp2_with fail
     refine (C _).mono ?_;rintro e w1 ⟨rfl,G⟩;have GA:=Za w1 (.cells #[.int .i64 0,.int .i64 0,.string ⟨#[]⟩,.string ⟨#[]⟩] 29 (0,0));have hq:=HQ.out l k r HR.out hk HF.out _ _ (Zj (Zj O G) GA) (bch (bch B G (nl _)) GA (nl _));clear C O B G HQ HF HR;go_wp2_with fail
     rw [Exit.noGoto_ret];go_ret3
     exact hq
    | some y =>
     obtain ⟨⟨ak,an,nm,tx⟩,q⟩:=y;obtain ⟨q1,q2,q3⟩:=Im.Zpx hr ha;have C:=fun w=>Zke r q ak an nm tx w hrz ha
     have HF:=Zar (Im.Zor HP.out hlt ha);have hdn:(r.size:Int) - (q.size:Int)=((r.size - q.size:Nat):Int):=by omega
     simp only [hdn] at C;have hqs:q.size<=r.size:=by omega
     have HR':=Zar q3;have h1:0<r.size - q.size:=by omega
     have h2:k+(r.size - q.size)<=s.size:=by omega
     clear hdn ha HP q3;generalize r.size - q.size=dn at *;have d3:((dn:Int) == 0)=false:=by simp;omega
     have d3':(dn == 0)=false:=by simp;omega
     go_wp2_with fail
     refine (C _).mono ?_;rintro e w1 ⟨rfl,G⟩;have GA:=Za w1 (.cells #[.int .i64 ak,.int .i64 an,.string nm,.string tx] 29 (0,0));have O2:=Zj (Zj O G) GA;have B2:=bch (bch B G (nl _)) GA (nl _);have X2:=XB.new w1 29 ak an nm tx;clear C O B G GA HR hr;obtain ⟨x0,x1,x2,x3,_⟩:=id X2;have hb2:=B2.size;have hsz:(w1.alloc (.cells #[.int .i64 ak,.int .i64 an,.string nm,.string tx] 29 (0,0))).heap.size=w1.heap.size+1:=by simp
     have hnw:=ZtU (w1.alloc (.cells #[.int .i64 ak,.int .i64 an,.string nm,.string tx] 29 (0,0))) (.int .i64 ak) (.int .i64 an) (.string nm) (.string tx) 29;rw [hsz] at hnw hb2;clear hsz;have HS:Hid (xcs (l++[⟨ak,an,nm,tx⟩])=xcs l++[.int .i64 ak,.int .i64 an,.string nm,.string tx]):=by show _=_;rw [ZcU];rfl
     go_wp2_with (first
      | (at_builtin;go_must (refine zwL _ rfl _ _ 22 rfl w.heap.size 29 j0 (.agg #[.int .i64 0,.int .i64 0,.string ⟨#[]⟩,.string ⟨#[]⟩]) 4 48 U22 gi gz0 gz1 gz2 rfl (by decide) _ _ _ rfl (O2.alloc _) ⟨w1.heap.size+1,0,none⟩ 1 1 [.int .i64 ak,.int .i64 an,.string nm,.string tx] rfl rfl hnw (one4 _ _ _ _) (by decide) (by unfold maxLen;omega) (by omega) (by simp;omega) _ rfl ?_;intro g cp w7 hown hgrow hat hlt7))
      | fail)
     have B3:Below w.heap.size w w7:=(B2.alloc (by simp;omega) _).grown hgrow (by simp;omega) (fun j hj=>(O2.lt j hj).1);go_roundw
     case rel=>exact ⟨l++[⟨ak,an,nm,tx⟩],k+dn,q,by go_num,HR',by omega,by simp;omega,HF,by rw [HS.out];simpa using hown,B3⟩
     case measure=>simp [intOf];omega
   ·have h100:l.length=100:=by omega
    have d2:decide ((l.length:Int)<100)=false:=dF (by omega);have d2':decide (l.length<100)=false:=dF hlt;have hq:=HQ.out l k r HR.out hk (Im.Zoq HP.out (by omega)) _ _ O B;clear HQ HP HR O h100;go_wp2_with fail
    rw [Exit.noGoto_ret];go_ret3
    exact hq
namespace Tr
def fnK (L:List ByteArray) (d:ByteArray):Nat->Option Nat
 | 0=>none
 | k+1=>match fnK L d k with
  | some i=>some i
  | none=>if st (xa L k) d=true then none else some k
theorem Zqc {L:List ByteArray} {d:ByteArray} {k i:Nat} (h:fnK L d k=some i):∀ j,fnK L d (k+j)=some i:=by
 intro j
 induction j with
 | zero=>exact h
 | succ j ih=>rw [<-Nat.add_assoc,fnK,ih]
theorem Zgh {L:List ByteArray} {d:ByteArray}:∀ {k:Nat},(match fnK L d k with | none=>∀ j,j<k->st (xa L j) d=true | some i=>i<k/\st (xa L i) d=false/\∀ j,j<i->st (xa L j) d=true)
 | 0=>by intro j h;omega
 | k+1=>by
  have ih:=Zgh (L:=L) (d:=d) (k:=k);rw [fnK]
  cases h:fnK L d k with
  | some i=>rw [h] at ih;exact ⟨by have:=ih.1;omega,ih.2⟩
  | none =>
   rw [h] at ih;simp only at ih |-
   by_cases hs:st (xa L k) d=true
   ·rw [if_pos hs];intro j hj;by_cases e:j=k
    ·subst e;exact hs
    ·exact ih j (by omega)
   ·rw [if_neg hs];exact ⟨by omega,by simpa using hs,ih⟩
def fix (L:List ByteArray) (d:ByteArray):Int:=match fnK L d L.length with | none=>-1 | some i=>(i:Int)
end Tr
theorem ZlH (p d:ByteArray) (bx:Nat) (w:World) (hc:w.cell? ⟨bx,0,none⟩=some (.string d)) (hM:Mx w) (hd:d.size<=4000000000) (hp:0<p.size) :
 Calls Tryz.prog 66 #[.string p,.pointer (some ⟨bx,0,none⟩)] w fun e w'=>e=.returned (.bool (!Tr.st p d))/\w'=w:=by
 have c1:=Zgn d p w hM hd hp;generalize Tr.st p d=r at *;go_enter Tryz.func66,Tryz.ntmps66
 go_wp2_with fail
 refine c1.mono ?_;rintro e w2 ⟨rfl,rfl⟩;go_wp2_with fail
 go_ret
 exact ⟨rfl,rfl⟩
theorem Zfh (L:List ByteArray) (d:ByteArray) (b off cap bx:Nat) (w:World) (hx:Tr.TxAt w b off L) (hn:L.length<=100000) (hc:w.cell? ⟨bx,0,none⟩=some (.string d)) (hM:Mx w) (hd:d.size<=4000000000) (hp:∀ i,i<L.length->(Tr.xa L i).size=4) :
 Calls Tryz.prog 65 #[.slice (some ⟨b,off,none⟩) L.length cap,.func (.func 66) #[] #[.pointer (some ⟨bx,0,none⟩)]] w fun e w'=>e=.returned (.int .i64 (Tr.fix L d))/\w'=w:=by
 have HX:Hid (∀ i,i<L.length->w.cell? ⟨b,off+i,none⟩=some (.string (Tr.xa L i))):=hx.2;have HP:Hid (∀ i,i<L.length->Calls Tryz.prog 66 #[.string (Tr.xa L i),.pointer (some ⟨bx,0,none⟩)] w fun e w'=>e=.returned (.bool (!Tr.st (Tr.xa L i) d))/\w'=w):=fun i hi=>ZlH _ d bx w hc hM hd (by rw [hp i hi];omega)
 clear hp hc hM hx
 obtain ⟨r,hr⟩:∃ r,Tr.fix L d=r:=⟨_,rfl⟩
 rw [hr];have Hr:Hid ((match Tr.fnK L d L.length with | none=>(-1:Int) | some i=>(i:Int))=r):=hr;clear hr;go_enter Tryz.func65,Tryz.ntmps65
 go_wp2_with fail
 go_loopw [8] (fun i wr=>∃ k:Nat,k<=L.length/\i=.int .i64 k/\Hid (Tr.fnK L d k=none)/\wr=w) (fun i _=>L.length - (intOf i).toNat)
 case atStart=>exact ⟨0,by omega,rfl,rfl,rfl⟩
 case round =>
  obtain ⟨k,hk2,rfl,HL,rfl⟩:=hrel;by_cases hlt:k<L.length
  ·have d1:decide ((k:Int)<(L.length:Int))=true:=by simp;omega
   have d1':decide (k<L.length)=true:=by simp;omega
   have hki:(k:Int)<(L.length:Int):=by omega
   have c1:=HX.out k hlt;have c2:=HP.out k hlt
   cases hs:Tr.st (Tr.xa L k) d with
   | false =>
    have HN:Hid (Tr.fnK L d (k+1)=some k):=by show _=_;rw [Tr.fnK,HL.out];simp only;rw [hs];rfl
    have HR:Hid ((k:Int)=r):=by
     have h9:=Tr.Zqc HN.out (L.length - (k+1));rw [show k+1+(L.length - (k+1))=L.length by omega] at h9;have:=Hr.out;rw [h9] at this;exact this
    rw [hs] at c2;generalize Tr.xa L k=X at *;clear HN hs;go_wp2_with fail
    refine c2.mono ?_;rintro e w2 ⟨rfl,rfl⟩;go_wp2_with fail
    go_ret
    exact ⟨congrArg (fun x=>Ending.returned (Value.int .i64 x)) HR.out,rfl⟩
   | true =>
    have HN:Hid (Tr.fnK L d (k+1)=none):=by show _=_;rw [Tr.fnK,HL.out];exact if_pos hs
    rw [hs] at c2;generalize Tr.xa L k=X at *;clear hs;go_wp2_with fail
    refine c2.mono ?_;rintro e w2 ⟨rfl,rfl⟩;go_wp2_with fail
    go_roundw
    case rel=>exact ⟨k+1,by omega,by go_num,HN,by trivial⟩
    case measure=>simp [intOf];omega
  ·obtain rfl:k=L.length:=by omega
   have HR:Hid ((-1:Int)=r):=by have:=Hr.out;rw [HL.out] at this;exact this
   have d1:decide ((L.length:Int)<(L.length:Int))=false:=by simp
   clear Hr;go_wp2_with fail
   go_ret
   exact ⟨congrArg (fun x=>Ending.returned (Value.int .i64 x)) HR.out,rfl⟩
theorem Zhx (ad:Option Addr) (cap:Nat) (fv:Value) (w:World) :
 Calls Tryz.prog 65 #[.slice ad 0 cap,fv] w fun e w'=>e=.returned (.int .i64 (-1))/\w'=w:=by
 go_enter Tryz.func65,Tryz.ntmps65
 go_wp2_with fail
 go_loopw [8] (fun i wr=>i=.int .i64 0/\wr=w) (fun i _=>0)
 case atStart=>exact ⟨rfl,rfl⟩
 case round =>
  obtain ⟨rfl,rfl⟩:=hrel;go_wp2_with fail
  go_ret
  exact ⟨rfl,rfl⟩
theorem ZhA (lo:Nat) (L:List ByteArray) (d:ByteArray) (ad:Option Addr) (cap bx:Nat) (w:World) (hx:Tr.TxFar lo w ad L) (hn:L.length<=100000) (hc:w.cell? ⟨bx,0,none⟩=some (.string d)) (hM:Mx w) (hd:d.size<=4000000000) (hp:∀ i,i<L.length->(Tr.xa L i).size=4) :
 Calls Tryz.prog 65 #[.slice ad L.length cap,.func (.func 66) #[] #[.pointer (some ⟨bx,0,none⟩)]] w fun e w'=>e=.returned (.int .i64 (Tr.fix L d))/\w'=w:=by
 rcases hx with rfl | ⟨b,off,rfl,_,h2⟩
 ·exact Zhx ad cap _ w
 ·exact Zfh L d b off cap bx w h2 hn hc hM hd hp
namespace Tr
theorem TxFar.set {lo:Nat} {w:World} {ad:Option Addr} {xs:List ByteArray} (h:TxFar lo w ad xs) {bx:Nat} (hb:bx<lo) (v:Value):TxFar lo (w.setCell ⟨bx,0,none⟩ v) ad xs:=by
 rcases h with h | ⟨b,off,h1,h2,h3⟩
 ·exact .inl h
 ·refine .inr ⟨b,off,h1,h2,by simpa using h3.1,fun i hi=>?_⟩;exact (cO w _ _ _ (by intro e;have:=congrArg Addr.block e;simp at this;omega)).trans (h3.2 i hi)
theorem TxFar.drop {lo:Nat} {w:World} {b off:Nat} {xs:List ByteArray} (h2:lo<=b) (h:TxAt w b off xs) (j:Nat):TxFar lo w (some ⟨b,off+j,none⟩) (xs.drop j):=by
 refine .inr ⟨b,off+j,rfl,h2,h.1,fun i hi=>?_⟩;rw [List.length_drop] at hi;rw [show off+j+i=off+(j+i) by omega,h.2 (j+i) (by omega)];simp [xa]
def slen:Value->Nat
 | .slice _ n _=>n
 | _=>0
theorem Zbz {L:List ByteArray} {i:Nat} (h:i<L.length):xa L i=L[i]:=by simp [xa,h]
theorem ZrF {xs pre P:List ByteArray} {d:ByteArray} (h:Rk xs (pre++P)) (hpre:∀ p,p ∈ pre->st p d=true) {i:Nat} (hf:fnK P d P.length=some i) :
 i<P.length/\best xs d=xa P i/\(xa P i).size=4/\(∀ p,p ∈ pre++P.take (i+1)->st p (xa P i++d)=true):=by
 have hs:=Zgh (L:=P) (d:=d) (k:=P.length);rw [hf] at hs;obtain ⟨h1,h2,h3⟩:=hs;have hm:xa P i ∈ pre++P:=by rw [Zbz h1];exact List.mem_append_right _ (gM h1)
 have h4:=((h.2 _).1 hm).1;refine ⟨h1,?_,h4,?_⟩
 ·have hi:pre.length+i<(pre++P).length:=by rw [List.length_append];omega
  have e:(pre++P)[pre.length+i]=xa P i:=by rw [Zbz h1,List.getElem_append_right (by omega)];simp
  rw [<-e];refine ZoZ h hi (by rw [e];exact h2) fun k hk=>?_
  by_cases hk2:k<pre.length
  ·rw [List.getElem_append_left hk2];exact hpre _ (gM hk2)
  ·rw [List.getElem_append_right (by omega),<-Zbz];exact h3 _ (by omega)
 ·intro p hp;rw [List.mem_append] at hp;rcases hp with hp | hp
  ·exact ZgV (hpre p hp)
  ·obtain ⟨k,hk,rfl⟩:=List.mem_iff_getElem.1 hp;rw [List.length_take] at hk;rw [List.getElem_take,<-Zbz];by_cases e:k=i
   ·subst e;exact Zuk _ _
   ·exact ZgV (h3 k (by omega))
theorem Zsf {xs pre P:List ByteArray} {d:ByteArray} (h:Rk xs (pre++P)) (hpre:∀ p,p ∈ pre->st p d=true) (hf:fnK P d P.length=none):(best xs d).size=0:=by
 have hs:=Zgh (L:=P) (d:=d) (k:=P.length);rw [hf] at hs;refine ZsP h fun k hk=>?_
 by_cases hk2:k<pre.length
 ·rw [List.getElem_append_left hk2];exact hpre _ (gM hk2)
 ·rw [List.length_append] at hk;rw [List.getElem_append_right (by omega),<-Zbz];exact hs _ (by omega)
theorem Zkn {xs:List ByteArray} (h:many xs=false):xs.length<=12/\∀ i,(xa xs i).size<=512:=by
 rw [many,Bool.or_eq_false_iff,decide_eq_false_iff_not] at h;refine ⟨by omega,fun i=>?_⟩;apply Nat.le_of_not_lt;intro hlt;by_cases hi:i<xs.length
 ·have:∀ k,i<k->(lgK xs k).isSome=true:=by
   intro k hk
   induction k with
   | zero=>omega
   | succ k ih =>
    rw [lgK];by_cases e:i=k
    ·subst e
     cases lgK xs i with
     | some _=>rfl
     | none=>simp only;rw [if_pos hlt];rfl
    ·have:=ih (by omega)
     cases hq:lgK xs k with
     | some _=>rfl
     | none=>rw [hq] at this;cases this
  rw [this _ hi] at h
  cases h.2
 ·have:xa xs i=⟨#[]⟩:=by simp [xa,show xs.length<=i by omega]
  rw [this] at hlt;have:(⟨#[]⟩:ByteArray).size=0:=rfl;omega
end Tr
theorem Zpu (xs:List ByteArray) (size:Int) (ad:Option Addr) (cap:Nat) (w:World) (hx:TxSl w ad xs) (hB:∀ i,(Tr.xa xs i).size<=140737488355328) (hM:Mx w) (hm:Tr.many xs=false) (h0:0<=size) (h1:size<=256) :
 Calls Tryz.prog 32 #[.slice ad xs.length cap,.int .i64 size] w fun e w'=>e=.returned (.tuple #[.string (Tr.trn xs size.toNat),.int .i64 0])/\Below w.heap.size w w':=by
 obtain ⟨hn,hX⟩:=Tr.Zkn hm;have c1:=Zcj xs ad cap w hx hB;rw [hm] at c1;have HR:Hid (∀ w',Below w.heap.size w w'->Calls Tryz.prog 64 #[.slice ad xs.length cap] w' fun e w2=>∃ ad' cap' L,e=.returned (.slice ad' (L:List ByteArray).length cap')/\L.length<=cap'/\L.length<=6144/\Tr.TxFar w'.heap.size w2 ad' L/\Tr.Rk xs L/\Below w'.heap.size w' w2):=fun w' hb=>ZkR xs ad cap w' (hx.below hb) hn hX (hM.below hb)
 have HM:Hid (∀ w',Below w.heap.size w w'->Mx w'):=fun w' hb=>hM.below hb
 have d1:decide (size<0)=false:=dF (by omega);have d2:decide ((256:Int)<size)=false:=dF (by omega);have HG:=Tr.Zge xs size.toNat
 obtain ⟨R,hR⟩:∃ R,Tr.trn xs size.toNat=R:=⟨_,rfl⟩
 rw [hR] at HG |-
 have HR0:Hid (Tr.tro xs size.toNat 65 ⟨#[]⟩=R):=hR;have hRs:R.size<=256:=by have:=HG.most;omega
 clear hX hx hB hM hm hR HG;go_enter Tryz.func32,Tryz.ntmps32
 go_wp2_with fail
 refine c1.mono ?_;rintro e w1 ⟨rfl,B1⟩;clear c1;have c2:=HR.out (w1.alloc (.cells #[.string ⟨#[]⟩] 9 (0,0))) (B1.alloc B1.size _);go_wp2_with fail
 refine c2.mono ?_;rintro e w2 ⟨ad',cap',L,rfl,hLc,hL6,hT,hRk,B2⟩;clear c2 HR
 have hcx:w2.cell? ⟨w1.heap.size,0,none⟩=some (.string ⟨#[]⟩):=by
  rw [B2.cell (p:=⟨w1.heap.size,0,none⟩) (by simp)];exact cell_one_new _ _ _ 0 _ rfl
 have hfx:w2.frozen? ⟨w1.heap.size,0,none⟩=false:=by
  rw [B2.frozen (p:=⟨w1.heap.size,0,none⟩) (by simp)];exact fN _ _ _ _ rfl
 have B3:Below w.heap.size w w2:=bch (B1.alloc B1.size (.cells #[.string ⟨#[]⟩] 9 (0,0))) B2 (nl _);have hlo:w1.heap.size<(w1.alloc (.cells #[.string ⟨#[]⟩] 9 (0,0))).heap.size:=by simp
 have hwb:=B1.size;generalize (w1.alloc (.cells #[.string ⟨#[]⟩] 9 (0,0))).heap.size=lo at *;generalize w1.heap.size=bx at *;clear B1 B2;have HRk:Hid (Tr.Rk xs L):=hRk;clear hRk;go_wp2_with fail
 go_loopw [7] (fun v wr=>∃ (pre P:List ByteArray) (d:ByteArray) (f:Nat) (ad2:Option Addr) (c:Nat),v=.slice ad2 P.length c/\P.length<=c/\P.length<=6144/\Hid (pre++P=L)/\Tr.TxFar lo wr ad2 P/\Hid (∀ p,p ∈ pre->Tr.st p d=true)/\Hid (Tr.tro xs size.toNat f d=R)/\Hid (4*f+d.size=260)/\d.size<=256/\wr.cell? ⟨bx,0,none⟩=some (.string d)/\wr.frozen? ⟨bx,0,none⟩=false/\Below w.heap.size w wr)
  (fun v _=>Tr.slen v)
 case atStart=>exact ⟨[],L,⟨#[]⟩,65,ad',cap',rfl,hLc,hL6,rfl,hT,(fun p hp=>by cases hp),HR0,rfl,by decide,hcx,hfx,B3⟩
 case round =>
  clear hcx hfx hT B3 hLc hL6;obtain ⟨pre,P,d,f,ad2,c,rfl,hPc,hP6,HPL,hT,Hpre,HRd,Hf,hd,hcx,hfx,B3⟩:=hrel;by_cases hfit:(d.size:Int)+4<=size
  ·have e1:decide ((d.size:Int)+4<=size)=true:=zdT hfit;have hrk:Tr.Rk xs (pre++P):=by rw [HPL.out];exact HRk.out
   have hp4:∀ i,i<P.length->(Tr.xa P i).size=4:=fun i hi=>((hrk.2 _).1 (List.mem_append_right _ (by rw [Tr.Zbz hi];exact gM hi))).1
   have c3:=ZhA lo P d ad2 c bx wr hT (by omega) hcx (HM.out _ B3) (by omega) hp4;unfold Tr.fix at c3
   cases hq:Tr.fnK P d P.length with
   | none =>
    rw [hq] at c3;simp only at c3
    have HN:Hid (d=R):=by
     have h9:=HRd.out;rw [Tr.ZfO (Tr.Zsf hrk Hpre.out hq)] at h9;exact h9
    clear hq hp4 hrk;have c4:=fun w=>ZM d w (by omega)
    go_wp2_with fail
    refine c3.mono ?_;rintro e w3 ⟨rfl,rfl⟩;go_wp2_with fail
    refine (c4 _).mono ?_;rintro e w4 ⟨rfl,G⟩;go_wp2_with fail
    go_ret2
    exact ⟨by rw [HN.out];rfl,bch B3 G (nl _)⟩
   | some i =>
    rw [hq] at c3;simp only at c3;obtain ⟨h2,h3,h4,h5⟩:=Tr.ZrF hrk Hpre.out hq
    obtain ⟨g,rfl⟩:∃ g,f=g+1:=⟨f - 1,by have:=Hf.out;omega⟩
    have HN:Hid (Tr.tro xs size.toNat g (Tr.xa P i++d)=R):=by
     have h9:=HRd.out;rw [Tr.Zjk (by omega) (by rw [h3];exact h4),h3] at h9;exact h9
    have HPre2:Hid (∀ p,p ∈ pre++P.take (i+1)->Tr.st p (Tr.xa P i++d)=true):=h5;have HPL2:Hid (pre++P.take (i+1)++P.drop (i+1)=L):=by show _=_;rw [List.append_assoc,List.take_append_drop];exact HPL.out
    rcases hT with hT | ⟨b2,off2,rfl,hlo2,hTx⟩
    ·rw [hT] at h2;simp at h2
    have cX:=hTx.2 i h2;have hXd:(Tr.xa P i++d).size=4+d.size:=by rw [ByteArray.size_append,h4]
    have hT2:=Tr.TxFar.drop hlo2 hTx (i+1);generalize Tr.xa P i=X at *;have hii:(i:Int)<(P.length:Int):=by omega
    have hi0:decide ((i:Int)<0)=false:=dF (by omega);have hi6:(i:Int)<=6144:=by omega
    have hXs:X.size<=4:=by omega
    clear hq hp4 hrk HRd Hpre HPL h3 h5 hTx;go_wp2_with fail
    refine c3.mono ?_;rintro e w3 ⟨rfl,rfl⟩;go_wp2_with fail
    go_region
    have hT3:=(hT2.set hlo (.string (X++d)))
    have hc3:(w3.setCell ⟨bx,0,none⟩ (.string (X++d))).cell? ⟨bx,0,none⟩=some (.string (X++d)):=cS _ _ _ hcx;have hf3:(w3.setCell ⟨bx,0,none⟩ (.string (X++d))).frozen? ⟨bx,0,none⟩=false:=by rw [World.frozen?_setCell];exact hfx
    have B4:Below w.heap.size w (w3.setCell ⟨bx,0,none⟩ (.string (X++d))):=B3.setCell hwb _;have HD:Hid ((P.drop (i+1)).length=P.length - (i+1)):=List.length_drop ..;have hlP:((i:Int)+1)<=(P.length:Int):=by omega
    have hlc:(P.length:Int)<=(c:Int):=by omega
    by_cases hce:i+1=c
    ·subst hce;obtain hPl:P.length=i+1:=by omega
     go_wp2_with fail
     go_roundw
     case rel=>exact ⟨pre++P.take (i+1),[],X++d,g,_,0,rfl,nl _,by simp,by have h9:=HPL2.out;rw [List.drop_of_length_le (by omega:P.length<=i+1)] at h9;exact h9,.inl rfl,HPre2,HN,by have:=Hf.out;show 4*g+_=260;omega,by omega,hc3,hf3,B4.drew⟩
     case measure=>simp [Tr.slen];omega
    ·have hce':¬ ((i:Int)+1=(c:Int)):=by omega
     go_wp2_with fail
     go_roundw
     case rel=>exact ⟨pre++P.take (i+1),P.drop (i+1),X++d,g,_,c - (i+1),by rw [HD.out],by rw [HD.out];omega,by rw [HD.out];omega,HPL2,hT3,HPre2,HN,by have:=Hf.out;show 4*g+_=260;omega,by omega,hc3,hf3,B4.drew⟩
     case measure=>simp [Tr.slen];omega
  ·have e1:decide ((d.size:Int)+4<=size)=false:=dF hfit
   have HN:Hid (d=R):=by
    have h9:=HRd.out;rw [Tr.ZiJ (by omega)] at h9;exact h9
   have c4:=fun w=>ZM d w (by omega)
   go_wp2_with fail
   refine (c4 _).mono ?_;rintro e w4 ⟨rfl,G⟩;go_wp2_with fail
   go_ret2
   exact ⟨by rw [HN.out];rfl,bch B3 G (nl _)⟩
theorem ZkE (xs:List ByteArray) (size:Int) (ad:Option Addr) (cap:Nat) (w:World) (hx:TxSl w ad xs) (hB:∀ i,(Tr.xa xs i).size<=140737488355328) (hm:Tr.many xs=true) :
 Calls Tryz.prog 32 #[.slice ad xs.length cap,.int .i64 size] w fun e w'=>e=.returned (.tuple #[.string ⟨#[]⟩,.int .i64 2])/\Below w.heap.size w w':=by
 have c1:=Zcj xs ad cap w hx hB;rw [hm] at c1;clear hB hm hx;go_enter Tryz.func32,Tryz.ntmps32
 go_wp2_with fail
 refine c1.mono ?_;rintro e w1 ⟨rfl,B1⟩;go_wp2_with fail
 go_ret2
 exact ⟨rfl,B1⟩
theorem Zip (xs:List ByteArray) (size:Int) (ad:Option Addr) (cap:Nat) (w:World) (hx:TxSl w ad xs) (hB:∀ i,(Tr.xa xs i).size<=140737488355328) (hm:Tr.many xs=false) (h:size<0\/256<size) :
 Calls Tryz.prog 32 #[.slice ad xs.length cap,.int .i64 size] w fun e w'=>e=.returned (.tuple #[.string ⟨#[]⟩,.int .i64 3])/\Below w.heap.size w w':=by
 have c1:=Zcj xs ad cap w hx hB;rw [hm] at c1;clear hB hm hx;by_cases h0:size<0
 ·have d1:decide (size<0)=true:=zdT h0;clear h;go_enter Tryz.func32,Tryz.ntmps32
  go_wp2_with fail
  refine c1.mono ?_;rintro e w1 ⟨rfl,B1⟩;go_wp2_with fail
  go_ret2
  exact ⟨rfl,B1⟩
 ·have d1:decide (size<0)=false:=dF h0;have h2:256<size:=by omega
  have d2:decide ((256:Int)<size)=true:=zdT h2;clear h;go_enter Tryz.func32,Tryz.ntmps32
  go_wp2_with fail
  refine c1.mono ?_;rintro e w1 ⟨rfl,B1⟩;go_wp2_with fail
  go_ret2
  exact ⟨rfl,B1⟩
namespace Tr
def tnE (xs:List ByteArray) (size:Int):Int:=if many xs=true then 2 else if 0<=size/\size<=256 then 0 else 3
def tnD (xs:List ByteArray) (size:Int):ByteArray:=if tnE xs size=0 then trn xs size.toNat else ⟨#[]⟩
end Tr
theorem Zeu (xs:List ByteArray) (size:Int) (ad:Option Addr) (cap:Nat) (w:World) (hx:TxSl w ad xs) (hB:∀ i,(Tr.xa xs i).size<=140737488355328) (hM:Mx w) :
 Calls Tryz.prog 32 #[.slice ad xs.length cap,.int .i64 size] w fun e w'=>e=.returned (.tuple #[.string (Tr.tnD xs size),.int .i64 (Tr.tnE xs size)])/\Below w.heap.size w w':=by
 unfold Tr.tnD Tr.tnE
 cases hm:Tr.many xs with
 | true=>simpa using ZkE xs size ad cap w hx hB hm
 | false =>
  by_cases h:0<=size/\size<=256
  ·simpa [h] using Zpu xs size ad cap w hx hB hM hm h.1 h.2
  ·simpa [h] using Zip xs size ad cap w hx hB hm (by omega)
theorem ZhN (ad af:Option Addr) (cd cf:Nat) (a:Ar.A) (size:Int) (w:World) (h:ArV w ad af a) (hs:SaneA a) (hc:Ar.chk a ≠ 0) :
 Calls Tryz.prog 13 #[av ad cd af cf a,.int .i64 size] w fun e w'=>ArSaid w Ar.az (Ar.chk a) e w':=by
 have C1:Hid (∀ w',Below w.heap.size w w'->Calls Tryz.prog 31 #[av ad cd af cf a] w' fun e w2=>Zae a w' e w2):=fun w' h9=>ZbH ad af cd cf a w' (h.below h9) hs
 have hQ:Hid (∀ w',Below w.heap.size w w'->ArSaid w Ar.az (Ar.chk a) (.returned (.tuple #[.agg #[.slice none 0 0,.slice none 0 0],.int .i64 (Ar.chk a)])) w'):=fun w' h9=>Zx h9
 generalize ArSaid w Ar.az (Ar.chk a)=Q at *;unfold Zae at C1;unfold av at C1 |-
 generalize Ar.chk a=E at *;generalize Ar.txs a=TX at *;generalize a.dicts.length=D at *;generalize a.files.length=N at *;have e1:(E != 0)=true:=by simpa using hc
 have e2:(E == 0)=false:=by simpa using hc
 clear h hs;go_enter Tryz.func13,Tryz.ntmps13
 go_wp2_with fail
 refine (C1.out _ (Fr.start w _ _).b).mono ?_;rintro e w1 ⟨adt,capt,L,rfl,_,_,_,_,G1⟩;have F1:=(Fr.start w _ _).next G1;clear G1;obtain ⟨b,a0,a1,r0,r1,z0,z1,hz⟩:=id F1;go_wp2_with fail
 rw [F1.zero];exact bodyPost_ret (v:=.tuple #[.agg #[.slice none 0 0,.slice none 0 0],.int .i64 E]) (by simp [results,Tryz.results13,go_sem,F1.r0,F1.r1]) rfl (hQ.out _ F1.b)
theorem ZgX (ad af:Option Addr) (cd cf:Nat) (a:Ar.A) (size:Int) (w:World) (h:ArV w ad af a) (hs:SaneA a) (hM:Mx w) (hc:Ar.chk a=0) (hz:¬ (0<=size/\size<=256)) :
 Calls Tryz.prog 13 #[av ad cd af cf a,.int .i64 size] w fun e w'=>ArSaid w Ar.az 3 e w':=by
 have C1:Hid (∀ w',Below w.heap.size w w'->Calls Tryz.prog 31 #[av ad cd af cf a] w' fun e w2=>Zae a w' e w2):=fun w' h9=>ZbH ad af cd cf a w' (h.below h9) hs
 have hT:=Ar.ZcJ hc
 have C2:Hid (∀ w' adt capt,Below w.heap.size w w'->TxSl w' adt (Ar.txs a)->Calls Tryz.prog 32 #[.slice adt (Ar.txs a).length capt,.int .i64 size] w' fun e w2=>e=.returned (.tuple #[.string ⟨#[]⟩,.int .i64 3])/\Below w'.heap.size w' w2):=fun w' adt capt h8 h9=>by
  have:=Zeu (Ar.txs a) size adt capt w' h9 (fun i=>by
   by_cases hi:i<(Ar.txs a).length
   ·have e:Tr.xa (Ar.txs a) i=(Ar.txs a)[i]:=by simp [Tr.xa,hi]
    rw [e];exact nt (hT.2 _ (gM hi)) (by decide)
   ·have e:Tr.xa (Ar.txs a) i=⟨#[]⟩:=by simp [Tr.xa,hi]
    rw [e];exact Nat.zero_le _) (hM.below h8)
  have eE:Tr.tnE (Ar.txs a) size=3:=by unfold Tr.tnE;rw [Ar.Zfl hc,if_neg (by decide),if_neg hz]
  have eD:Tr.tnD (Ar.txs a) size=⟨#[]⟩:=by unfold Tr.tnD;rw [eE,if_neg (by decide)]
  rw [eE,eD] at this;exact this
 have hQ:Hid (∀ w',Below w.heap.size w w'->ArSaid w Ar.az 3 (.returned (.tuple #[.agg #[.slice none 0 0,.slice none 0 0],.int .i64 3])) w'):=fun w' h9=>Zx h9
 generalize ArSaid w Ar.az 3=Q at *;unfold Zae at C1;rw [hc] at C1;unfold av at C1 |-
 generalize Ar.txs a=TX at *;generalize a.dicts.length=D at *;generalize a.files.length=N at *;clear h hs hM hc hz hT;go_enter Tryz.func13,Tryz.ntmps13
 go_wp2_with fail
 refine (C1.out _ (Fr.start w _ _).b).mono ?_;rintro e w1 ⟨adt,capt,L,rfl,_,hfar,hLx,_,G1⟩;have hLT:=hLx (by trivial);subst hLT;have F1:=(Fr.start w _ _).next G1;clear G1 hLx;obtain ⟨b,a0,a1,r0,r1,z0,z1,hz⟩:=id F1;have C2':=C2.out w1 adt capt b (TxFar.sl hfar);go_wp2_with fail
 refine C2'.mono ?_;rintro e w2 ⟨rfl,G2⟩;have F2:=F1.next G2;clear b a0 a1 r0 r1 z0 z1 hz;obtain ⟨b,a0,a1,r0,r1,z0,z1,hz⟩:=id F2;go_wp2_with fail
 rw [F2.zero];exact bodyPost_ret (v:=.tuple #[.agg #[.slice none 0 0,.slice none 0 0],.int .i64 3]) (by simp [results,Tryz.results13,go_sem,F2.r0,F2.r1]) rfl (hQ.out _ F2.b)
theorem Zgy (ad af:Option Addr) (cd cf:Nat) (a:Ar.A) (size:Int) (w:World) (h:ArV w ad af a) (hs:SaneA a) (hM:Mx w) (hc:Ar.chk a=0) (hz:0<=size/\size<=256) (h4:a.dicts.length=4) :
 Calls Tryz.prog 13 #[av ad cd af cf a,.int .i64 size] w fun e w'=>ArSaid w Ar.az 2 e w':=by
 have C1:Hid (∀ w',Below w.heap.size w w'->Calls Tryz.prog 31 #[av ad cd af cf a] w' fun e w2=>Zae a w' e w2):=fun w' h9=>ZbH ad af cd cf a w' (h.below h9) hs
 have hT:=Ar.ZcJ hc
 have C2:Hid (∀ w' adt capt,Below w.heap.size w w'->TxSl w' adt (Ar.txs a)->Calls Tryz.prog 32 #[.slice adt (Ar.txs a).length capt,.int .i64 size] w' fun e w2=>e=.returned (.tuple #[.string (Tr.trn (Ar.txs a) size.toNat),.int .i64 0])/\Below w'.heap.size w' w2):=fun w' adt capt h8 h9=>by
  have:=Zeu (Ar.txs a) size adt capt w' h9 (fun i=>by
   by_cases hi:i<(Ar.txs a).length
   ·have e:Tr.xa (Ar.txs a) i=(Ar.txs a)[i]:=by simp [Tr.xa,hi]
    rw [e];exact nt (hT.2 _ (gM hi)) (by decide)
   ·have e:Tr.xa (Ar.txs a) i=⟨#[]⟩:=by simp [Tr.xa,hi]
    rw [e];exact Nat.zero_le _) (hM.below h8)
  have eE:Tr.tnE (Ar.txs a) size=0:=by unfold Tr.tnE;rw [Ar.Zfl hc,if_neg (by decide),if_pos hz]
  have eD:Tr.tnD (Ar.txs a) size=Tr.trn (Ar.txs a) size.toNat:=by unfold Tr.tnD;rw [if_pos eE]
  rw [eE,eD] at this;exact this
 have hQ:Hid (∀ w',Below w.heap.size w w'->ArSaid w Ar.az 2 (.returned (.tuple #[.agg #[.slice none 0 0,.slice none 0 0],.int .i64 2])) w'):=fun w' h9=>Zx h9
 generalize ArSaid w Ar.az 2=Q at *;unfold Zae at C1;rw [hc] at C1;unfold av at C1 |-
 generalize Tr.trn (Ar.txs a) size.toNat=X at *;generalize Ar.txs a=TX at *;rw [h4] at C1 |-
 generalize a.files.length=N at *;clear h hs hM hc hz hT h4;go_enter Tryz.func13,Tryz.ntmps13
 go_wp2_with fail
 refine (C1.out _ (Fr.start w _ _).b).mono ?_;rintro e w1 ⟨adt,capt,L,rfl,_,hfar,hLx,_,G1⟩;have hLT:=hLx (by trivial);subst hLT;have F1:=(Fr.start w _ _).next G1;clear G1 hLx;obtain ⟨b,a0,a1,r0,r1,z0,z1,hz⟩:=id F1;have C2':=C2.out w1 adt capt b (TxFar.sl hfar);go_wp2_with fail
 refine C2'.mono ?_;rintro e w2 ⟨rfl,G2⟩;have F2:=F1.next G2;clear b a0 a1 r0 r1 z0 z1 hz;obtain ⟨b,a0,a1,r0,r1,z0,z1,hz⟩:=id F2;go_wp2_with fail
 rw [F2.zero];exact bodyPost_ret (v:=.tuple #[.agg #[.slice none 0 0,.slice none 0 0],.int .i64 2]) (by simp [results,Tryz.results13,go_sem,F2.r0,F2.r1]) rfl (hQ.out _ F2.b)
end Go.Proofs.YtbjbjbpgmojcbacGreat
