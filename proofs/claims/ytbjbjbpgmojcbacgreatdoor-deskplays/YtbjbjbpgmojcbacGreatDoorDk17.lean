/- A part of the proof: what it leans on. -/
import Derived.Great.BuildSlice
import Derived.Test.YtbjbjbpgmojcbacGreatDoorDk16
set_option maxRecDepth 4000
set_option maxHeartbeats 2000000
namespace Go.Proofs.YtbjbjbpgmojcbacGreatDoor
open Ar Bk Cd Dk Im Tk Tr Vy
open Tryz
variable{a:Ar.A}{s:ByteArray}{rs:List Nat}{l:List Tr}{R line n t:List UInt8}{base g k o:Nat}{W c:Nat->Int}{v:Value}{w w':World}
open Go.RowKit
open Dk (ba)
namespace Dk
theorem jc{d:Nat}(h:VW line=some (.put n t d)):n.length<=line.length/\t.length<=line.length:=by
 have l1:=dN 32 line;have l2:=dN 32 (Wr 32 line).2.1;have l3:=dN 32 (Wr 32 (Wr 32 line).2.1).2.1;unfold VW at h;simp only at h
 repeat' split at h
 all_goals cases h
 omega
theorem gU{i:Nat}(h:VW line=some (.range n i k)):i<1000000/\k<1000000:=by
 unfold VW at h;simp only at h
 repeat' split at h
 all_goals cases h
 rename_i hh
 exact⟨eY hh.2.2.1,eY hh.2.2.2.2.1⟩
end Dk
theorem Sc(B p:Nat)(w:World)(v:Value)(l:List UInt8)(x y:Value)(a:Ar.A)(line:List UInt8)(h:Ck B p w v l x y a)(hc:Vz a=0)(hT:Gl w)(hl:line.length<=100000) :
 ∃T E,XO E/\(Wb a line).2=(if E=0 then T else V0 E)/\eW p line w (ZJ B p w v l (Wb a line).1 T E):=by
 have cg:∀(A':Ar.A) (E:Int),Wb a line=fM a A' E->XO E->eW p line w (ZJ B p w v l (if E=0 then A' else a) (if E=0 then [111,107] else []) E) →
  ∃T E,XO E/\(Wb a line).2=(if E=0 then T else V0 E)/\eW p line w (ZJ B p w v l (Wb a line).1 T E):=by
  intro A' E hs hb h1;refine⟨if E=0 then [111,107] else [],E,hb,?_,?_⟩
  ·rw[hs];unfold fM;by_cases hE:E=0
   ·rw[ax hE,ax hE,ax hE]
   ·rw[ab hE,ab hE]
  ·rw[hs];unfold fM;by_cases hE:E=0
   ·rw[ax hE]at h1 |-;exact h1
   ·rw[ab hE]at h1 |-;exact h1
 have an:∀(t:List UInt8) (E:Int),Wb a line=Yk a t E->XO E->(eW p line w (ZJ B p w v l a t E)) →
  ∃T E,XO E/\(Wb a line).2=(if E=0 then T else V0 E)/\eW p line w (ZJ B p w v l (Wb a line).1 T E):=by
  intro t E hs hb h1;rw[hs];unfold Yk;by_cases hE:E=0
  ·rw[ax hE];exact⟨t,E,hb,(ax hE).symm,h1⟩
  ·rw[ab hE];exact⟨t,E,hb,(ab hE).symm,h1⟩
 cases ho:VW line with
 |none =>
  have hs:Wb a line=(a,V0 1):=by unfold Wb;rw[ho]
  rw[hs];exact⟨[],1,XX,(ab (by decide)).symm,Sb h hT hl ho⟩
 |some od =>
  cases od with
  |put n t d =>
   obtain⟨b1,b2⟩:=jc ho;have hn:(ba n).size<=140737488355328:=by rw[VF];omega
   have ht:(ba t).size<=140737488355328:=by rw[VF];omega
   exact cg _ _ (by unfold Wb;rw[ho]) (aaU hc _ _ _) (RP n t d h hc hT hl ho hn ht)
  |drop n=>exact cg _ _ (by unfold Wb;rw[ho]) (dW hc _) (RQ n h hc hT hl ho)
  |gx k=>exact cg _ _ (by unfold Wb;rw[ho]) (aaV hc _) (RR k h hc hT hl ho)
  |compact=>exact cg _ _ (by unfold Wb;rw[ho]) (by rw[hc];exact aae) (RU h hc hT hl ho)
  |get n=>exact an _ _ (by unfold Wb;rw[ho]) (dW hc _) (R6 n h hc hT hl ho)
  |range n i k =>
   obtain⟨b1,b2⟩:=gU ho;exact an _ _ (by unfold Wb;rw[ho]) (aaW hc _ _ _) (R7 n i k h hc hT hl ho b1 b2)
  |list =>
   have hs:Wb a line=(a,bP a):=by unfold Wb;rw[ho]
   rw[hs];exact⟨_,0,aae,(ax rfl).symm,R8 h hc hT hl ho⟩
  |size =>
   have hs:Wb a line=(a,VJ (Wg a)):=by unfold Wb;rw[ho];simp only[Yk];rw[ax hc]
   rw[hs];exact⟨_,0,aae,(ax rfl).symm,R9 h hc hT hl ho⟩
  |save =>
   have hs:Wb a line=(a,if aV a=0 then YB a else V0 (aV a)):=by
    unfold Wb YB;rw[ho];simp only;by_cases he:aV a=0
    ·obtain⟨e1,e2⟩:=aaR he;rw[ax he,ax e1,ax he,ax he,e2]
    ·rw[ab he,ab he]
   rw[hs];exact⟨_,_,aaX hc,rfl,Sa h hc hT hl ho⟩
theorem Sd(B p:Nat)(w:World)(v:Value)(l:List UInt8)(x y:Value)(a:Ar.A)(line:List UInt8)(h:Ck B p w v l x y a)(hc:Vz a=0)(hT:Gl w)(hl:line.length<=100000)(hm:l.length<=1000000000) :
 Calls prog 10 #[.pointer (some ⟨p,0,none⟩),.string (ba line)] w λe w'=>e=.returned (.tuple #[])/\Below B w w'/\∃v' x' y',Ck B p w' v' (l++((Wb a line).2++[10])) x' y' (Wb a line).1:=by
 obtain⟨T,E,hE,hs,C⟩:=Sc B p w v l x y a line h hc hT hl;have hz:=fU hc line;rw[hs]at hz |-
 have hp:=h.hp;have hB:=h.ge;have hgB:=h.gB;unfold ZJ at C;generalize (Wb a line).1=A' at*;clear h hs hc;by_cases he:E=0
 ·rw[ax he]at hz |-
  subst he
  have HA:Hid (∀w' x' y',Ck B p w' v l x' y' A'->Calls prog 20 #[.pointer (some ⟨p,0,none⟩),.string (ba T++⟨#[10]⟩)] w' λe w2=>e=.returned (.tuple #[])/\Below B w' w2/\∃v',Ck B p w2 v' (l++(T++[10])) x' y' A'):=λw' x' y' h9=>by
   have e9:ba T++⟨#[10]⟩=ba (T++[10]):=YC T [10];have C9:=Gc B p w' v l x' y' A' (ba T++⟨#[10]⟩) h9 (by rw[e9,VF,List.length_append];simp;omega);rw[e9,VL]at C9;rw[e9];exact C9
  have n1:(ba T).size<=600:=by rw[VF];exact hz
  clear hz hT hE;generalize ba T=t9 at*;go_enter func10,ntmps10
  go_wp2_with fail
  refine mo C ?_;rintro w1 ⟨O1,x1,y1,K1⟩;have L1:=O1.under (lo:=B) hp hB;have C2:=HA.out w1 x1 y1 K1;clear HA;go_wp2_with fail
  refine mo C2 ?_;rintro w2 ⟨L2,v2,K2⟩;have L3:=L1.trans L2;go_wp2_with fail
  go_end0
  exact⟨rfl,L3,_,_,_,K2⟩
 ·rw[ab he]at hz |-
  have d:(E==0)=false:=by simpa using he
  have HI:Hid (∀w',Below B w w'->CB 19 #[.int .i64 E] w' (.string (ba (VJ E.toNat)))):=λw' h9=>Qy E w' hE.1 (by have:=hE.2;omega) (hT.under h9 hgB)
  have e8:(⟨#[101,114,114,111,114,32]⟩:ByteArray)++ba (VJ E.toNat)=ba (V0 E):=YC [101,114,114,111,114,32] (VJ E.toNat)
  have HA:Hid (∀w' x' y',Ck B p w' v l x' y' A'->Calls prog 20 #[.pointer (some ⟨p,0,none⟩),.string (⟨#[101,114,114,111,114,32]⟩++ba (VJ E.toNat)++⟨#[10]⟩)] w' λe w2=>e=.returned (.tuple #[])/\Below B w' w2/\∃v',Ck B p w2 v' (l++(V0 E++[10])) x' y' A'):=λw' x' y' h9=>by
   have e9:ba (V0 E)++⟨#[10]⟩=ba (V0 E++[10]):=YC (V0 E) [10];rw[e8,e9];have C9:=Gc B p w' v l x' y' A' (ba (V0 E++[10])) h9 (by rw[VF,List.length_append];simp;omega);rw[VL]at C9;exact C9
  have n1:(ba (VJ E.toNat)).size<=16:=by rw[VF];exact XW (by have:=hE.2;omega)
  clear hz hT hE e8;generalize ba (VJ E.toNat)=D9 at*;go_enter func10,ntmps10
  go_wp2_with fail
  refine mo C ?_;rintro w1 ⟨O1,x1,y1,K1⟩;have L1:=O1.under (lo:=B) hp hB;go_wp2_with fail
  refine mo (HI.out _ L1) λw2 G2=>?_
  have L2:=L1.trans (G2.mono (nt hB L1.size));have C2:=HA.out w2 x1 y1 (K1.next G2);clear HA HI;go_wp2_with fail
  refine mo C2 ?_;rintro w3 ⟨L3,v2,K2⟩;have L4:=L2.trans L3;go_wp2_with fail
  go_end0
  exact⟨rfl,L4,_,_,_,K2⟩
open Dk (ba)
namespace Dk
theorem aaY(l:List UInt8):Lib.countByte l 10=l.count 10:=rfl
theorem aaZ(l:List UInt8):Lib.hasSuffix l [10]=decide (l.getLast?=some 10):=by
 unfold Lib.hasSuffix List.isSuffixOf;rw[<-List.head?_reverse]
 cases l.reverse with
 |nil=>rfl
 |cons x r =>
  by_cases hx:x=10
  ·subst hx;rfl
  ·have h2:¬(10:UInt8)=x:=λe=>hx e.symm
   simp[List.isPrefixOf,hx,h2]
def aaf:Value->Value->Nat
 |.string b,.bool c=>2*b.size+c.toNat
 |_,_=>0
theorem ll{l:List UInt8}(h:l++YT a (YU [] t)=R)(hc:(Wr 10 t).2.2=true):(l++((Wb a (Wr 10 t).1).2++[10]))++YT (Wb a (Wr 10 t).1).1 (YU [] (Wr 10 t).2.1)=R:=by
 rw[fR,ax hc,List.nil_append]at h;rw[<-h];show _=l++((Wb a (Wr 10 t).1).2++[10]++YT (Wb a (Wr 10 t).1).1 (YU [] (Wr 10 t).2.1));simp only[List.append_assoc]
theorem run_end{l:List UInt8}(h:l++YT a (YU [] t)=R)(hc:(Wr 10 t).2.2=false):l=R:=by
 rw[fR,ab (by rw[hc];decide)]at h;rw[<-h];exact(List.append_nil l).symm
theorem mT :aaf (.string (ba (Wr 10 t).2.1)) (.bool (Wr 10 t).2.2)<2*t.length+1:=by
 unfold aaf;simp only;rw[VF]
 cases hc:(Wr 10 t).2.2 with
 |true=>have:=ix hc;simp only[Bool.toNat_true];omega
 |false=>rw[(dY hc).2];simp only[Bool.toNat_false,List.length_nil];omega
theorem ke:Vz VC=0:=by decide +kernel
end Dk
theorem Ck.new(w:World)(T:TypeId)(hT:Gl w):Ck w.heap.size w.heap.size (w.alloc (.cells #[.slice none 0 0,.slice none 0 0,.slice none 0 0] T (0,0))) (.slice none 0 0) [] (.slice none 0 0) (.slice none 0 0) VC :=
 ⟨nl _,hT.lt,by simp,cN _ _ _ 0,cN _ _ _ 1,cN _ _ _ 2,λi _=>fN _ _ _ _ rfl,aM.nil _ _,zN _ _,by simp[Value.ownBlock],by simp[Value.ownBlock],λj hj=>by simp[Value.ownBlock]at hj⟩
theorem Se(s:List UInt8)(w:World)(h1:s.length<=16384)(h2:¬100<s.count 10)(h3:¬(s ≠ []/\s.getLast? ≠ some 10))(hT:Gl w) :
 CB 4 #[.string (ba s)] w (.tuple #[.string (ba (YT VC (YU [] s))),.int .i64 0]):=by
 have hbs:=VF s;have hz:(ba s).size<=16384:=by omega
 have hz':((ba s).size:Int)<=16384:=by omega
 have d1:decide ((16384:Int)<((ba s).size:Int))=false:=dF (by omega)
 have C1:∀w',Calls prog 7 #[.string (ba s),.string ⟨#[10]⟩] w' λe w2=>e=.returned (.int .i64 (s.count 10:Nat))/\w'=w2:=λw'=>by
  have C:=Tryz.strings_Count_one (ba s) 10 w';rw[VL,aaY]at C
  exact C.mono λe w2 h9=>⟨h9.1,h9.2.symm⟩
 have C2:∀w',Calls prog 8 #[.string (ba s),.string ⟨#[10]⟩] w' λe w2=>e=.returned (.bool (decide (s.getLast?=some 10)))/\w'=w2:=λw'=>by
  have C:=Tryz.strings_HasSuffix (ba s) ⟨#[10]⟩ w' (by omega);rw[VL,show(⟨#[10]⟩:ByteArray).data.toList=[10]from rfl,aaZ]at C
  exact C.mono λe w2 h9=>⟨h9.1,h9.2.symm⟩
 have d2:decide ((100:Int)<((s.count 10:Nat):Int))=false:=dF (by omega);have C3:Hid (∀t:List UInt8,t.length<=16384->∀w',ae w w'->CB 9 #[.string (ba t),.string ⟨#[10]⟩] w' (.tuple #[.string (ba (Wr 10 t).1),.string (ba (Wr 10 t).2.1),.bool (Wr 10 t).2.2])):=λt ht w' h9=>Ga t 10 w' (by omega) (hT.below h9).mx
 obtain⟨R,hR0⟩:∃R,YT VC (YU [] s)=R:=⟨_,rfl⟩
 have HR:Hid ([]++YT VC (YU [] s)=R):=hR0;rw[hR0];clear hR0;have K0:=Ck.new w 37 hT;have G0:=Zb w (.cells #[.slice none 0 0,.slice none 0 0,.slice none 0 0] 37 (0,0));have HT:Hid (∀w',ae w w'->Gl w'):=λw' h9=>hT.below h9
 generalize s.count 10=cn at*;clear hT h2;by_cases hs0:s=[]
 case' pos =>
  subst hs0;clear h3 C2;have hbe:ba []=⟨#[]⟩:=rfl;rw[hbe]at C1 hbs hz hz' d1 |-
  have C6:=C3.out [] (by simp) _ G0;go_enter func4,ntmps4
  go_wp2_with fail
  refine mo (C1 _) ?_;rintro w1 rfl;go_wp2_with fail
 case' neg =>
  have h5:s.getLast?=some 10:=Decidable.not_not.1 (λh9=>h3 ⟨hs0,h9⟩);rw[decide_eq_true h5]at C2;have hne:=lL (b:=ba s) (by rw[hbs];exact List.length_pos_iff.2 hs0);have hne2:((ba s).toList == [])=false:=by rw[<-hne];cases (ba s).toList<;>rfl
  clear h3 h5 hs0 hbs;go_enter func4,ntmps4
  go_wp2_with fail
  refine mo (C1 _) ?_;rintro w1 rfl;go_wp2_with fail
  refine mo (C2 _) ?_;rintro w2 rfl;go_wp2_with fail
  have C6:=C3.out s h1 _ G0;clear C2
 all_goals
  refine mo C6 λw3 G3=>?_
  have B3:=ag G0 G3;have K3:=K0.next G3;clear C1 K0 G0 G3 C6;go_wp2_with fail
  go_loopw [5,6,7] (λln rs th wr=>∃(t:List UInt8) (a:Ar.A) (l:List UInt8) (v x y:Value),ln=.string (ba (Wr 10 t).1)/\rs=.string (ba (Wr 10 t).2.1)/\th=.bool (Wr 10 t).2.2/\Hid (Ck w.heap.size w.heap.size wr v l x y a)/\Hid (Vz a=0)/\Hid (l++YT a (YU [] t)=R)/\l.length+601*t.length<=9846784/\t.length<=16384/\ae w wr) (λ_ rs th _=>aaf rs th)
  case atStart=>exact⟨_,VC,[],_,_,_,rfl,rfl,rfl,K3,Dk.ke,HR.out,by simp only[List.length_nil];omega,h1,B3⟩
  case round =>
   obtain⟨t,a,l,v,x,y,rfl,rfl,rfl,K,hc,hR,hl,ht,B⟩:=hrel;have l1:=dN 10 t
   cases hb:(Wr 10 t).2.2 with
   |true =>
    have hcr:=Dk.ix hb;have C4:=Sd _ _ wr v l x y a (Wr 10 t).1 K.out hc.out (HT.out _ B) (by omega) (by omega);have hR2:Hid (_=R):=Dk.ll hR.out hb;have hc2:Hid (_=_):=fQ hc.out (Wr 10 t).1;have hz2:=fU hc.out (Wr 10 t).1;have hM:=Dk.mT (t:=(Wr 10 t).2.1);have C5:=C3.out (Wr 10 t).2.1 (by omega);generalize (Wb a (Wr 10 t).1).2=T9 at*;generalize (Wb a (Wr 10 t).1).1=A9 at*;generalize (Wr 10 t).1=ln at*;generalize (Wr 10 t).2.1=t2 at*;clear hb l1 HR C3 hR HT K hc;go_wp2_with fail
    refine mo C4 ?_;rintro w4 ⟨L4,v4,x4,y4,K4⟩;have B4:=B.trans L4;go_wp2_with fail
    refine mo (C5 _ B4) λw5 G5=>?_
    have B5:=ag B4 G5;have K5:=K4.next G5;clear C4 C5 K4 L4 B4;go_wp2_with fail
    go_roundw
    case rel=>exact⟨t2,A9,_,v4,x4,y4,rfl,rfl,rfl,K5,hc2.out,hR2.out,by simp;omega,by omega,B5⟩
    case measure =>
     have e9:aaf (.string (ba t2)) (.bool true)=2*t2.length+1:=by simp only[aaf];rw[VF];rfl
     rw[<-e9]at hM;exact hM
   |false =>
    have e9:=Dk.run_end hR.out hb;subst e9;have C4:=Qz _ _ wr v l x y a K.out;clear hR HT C3 K hc;go_wp2_with fail
    refine mo C4 λw4 G4=>?_
    have B4:=ag B G4;go_wp2_with fail
    go_ret2
    exact⟨rfl,B4⟩
theorem GX(s:ByteArray)(w:World)(hs:s.size<=281474976710656)(hT:Gl w) :
 CB 4 #[.string s] w (.tuple #[.string (ba (XP s.data.toList)),.int .i64 (XQ s.data.toList)]):=by
 by_cases h1:16384<s.size
 ·obtain⟨e1,e2⟩:=YV (l:=s.data.toList) (.inl (by rw[<-Zf];exact h1));rw[e1,e2];have d1:decide ((16384:Int)<(s.size:Int))=true:=al (by omega);clear e1 e2;go_enter func4,ntmps4
  go_wp2_with fail
  go_ret2
  exact⟨rfl,bR _ _⟩
 ·have d1:decide ((16384:Int)<(s.size:Int))=false:=dF (by omega);have h1':¬16384<s.data.toList.length:=by rw[<-Zf];exact h1
  have C1:=Tryz.strings_Count_one s 10 w;rw[aaY]at C1;by_cases h2:100<s.data.toList.count 10
  ·obtain⟨e1,e2⟩:=YV (l:=s.data.toList) (.inr h2);rw[e1,e2];have d2:decide ((100:Int)<((s.data.toList.count 10:Nat):Int))=true:=al (by omega);generalize s.data.toList.count 10=cn at*;clear e1 e2;go_enter func4,ntmps4
   go_wp2_with fail
   refine mo C1 ?_;rintro w1 rfl;go_wp2_with fail
   go_ret2
   exact⟨rfl,bR _ _⟩
  ·have h9:¬(16384<s.data.toList.length\/100<s.data.toList.count 10):=by rintro(h8|h8);exact h1' h8;exact h2 h8
   by_cases h3:s.data.toList ≠ []/\s.data.toList.getLast? ≠ some 10
   ·obtain⟨e1,e2⟩:=gy h9 h3;rw[e1,e2];have d2:decide ((100:Int)<((s.data.toList.count 10:Nat):Int))=false:=dF (by omega)
    have C2:∀w',Calls prog 8 #[.string s,.string ⟨#[10]⟩] w' λe w2=>e=.returned (.bool false)/\w2=w':=λw'=>by
     have C:=Tryz.strings_HasSuffix s ⟨#[10]⟩ w' (by omega);rw[show(⟨#[10]⟩:ByteArray).data.toList=[10]from rfl,aaZ,dF h3.2]at C;exact C
    have hne:=lL (b:=s) (by rw[Zf];exact List.length_pos_iff.2 h3.1);have hne2:(s.toList == [])=false:=by rw[<-hne];cases s.toList<;>rfl
    generalize s.data.toList.count 10=cn at*;clear e1 e2 h3 h9 h2;go_enter func4,ntmps4
    go_wp2_with fail
    refine mo C1 ?_;rintro w1 rfl;go_wp2_with fail
    refine mo (C2 _) ?_;rintro w2 rfl;go_wp2_with fail
    go_ret2
    exact⟨rfl,bR _ _⟩
   ·obtain⟨e1,e2⟩:=aa0 h9 h3;rw[e1,e2];have C:=Se s.data.toList w (by omega) h2 h3 hT;rw[fE]at C;exact C
open Dk (ba w1 w2 w3)
theorem GY(k:Nat):∀(n:Int) (w:World),0<=n->n<=k->n<10000000000000000 →
 CB 23 #[.int .i64 n] w (.string (ba (VJ n.toNat))):=by
 induction k with
 |zero =>
  intro n w h0 hk _;obtain rfl:n=0:=by omega
  have hcv:=nA 48 (by omega) (by omega);have HD:Hid (ba (VJ (0:Int).toNat)=⟨#[48]⟩):=by show _=_;rw[aa1 (by decide)];rfl
  go_enter func23,ntmps23
  go_wp2_with fail
  go_ret
  exact⟨by rw[HD.out];rfl,(bR _ _).alloc (nl _) _⟩
 |succ k ih =>
  intro n w h0 hk hb;have hcv:=nA (48+n%10) (by omega) (by omega);have hr1:IntKind.i64.wrap (48+n%10)=48+n%10:=IntWalk.i64_in _ ⟨by omega,by omega⟩;have hr3:n.tmod 10=n%10:=Int.tmod_eq_emod_of_nonneg h0;have hr2:IntKind.u8.wrap (48+n%10)=48+n%10:=IntWalk.u8_in _ ⟨by omega,by omega⟩;by_cases hn:n<10
  ·have HN:Hid (ba (VJ n.toNat)=⟨#[UInt8.ofNat (48+n%10).toNat]⟩):=by
    show _=_;rw[aa1 (by omega),show(48+n%10).toNat=48+n.toNat by omega];rfl
   clear ih;go_enter func23,ntmps23
   go_wp2_with fail
   go_ret
   exact⟨by rw[HN.out];rfl,(bR _ _).alloc (nl _) _⟩
  ·have IH:=Za ih;clear ih;have hl:(ba (VJ (n/10).toNat)).size<=16:=by rw[VF];exact XW (by omega)
   have HN:Hid (ba (VJ n.toNat)=ba (VJ (n/10).toNat)++⟨#[UInt8.ofNat (48+n%10).toNat]⟩):=by
    show _=_;rw[dL (n:=n.toNat) (by omega),show(48+n%10).toNat=48+n.toNat%10 by omega,show(n/10).toNat=n.toNat/10 by omega];exact(XR _ [_]).symm
   have hr4:n.tdiv 10=n/10:=Int.tdiv_eq_ediv_of_nonneg h0;have BU:IntKind.i64.wrap (n/10)=n/10:=IntWalk.i64_in _ ⟨by omega,by omega⟩;go_enter func23,ntmps23
   go_wp2_with fail
   refine mo (IH.out _ _ (by omega) (by omega) (by omega)) λw1 hB=>?_
   generalize ba (VJ (n/10).toNat)=D at*;go_wp2_with fail
   go_ret
   exact⟨by rw[HN.out];rfl,ag ((bR _ _).alloc (nl _) _) hB⟩
theorem tF(n:Nat)(w:World)(h:n<10000000000000000) :
 CB 23 #[.int .i64 n] w (.string (ba (VJ n))) :=
 GY n n w (by omega) (Int.le_refl _) (by omega)
namespace Dk
def aag(s:ByteArray)(k:Nat):Prop:=∀i,i<k->Cd.at8 s i≠32
theorem jj(h:aag s k)(h2:Cd.at8 s k≠32):aag s (k+1):=λi hi=>by
 by_cases e:i=k
 ·rw[e];exact h2
 ·exact h i (by omega)
theorem lr{c:UInt8}:∀{l:List UInt8} {k:Nat},(hk:k<l.length)->(∀i,(hi:i<k)->l[i]'(Nat.lt_trans hi hk)≠c)->l[k]=c->Wr c l=(l.take k,l.drop (k+1),true)
 |[],k,hk,_,_=>absurd hk (Nat.not_lt_zero _)
 |x :: l,0,_,_,h2=>by
  have:x=c:=h2;unfold Wr;rw[ax this];rfl
 |x :: l,k+1,hk,h1,h2=>by
  have hx:x≠c:=h1 0 (by omega);have:=lr (c:=c) (l:=l) (k:=k) (by simpa using hk) (λi hi=>h1 (i+1) (by omega)) h2;unfold Wr;rw[ab hx,this];rfl
theorem mU(hk:k<s.size)(h:aag s k)(h2:Cd.at8 s k=32):ba (w1 s.data.toList)=s.extract 0 k/\ba (w2 s.data.toList)=s.extract (k+1) s.size/\w3 s.data.toList=true:=by
 have hk':k<s.data.toList.length:=by rw[<-Zf];exact hk
 have hc:=lr (c:=32) (l:=s.data.toList) (k:=k) hk' (λi hi e=>h i hi (by rw[aX (Nat.lt_trans hi hk'),e];rfl)) (by rw[aX hk']at h2;exact UInt8.toNat_inj.1 (by simpa using h2));unfold w1 w2 w3;rw[hc];exact⟨ZN (by rw[VL,pG]),ZN (by rw[VL,Im.bA]),rfl⟩
theorem j6(h:aag s s.size):ba (w1 s.data.toList)=s/\ba (w2 s.data.toList)=⟨#[]⟩/\w3 s.data.toList=false:=by
 have hc:=dz (c:=32) (l:=s.data.toList) (λe=>by
  obtain⟨i,hi,h9⟩:=List.getElem_of_mem e
  exact h i (by rw[Zf];exact hi) (by rw[aX hi,h9];rfl))
 unfold w1 w2 w3;rw[hc];exact⟨fE s,rfl,rfl⟩
end Dk
theorem Zi(s:ByteArray)(w:World)(hs:s.size<=281474976710656) :
 CB 21 #[.string s] w (.tuple #[.string (ba (w1 s.data.toList)),.string (ba (w2 s.data.toList)),.bool (w3 s.data.toList)]):=by
 have HA:=Za λk (hk:k<s.size) (h:aag s k) (h2:Cd.at8 s k=32)=>Dk.mU hk h h2
 have HN:=Za λ(h:aag s s.size)=>Dk.j6 h
 generalize ba (w1 s.data.toList)=x at*;generalize ba (w2 s.data.toList)=y at*;generalize w3 s.data.toList=z at*;go_enter func21,ntmps21
 go_wp2_with fail
 go_loopw [5] (λi wr=>∃k:Nat,k<=s.size/\i=.int .i64 k/\Hid (aag s k)/\wr=w) (λi _=>s.size-(intOf i).toNat)
 case atStart=>exact⟨0,by omega,rfl,λi hi=>absurd hi (by omega),rfl⟩
 case round =>
  obtain⟨k,hk2,rfl,HL,rfl⟩:=hrel;by_cases hlt:k<s.size
  ·have d1:=al (by omega:(k:Int)<(s.size:Int));have d1':=al (by omega:k<s.size);have hki:(k:Int)<(s.size:Int):=by omega
   have dG:=kR s k hlt
   obtain⟨y9,hc⟩:∃y,s[k].toNat=y:=⟨_,rfl⟩
   rw[hc]at dG;have HY:=Za dG;clear dG;by_cases h32:y9=32
   ·subst h32;obtain⟨e1,e2,e3⟩:=HA.out k hlt HL.out HY.out;subst e1 e2 e3;have hk3:(k:Int)+1<=(s.size:Int):=by omega
    clear HA HN HY;go_wp2_with fail
    go_quiet (fail)
    go_wp2_with fail
    go_ret3
    exact⟨rfl,ti _ _⟩
   ·have e1:((y9:Int)==32)=false:=by simpa using(show ¬((y9:Int)=32) by omega)
    have e2:(y9==32)=false:=by simpa using h32
    have HK:=Za (Dk.jj HL.out (by rw[HY.out];exact h32));clear HA HN HY;go_wp2_with fail
    go_roundw
    case rel=>exact⟨k+1,by omega,by go_num,HK,by trivial⟩
    case measure=>simp[intOf];omega
  ·obtain rfl:k=s.size:=by omega
   have d1:decide ((s.size:Int)<(s.size:Int))=false:=by simp
   obtain⟨e1,e2,e3⟩:=HN.out HL.out;subst e1 e2 e3;clear HA HN;go_wp2_with fail
   go_ret3
   exact⟨rfl,bR _ _⟩
namespace Dk
def aa2(l:List UInt8):Int:=if Ws l then(val l:Nat) else -1
theorem j7(hk:k<=6)(h:kS s k):val (s.data.toList.take k)<1000000:=by
 have h1:=fx (s.data.toList.take k) (λx hx=>by
  obtain⟨i,hi,rfl⟩:=List.getElem_of_mem hx;have hi2:i<k/\i<s.data.toList.length:=by simpa[List.length_take,Nat.lt_min]using hi
  have:=h i hi2.1;rw[aX hi2.2]at this;have h9:lE (s.data.toList[i]'hi2.2):=this
  simpa[List.getElem_take]using h9)
 have h2:10^(s.data.toList.take k).length<=10^6:=Nat.pow_le_pow_right (by decide) (nt (List.length_take_le _ _) hk);exact nT h1 h2
theorem lu(hk:k<s.size):val (s.data.toList.take (k+1))=10*val (s.data.toList.take k)+(Cd.at8 s k-48):=by
 rw[Zf]at hk;rw[List.take_succ_eq_append_getElem hk,cU,aX hk]
theorem mV(h:kS s s.size):∀x∈s.data.toList,lE x:=λx hx=>by
 obtain⟨i,hi,rfl⟩:=List.getElem_of_mem hx;have:=h i (by rw[Zf];exact hi);rw[aX hi]at this;exact this
theorem po(h0:1<=s.size)(h6:s.size<=6)(h:kS s s.size)(he:VJ (val s.data.toList)=s.data.toList):aa2 s.data.toList=(val s.data.toList:Nat):=by
 rw[Zf]at h0 h6;exact ax ((jf _).2 ⟨h0,h6,mV h,he⟩)
theorem pq(he:VJ (val s.data.toList)≠s.data.toList):aa2 s.data.toList=-1:=ab λh=>he ((jf _).1 h).2.2.2
theorem mW(hk:k<s.size)(h:¬(48<=Cd.at8 s k/\Cd.at8 s k<=57)):aa2 s.data.toList=-1:=ab (iq hk h)
theorem mX(h:¬(1<=(s.size:Int)/\(s.size:Int)<=6)):aa2 s.data.toList=-1:=ab λh9=>h (by have:=fG h9;omega)
end Dk
theorem mY(s:ByteArray)(w:World)(hs:s.size<=281474976710656) :
 CB 46 #[.string s] w (.int .i64 (aa2 s.data.toList)):=by
 have C1:=ZQ (s.size:Int) 1 6 w;by_cases hw:1<=(s.size:Int)/\(s.size:Int)<=6
 ·rw[decide_eq_true hw]at C1;have h0:1<=s.size:=by omega
  have h6:s.size<=6:=by omega
  have h6':=hw.2;have HF:=Za λk (hk:k<s.size) (h:¬(48<=Cd.at8 s k/\Cd.at8 s k<=57))=>mW hk h
  have HT:=Za λ(h:kS s s.size) (h2:VJ (Dk.val s.data.toList)=s.data.toList)=>Dk.po h0 h6 h h2
  have HD:=Za λ(h:VJ (Dk.val s.data.toList)≠s.data.toList)=>pq h
  generalize aa2 s.data.toList=r at*;go_enter func46,ntmps46
  go_wp2_with fail
  refine mo C1 ?_;rintro w1 rfl;go_wp2_with fail
  clear C1 hw;go_loopw [3,4] (λn i wr=>∃k:Nat,k<=s.size/\i=.int .i64 k/\n=.int .i64 (Dk.val (s.data.toList.take k):Nat)/\Hid (kS s k)/\wr=w1) (λ_ i _=>s.size-(intOf i).toNat)
  case atStart=>exact⟨0,by omega,rfl,rfl,λi hi=>absurd hi (by omega),rfl⟩
  case round =>
   obtain⟨k,hk2,rfl,rfl,HL,rfl⟩:=hrel;have hv:=Dk.j7 (s:=s) (k:=k) (by omega) HL.out;by_cases hlt:k<s.size
   ·have d1:=al (by omega:(k:Int)<(s.size:Int));have d1':=al (by omega:k<s.size);have hki:(k:Int)<(s.size:Int):=by omega
    have HV:=Za (lu hlt);have dG:=kR s k hlt
    obtain⟨y,hc⟩:∃y,s[k].toNat=y:=⟨_,rfl⟩
    rw[hc]at dG;have HY:=Za dG;clear dG;have vk:y<256:=by rw[<-hc];exact s[k].toNat_lt
    generalize Dk.val (s.data.toList.take k)=n at*;by_cases k1:y<48
    ·have f0:decide ((y:Int)<48)=true:=al (by omega);have g0:(y:Int)<48:=by omega
     have hr:=HF.out k hlt (by rw[HY.out];omega);subst hr;clear HT HF HY HD HV;go_wp2_with fail
     go_ret
     exact⟨rfl,bR _ _⟩
    ·have f0:decide ((y:Int)<48)=false:=dF (by omega);have g0:¬((y:Int)<48):=by omega
     by_cases k2:57<y
     ·have f1:decide ((57:Int)<(y:Int))=true:=al (by omega);have g1:(57:Int)<(y:Int):=by omega
      have hr:=HF.out k hlt (by rw[HY.out];omega);subst hr;clear HT HF HY HD HV;go_wp2_with fail
      go_ret
      exact⟨rfl,bR _ _⟩
     ·have f1:decide ((57:Int)<(y:Int))=false:=dF (by omega);have g1:¬((57:Int)<(y:Int)):=by omega
      have HN:=Za (fF HL.out (by rw[HY.out];omega));have hu:IntKind.u8.wrap ((y:Int)-48)=(y:Int)-48:=IntWalk.u8_in _ ⟨by omega,by omega⟩
      have hV2:Hid ((Dk.val (s.data.toList.take (k+1)):Int)=10*(n:Int)+((y:Int)-48)):=by
       show _=_;have:=HV.out;rw[HY.out]at this;omega
      clear HT HF HY HD HV;go_wp2_with fail
      go_roundw
      case rel=>exact⟨k+1,by omega,by go_num,by rw[hV2.out],HN,by trivial⟩
      case measure=>simp[intOf];omega
   ·obtain rfl:k=s.size:=by omega
    have d1:decide ((s.size:Int)<(s.size:Int))=false:=by simp
    have htk:s.data.toList.take s.size=s.data.toList:=List.take_of_length_le (by rw[Zf];exact nl _);rw[htk]at hv |-
    have C2:=λw'=>tF (Dk.val s.data.toList) w' (by omega)
    have hT:=HT.out HL.out;clear HF htk HT;by_cases he:VJ (Dk.val s.data.toList)=s.data.toList
    ·have hr:=hT he;subst hr;rw[he,fE]at C2;clear he hT HD;go_wp2_with fail
     refine mo (C2 _) λw2 G=>?_
     go_wp2_with fail
     go_ret
     exact⟨rfl,G⟩
    ·have hr:=HD.out he;subst hr;have hne:(ba (VJ (Dk.val s.data.toList))).toList≠s.toList:=λe9=>he (by rw[ByteArray.toList_eq,ByteArray.toList_eq,VL]at e9;exact e9)
     have hb:((ba (VJ (Dk.val s.data.toList))).toList==s.toList)=false:=by simpa using hne
     generalize ba (VJ (Dk.val s.data.toList))=D at*;clear he hT HD hne;go_wp2_with fail
     refine mo (C2 _) λw2 G=>?_
     go_wp2_with fail
     go_ret
     exact⟨rfl,G⟩
 ·rw[decide_eq_false hw]at C1;rw[mX hw];clear hw;go_enter func46,ntmps46
  go_wp2_with fail
  refine mo C1 ?_;rintro w1 rfl;go_wp2_with fail
  go_ret
  exact⟨rfl,bR _ _⟩
theorem v7(e:Int)(w:World)(h:XO e) :
 CB 22 #[.int .i64 e] w (.string (ba (V0 e))):=by
 have C:=GY 9 e w h.1 h.2 (by have:=h.2;omega);have hl:(ba (VJ e.toNat)).size<=16:=by rw[VF];exact XW (by have:=h.2;omega)
 have HE:Hid (ba (V0 e)=⟨#[101,114,114,111,114,32]⟩++ba (VJ e.toNat)):=by
  show _=_;unfold V0;exact(XR _ _).symm
 generalize ba (V0 e)=R at*;generalize ba (VJ e.toNat)=D at*;go_enter func22,ntmps22
 go_wp2_with fail
 refine C.mono ?_;rintro x w2 ⟨rfl,G⟩;go_wp2_with fail
 go_ret
 exact⟨by rw[HE.out];rfl,G⟩
def jw:Tr:=⟨λ_=>false,0⟩
theorem AE:(prog.info? 239).map (λi=>(i.zero,i.size,i.bytes))=some (some (.agg (aN jw)),17,24):=by kernel_rfl
theorem Sf(t:Tr):Instr.fill (λi=>some (i*17,17)) ((Array.range (1*17)).map ((Value.agg (aN jw)).cells[· % (Value.agg (aN jw)).cells.size]!)) [(0,.agg (aN t))]=some (aN t):=by kernel_rfl
def flat(l:List Tr):List Value:=l.flatMap λt=>(aN t).toList
theorem qB(a b:List Tr):flat (a++b)=flat a++flat b:=by simp[flat]
theorem v8(t:Tr):flat [t]=(aN t).toList:=by simp[flat]
theorem di(l:List Tr):(flat l).length=l.length*17:=by
 induction l with
 |nil=>rfl
 |cons t l ih =>
  have:flat (t :: l)=(aN t).toList++flat l:=by simp[flat]
  rw[this,List.length_append,ih,Array.length_toList,km,List.length_cons];omega
def tl(l:List Tr)(i:Nat):Tr:=l.getD i jw
theorem Sh(l:List Tr)(i j:Nat)(hi:i<l.length)(hj:j<17):(flat l)[i*17+j]?=(aN (tl l i)).toList[j]?:=by
 have e:l=l.take i++([tl l i]++l.drop (i+1)):=by
  have h1:tl l i=l[i]:=by simp[tl,List.getD_eq_getElem?_getD,List.getElem?_eq_getElem hi]
  rw[h1];simp
 have hlen:(flat (l.take i)).length=i*17:=by rw[di,List.length_take,Nat.min_eq_left (by omega)]
 have:flat l=flat (l.take i)++(flat [tl l i]++flat (l.drop (i+1))):=by rw[<-qB,<-qB,<-e]
 rw[this,List.getElem?_append_right (by omega),hlen,show i*17+j-i*17=j by omega,v8,List.getElem?_append_left (by rw[Array.length_toList,km];exact hj)]
theorem tG(h:w.rangeAt g 0 (flat l)){i:Nat}(hi:i<l.length):w.rangeAt g (i*17) (aN (tl l i)).toList:=λj v hj=>by
 have AF:j<17:=by
  have:=(List.getElem?_eq_some_iff.1 hj).1
  rwa [Array.length_toList,km]at this
 rw[<-Sh l i j hi AF]at hj;have:=h (i*17+j) v hj
 rwa [Nat.zero_add]at this
theorem AG{cs:List Value}(h:w.rangeAt g o cs)(hb:ae w w')(hg:g<w.heap.size):w'.rangeAt g o cs:=λj v hj=>by
 have:=h j v hj;rw[<-this];exact hb.cell (p:=⟨g,o+j,none⟩) hg
theorem AH{n:Nat}(h:w.ownsRow base 239 17 v n (flat l))(hl:l ≠ []):∃g cap,v=.slice (some ⟨g,0,none⟩) l.length cap/\base<=g/\g<w.heap.size/\w.rangeAt g 0 (flat l):=by
 have hlen:=h.1;rw[di]at hlen;obtain rfl:l.length=n:=by omega
 rcases h.2 with⟨_,h0⟩|⟨g,cap,cur,rfl,hb,hg,hnc,hcm,hcs,htk⟩
 ·exact absurd (List.eq_nil_of_length_eq_zero h0) hl
 ·refine⟨g,cap,rfl,hb,(aG.1 hg).1,λj v hj=>?_⟩;rw[Nat.zero_add,cell_of_row w g j _ _ _ hg,<-hj,<-htk];have hj2:=(List.getElem?_eq_some_iff.1 hj).1;rw[di]at hj2;rw[List.getElem?_take,ax hj2];simp
namespace Cd
def XY(l:List Tr):Nat->Nat
 |0=>0
 |i+1=>if jm (tl l i) (tl l (XY l i))=true then i else XY l i
theorem GZ(l:List Tr):∀i,XY l i<=i-1:=by
 intro i
 induction i with
 |zero=>simp[XY]
 |succ i ih =>
  rw[XY];split<;>omega
theorem Ha(t:Tr):jm t t=false:=by simp[jm]
theorem Si(l:List Tr):XY l 1=0:=by rw[XY,XY,Ha];rfl
def Xt(l:List Tr)(k:Nat):Nat->List Tr
 |0=>[]
 |i+1=>if i=k then Xt l k i else Xt l k i++[tl l i]
theorem Sj(l:List Tr)(k:Nat):∀i,(Xt l k i).length<=i:=by
 intro i
 induction i with
 |zero=>simp[Xt]
 |succ i ih =>
  rw[Xt];split
  ·omega
  ·simp;omega
end Cd
theorem Sl:(#[.bool false,.bool false,.bool false,.bool false,.bool false,.bool false,.bool false,.bool false,.bool false,.bool false,.bool false,.bool false,.bool false,.bool false,.bool false,.bool false,.int .i64 0]:Array Value)=aN jw:=rfl
theorem Sm(w:World)(t:Tr):∀j u,(aN t).toList[j]?=some u->(w.alloc (.cells (aN t) 239)).cell? ((⟨w.heap.size,0,none⟩:Addr).add j)=some u:=λj u h=>by
 rw[Addr.add_mid,Nat.zero_add,cell_of_row _ w.heap.size j _ _ _ (heap_alloc_last w _)];simpa using h
theorem Sn(t:Tr):(aN t).toList.length=1*17:=by rw[Array.length_toList,km]
theorem i7(t:Tr):∀u∈(aN t).toList,u.oneCell'=true:=by
 have:=pZ t;rw[Array.all_eq_true_iff_forall_mem]at this;intro u hu;exact this u (by simpa using hu)
theorem Sp{cs:List Value}(h:w.rangeAt g o cs)(he:w'.heap[g]?=w.heap[g]?):w'.rangeAt g o cs:=λj v hj=>by
 have:=h j v hj;simp only[World.cell?,he]at this |-
 exact this
theorem tH{w1:World}{o:Obj}(hlt:g<w.heap.size)(hne:some g≠v.ownBlock)(hg:(w.alloc o).grownBy w1 v.ownBlock):w1.heap[g]?=w.heap[g]?:=by
 rw[hg.block g (by simp;omega) hne];exact((bR w.heap.size w).alloc (nl _) o).block g hlt
theorem aP.block{t:Tr}(H:aP w g t)(he:w'.heap[g]?=w.heap[g]?):aP w' g t:=by
 have h2:=he.trans H.2;exact⟨(aG.1 h2).1,h2⟩
theorem aP.setRow{t:Tr}(H:aP w g t)(t':Tr):aP (w.setRow g (aN t')) g t':=by
 refine⟨by have:=H.1;simpa[World.setRow]using this,?_⟩;show(w.heap.modify g _)[g]?=_;rw[Array.getElem?_modify,ax rfl,H.2];rfl
theorem Sq{t:TypeId}{sz n:Nat}{cs:List Value}(ho:w.ownsRow (g+1) t sz v n cs)(hb:base<=g+1)(c:Array Value):(w.setRow g c).ownsRow base t sz v n cs:=by
 refine⟨ho.1,?_⟩;rcases ho.2 with h0|⟨q,cap,cur,rfl,e1,e2,e3⟩
 ·exact .inl h0
 ·refine .inr ⟨q,cap,cur,rfl,by omega,?_,e3⟩;show(w.heap.modify g _)[q]?=_;rw[Array.getElem?_modify,ab (by omega),e2]
theorem AI{ops:Array Oper}{rest:List Oper}{op:Oper}{a:Act}{Q:Exit->Act->World->Prop}(hgd:op.guard=none)(x:Operand)(ho:op.op=.load 239 x)
 (b o:Nat) (hx:a.eval x=.pointer (some ⟨b,o,none⟩)) (t:Tr) (hc:w.rangeAt b o (aN t).toList) (h:wpList prog ops Q rest (a.put op.dst (.agg (aN t))) w):wpList prog ops Q (op :: rest) a w :=
 wpList_load_mid hgd 239 x ho b o hx (aN t).toList _ hc ig rfl (by rw[Array.length_toList];exact kn t) (by rw[Array.toArray_toList];exact h)
theorem AJ{ops:Array Oper}{rest:List Oper}{o:Oper}{a:Act}{Q:Exit->Act->World->Prop}(hg:o.guard=none)(x:Operand)(ho:o.op=.buildSlice 236 1 #[(0,x)])(t:Tr)(hx:a.eval x=.agg (aN t))
 (h:wpList prog ops Q rest (a.put o.dst (.slice (some ⟨w.heap.size,0,none⟩) 1 1)) (w.alloc (.cells (aN t) 239))):wpList prog ops Q (o :: rest) a w:=by
 obtain⟨i0,hi,hz0,hz1,hz2⟩:=info_parts AE;refine wpList_buildSlice hg 236 239 1 _ ho (aN t) i0 (.agg (aN jw)) qR hi hz0 (by rw[hz1];decide) (by rw[hz1];decide) ?_ h;rw[hz1];have:=Sf t;simp only[List.map_toArray,List.map_cons,List.map_nil,hx];exact this
theorem AK{ops:Array Oper}{rest:List Oper}{o:Oper}{a:Act}{Q:Exit->Act->World->Prop}(hgd:o.guard=none)(s x:Operand)
 (ho:o.op=.call { callee:=.builtin .append,args:=#[s,x],argTypes:=#[236,236] })
 (base:Nat) (v:Value) (l:List Tr) (hs:a.eval s=v) (hown:w.ownsRow base 239 17 v l.length (flat l)) (t:Tr) (hx:a.eval x=.slice (some ⟨w.heap.size,0,none⟩) 1 1)
 (hl:l.length<=1000) (hbase:base<=w.heap.size)
 (h:∀v' w',w'.ownsRow base 239 17 v' (l++[t]).length (flat (l++[t]))->(w.alloc (.cells (aN t) 239)).grownBy w' v.ownBlock->wpList prog ops Q rest (a.put o.dst v') w'):wpList prog ops Q (o :: rest) a (w.alloc (.cells (aN t) 239)):=by
 obtain⟨i0,hi,hz0,hz1,hz2⟩:=info_parts AE;refine wpList_append_own _ hgd s x 236 ho base 239 i0 (.agg (aN jw)) 17 24 qR hi hz0 hz1 hz2 (km _) (by decide) v l.length (flat l) hs (hown.alloc _) ⟨w.heap.size,0,none⟩ 1 1 (aN t).toList hx (Sn t) (Sm w t) (i7 t) (fb (by omega)) (by omega) (by simp;omega) ?_;intro v' w' h1 h2 _;refine h v' w' ?_ h2;rw[qB,v8,List.length_append];exact h1
theorem Hb(l:List Tr)(g cap:Nat)(w:World)(hl:1<=l.length)(hl2:l.length<=16)(hg:g<w.heap.size)(hr:w.rangeAt g 0 (flat l)) :
 Calls prog 234 #[.slice (some ⟨g,0,none⟩) l.length cap] w λe w'=>∃v,e=.returned (.tuple #[.agg (aN (tl l (XY l l.length))),v])/\ae w w'/\w'.ownsRow w.heap.size 239 17 v (Xt l (XY l l.length) l.length).length (flat (Xt l (XY l l.length) l.length)):=by
 obtain⟨i0,hi,hz0,hz1,hz2⟩:=info_parts AE;have A1:=aP.new w jw;have B1:ae w (w.alloc (.cells (aN jw) 239)):=(bR _ _).alloc (nl _) _;have r1:=AG hr ((bR w.heap.size w).alloc (nl _) (.cells (aN jw) 239)) hg;have hl3:(l.length:Int)<=16:=by omega
 obtain⟨KK,AL⟩:∃k,XY l l.length=k:=⟨_,rfl⟩
 rw[AL];have HKK:=Za AL;clear AL;go_enter func234,ntmps234
 go_wp2_with fail
 rw[Sl];generalize w.alloc (.cells (aN jw) 239)=w0 at*;clear hr;have HG:=Za hg;go_loopw [4,5] (λkk ii wr=>∃(i k:Nat),1<=i/\i<=l.length/\k<l.length/\ii=.int .i64 i/\kk=.int .i64 k/\Hid (XY l i=k)/\wr.rangeAt g 0 (flat l)/\aP wr w.heap.size jw/\ae w wr) (λ_ i _=>20-(intOf i).toNat)
 case atStart=>exact⟨1,0,by omega,hl,by omega,rfl,rfl,Si l,r1,A1,B1⟩
 case round =>
  clear r1 A1 B1;obtain⟨i,k,hi1,hi2,hk,rfl,rfl,HK,r1,A1,B1⟩:=hrel;by_cases hlt:i<l.length
  ·have d1:=al (by omega:(i:Int)<(l.length:Int));have d1':=al (by omega:i<l.length);have Sr:(i:Int)<(l.length:Int):=by omega
   have Ss:(k:Int)<(l.length:Int):=by omega
   have ki:=λw=>Lg (tl l i) (tl l k) w
   have iM:Hid (XY l (i+1)=if jm (tl l i) (tl l k)=true then i else k):=by show _=_;rw[XY,HK.out]
   generalize jm (tl l i) (tl l k)=c at*;have hti:=kn (tl l i);have htk:=kn (tl l k);go_wp2_with fail
   refine wp_region_held_drew (S:=λw'=>w'.rangeAt g 0 (flat l)) (by kernel_rfl) (by simpa using r1) (λhS=>?_);refine aE 0 8 (.slice (some ⟨g,0,none⟩) l.length cap) rfl (λw _=>by go_simp) hS ?_;refine aE 1 7 (.int .i64 (i:Int)) rfl (λw _=>by go_simp) hS ?_;refine aE 2 6 (.pointer (some ⟨g,i*17,none⟩)) rfl (λw _=>by go_simp) hS ?_;refine wK (i:=3) (fuel:=5) rfl (by kernel_rfl) (by kernel_rfl) (by kernel_rfl) (λ_ _ _ h=>h) (yieldsIf_load_mid (by rfl) 239 _ rfl g (i*17) rfl (aN (tl l i)).toList _ (λw' h'=>tG h' hlt) ig rfl (by rw[Array.length_toList];exact hti)) hS ?_;refine aE 4 4 (.slice (some ⟨g,0,none⟩) l.length cap) rfl (λw _=>by go_simp) hS ?_;refine aE 5 3 (.int .i64 (k:Int)) rfl (λw _=>by go_simp) hS ?_;refine aE 6 2 (.pointer (some ⟨g,k*17,none⟩)) rfl (λw _=>by go_simp) hS ?_;refine wK (i:=7) (fuel:=1) rfl (by kernel_rfl) (by kernel_rfl) (by kernel_rfl) (λ_ _ _ h=>h) (yieldsIf_load_mid (by rfl) 239 _ rfl g (k*17) rfl (aN (tl l k)).toList _ (λw' h'=>tG h' hk) ig rfl (by rw[Array.length_toList];exact htk)) hS ?_;refine DD (i:=8) (fuel:=0) (by kernel_rfl) (by kernel_rfl) rfl rfl (λK hK=>?_);go_simp
   refine mo (ki _) λw4 G4=>?_
   have r4:=AG (show wr.drew.rangeAt g 0 (flat l) from hS) G4 (nT HG.out B1.size);have A4:=(show aP wr.drew w.heap.size jw from A1).below G4;have B4:=ag (show ae w wr.drew from B1.drew) G4;clear r1 A1 B1 G4 ki hS;refine hK _ _ r4 ?_;clear hK
   cases c with
   |true =>
    go_wp2_with fail
    exact⟨⟨i+1,i,by omega,by omega,by omega,by go_num,rfl,iM.out,r4,A4,B4⟩,by simp[intOf];omega⟩
   |false =>
    go_wp2_with fail
    exact⟨⟨i+1,k,by omega,by omega,hk,by go_num,rfl,iM.out,r4,A4,B4⟩,by simp[intOf];omega⟩
  ·obtain rfl:i=l.length:=by omega
   obtain rfl:KK=k:=HKK.out.symm.trans HK.out;have d1:decide ((l.length:Int)<(l.length:Int))=false:=by simp
   have d1':decide (l.length<l.length)=false:=by simp
   have Ss:(KK:Int)<(l.length:Int):=by omega
   clear hlt HK HKK;go_wp2_with fail
   clear d1 d1';go_loopw [6,7] (λv i wr=>∃k:Nat,k<=l.length/\i=.int .i64 k/\wr.ownsRow (w.heap.size+1) 239 17 v (Xt l KK k).length (flat (Xt l KK k))/\wr.rangeAt g 0 (flat l)/\aP wr w.heap.size jw/\ae w wr) (λ_ i _=>20-(intOf i).toNat)
   case atStart=>exact⟨0,by omega,rfl,World.ownsRow_nil _ _ _ _,r1,A1,B1⟩
   case round =>
    clear r1 A1 B1;obtain⟨i,hi2,rfl,ho,r1,A1,B1⟩:=hrel;have hrl:=Sj l KK i;by_cases hlt:i<l.length
    ·have d1:=al (by omega:(i:Int)<(l.length:Int));have d1':=al (by omega:i<l.length);have Sr:(i:Int)<(l.length:Int):=by omega
     by_cases hik:i=KK
     ·have d2:((i:Int) != (KK:Int))=false:=by simp;omega
      have HR:Hid (Xt l KK (i+1)=Xt l KK i):=by show _=_;rw[Xt,ax hik]
      clear hik;go_wp2_with fail
      exact⟨⟨i+1,by omega,by go_num,by rw[HR.out];exact ho,r1,A1,B1⟩,by simp[intOf];omega⟩
     ·have d2:((i:Int) != (KK:Int))=true:=by simp;omega
      have HR:Hid (Xt l KK (i+1)=Xt l KK i++[tl l i]):=by show _=_;rw[Xt,ab hik]
      have rt:=tG r1 hlt;have hgs:=A1.1;have hgg:=nT HG.out B1.size;generalize Xt l KK i=rs at*;generalize tl l i=t at*;clear hik;go_wp2_with (first|refine AI rfl _ rfl g (i*17) rfl t rt ?_|refine AJ rfl _ rfl t rfl ?_|(at_builtin;go_must (refine AK rfl _ _ rfl (w.heap.size+1) _ rs rfl ho t rfl (by omega) (by omega) ?_;intro v' w6 hown' hgrow)))
      have hne:∀q,q<=w.heap.size->some q≠Value.ownBlock u6:=λq hq e=>by have:=(ho.lt q e.symm).1;omega
      have r6:=Sp r1 (tH hgg (hne _ (nL HG.out)) hgrow);have A6:=A1.block (tH hgs (hne _ (nl _)) hgrow);have B6:=(B1.alloc B1.size _).grown hgrow (by have:=B1.size;simp;omega) (λj hj=>by have:=(ho.lt j hj).1;omega);exact⟨⟨i+1,by omega,by go_num,by rw[HR.out];exact hown',r6,A6,B6⟩,by simp[intOf];omega⟩
    ·obtain rfl:i=l.length:=by omega
     have d1:decide ((l.length:Int)<(l.length:Int))=false:=by simp
     have d1':decide (l.length<l.length)=false:=by simp
     have rt:=tG r1 hk;have hti:=kn (tl l KK);go_wp2_with (first|refine AI rfl _ rfl g (KK*17) rfl (tl l KK) rt ?_|refine wpList_store_row rfl 239 _ _ rfl w.heap.size (aN (tl l KK)) rfl rfl 239 _ A1.2 hti (by rw[km,km]) (pZ _) ?_)
     have U2:=A1.setRow (tl l KK);exact bodyPost_ret (v:=.tuple #[.agg (aN (tl l KK)),u6]) (ZU results234 _ _ w.heap.size 239 _ (0,0) _ rfl U2.2 ig rfl hti _ rfl) rfl ⟨_,rfl,Zu B1 (nl _) _,Sq ho (by omega) _⟩
namespace Cd
def WA(a b:Tr):Tr:=⟨λi=>a.h i||b.h i,a.w+b.w⟩
def Xb(t:Tr)(L:Nat->Int):Nat->Int:=λi=>if t.h i=true then L i+1 else L i
def XC(l:List Tr):Tr:=tl l (XY l l.length)
def cu(l:List Tr):List Tr:=Xt l (XY l l.length) l.length
def lV:Nat->List Tr->(Nat->Int)->(Nat->Int)
 |0,_,L=>L
 |n+1,l,L=>if l.length<=1 then L else lV n (cu (cu l)++[WA (XC l) (XC (cu l))]) (Xb (WA (XC l) (XC (cu l))) L)
theorem St(l:List Tr)(k:Nat):∀i,i<=l.length->Xt l k i=(l.take i).eraseIdx k:=by
 intro i
 induction i with
 |zero=>intro _;simp[Xt]
 |succ i ih =>
  intro hi
  have e:l.take (i+1)=l.take i++[tl l i]:=by
   rw[List.take_add_one,List.getElem?_eq_getElem (by omega)];simp[tl,List.getD_eq_getElem?_getD,List.getElem?_eq_getElem (show i<l.length by omega)]
  have hl:(l.take i).length=i:=by rw[List.length_take];omega
  rw[Xt,ih (by omega),e];by_cases h:i=k
  ·rw[ax h,<-h,List.eraseIdx_append_of_length_le (by omega),hl,Nat.sub_self,List.eraseIdx_of_length_le (by omega)];simp
  ·rw[ab h];by_cases h2:k<i
   ·rw[List.eraseIdx_append_of_lt_length (by omega)]
   ·rw[List.eraseIdx_append_of_length_le (by omega),hl,List.eraseIdx_of_length_le (by omega),List.eraseIdx_of_length_le (by simp;omega)]
theorem we(l:List Tr):cu l=l.eraseIdx (XY l l.length):=by rw[cu,St l _ _ (Nat.le_refl _),List.take_length]
theorem Hd(s t:Tr):jm s t=true↔s.w<t.w\/(s.w=t.w/\ls s.h<ls t.h):=by
 unfold jm;by_cases h:s.w=t.w
 ·rw[ax h,decide_eq_true_eq];omega
 ·rw[ab h,decide_eq_true_eq];omega
theorem Su(l:List Tr):∀i,∀j,j<i->jm (tl l j) (tl l (XY l i))=false:=by
 intro i
 induction i with
 |zero=>intro j h;omega
 |succ i ih =>
  intro j hj;rw[XY];by_cases h:jm (tl l i) (tl l (XY l i))=true
  ·rw[ax h];by_cases e:j=i
   ·subst e;exact Ha _
   ·have h1:=ih j (by omega);rw[Bool.eq_false_iff]at h1 |-
    intro h2;apply h1;rw[Hd]at h h2 |-
    omega
  ·rw[ab h];by_cases e:j=i
   ·subst e;exact Bool.eq_false_iff.2 h
   ·exact ih j (by omega)
def WZ(W T:Nat->Int)(r:Nat):Tr:=⟨λi=>decide (T i=(r:Int)),W r⟩
structure mZ(W T:Nat->Int)(rs:List Nat):Prop where
 nd:rs.Nodup
 mem:∀r,r∈rs↔r<16/\W r≠0
 self:∀r,r∈rs->T r=(r:Int)
 least:∀r,r∈rs->∀i,T i=(r:Int)->r<=i
theorem Sv{h:Nat->Bool}{r:Nat}(hr:h r=true):∀m k,k<=r->r<k+m->(∀i,k<=i->i<r->h i=false)->Yu h m k=r:=by
 intro m
 induction m with
 |zero=>intro k h1 h2 _;omega
 |succ m ih =>
  intro k h1 h2 h3;rw[Yu];by_cases e:k=r
  ·subst e;rw[ax hr]
  ·rw[ab (by simp[h3 k (Nat.le_refl _) (by omega)])];exact ih (k+1) (by omega) (by omega) (λi h4 h5=>h3 i (by omega) h5)
theorem mZ.ls{W T:Nat->Int}{rs:List Nat}(H:mZ W T rs){r:Nat}(hr:r∈rs):ls (WZ W T r).h=r:=by
 have h16:=((H.mem r).1 hr).1;refine Sv (by simp[WZ,H.self r hr]) 16 0 (by omega) (by omega) (λi _ hi=>?_);simp only[WZ,decide_eq_false_iff_not];intro h;have:=H.least r hr i h;omega
theorem AM{T:Nat->Int}{j:Nat}(h:j<rs.length):tl (rs.map (WZ W T)) j=WZ W T rs[j]:=by
 simp[tl,List.getD_eq_getElem?_getD,List.getElem?_eq_getElem h]
theorem Hg{α β:Type}(f:α->β):∀(l:List α) (k:Nat),(l.map f).eraseIdx k=(l.eraseIdx k).map f
 |[],_=>by simp
 |_ :: _,0=>by simp
 |a :: l,k+1=>by simp[Hg f l k]
theorem Hh{T:Nat->Int}(hls:∀r,r∈rs->ls (WZ W T r).h=r)(hn:rs ≠ []):∃k,∃h:k<rs.length,XC (rs.map (WZ W T))=WZ W T rs[k]/\cu (rs.map (WZ W T))=(rs.eraseIdx k).map (WZ W T)/\∀r,r∈rs->W rs[k]<W r\/(W rs[k]=W r/\rs[k]<=r):=by
 have hl:=List.length_pos_iff.2 hn
 obtain⟨k,hk⟩:∃k,XY (rs.map (WZ W T)) (rs.map (WZ W T)).length=k:=⟨_,rfl⟩
 have hlt:=GZ (rs.map (WZ W T)) (rs.map (WZ W T)).length;rw[hk,List.length_map]at hlt;have hkl:k<rs.length:=by omega
 refine⟨k,hkl,?_,?_,λr hr=>?_⟩
 ·rw[XC,hk,AM hkl]
 ·rw[we,hk,Hg]
 ·obtain⟨j,hj,rfl⟩:=List.getElem_of_mem hr;have h1:=Su (rs.map (WZ W T)) (rs.map (WZ W T)).length j (by rw[List.length_map];exact hj);rw[hk,AM hj,AM hkl,Bool.eq_false_iff]at h1;rw[Ne,Hd,hls _ (List.getElem_mem hj),hls _ (List.getElem_mem hkl)]at h1;simp only[WZ]at h1;omega
theorem Hi(W:Nat->Int):∀k,(∀i,i<k->W i≠0->(WJ W k).1 ≠ -1/\(W (WJ W k).1.toNat<W i\/(W (WJ W k).1.toNat=W i/\(WJ W k).1<=(i:Int))))/\(∀i,i<k->W i≠0->(i:Int)≠(WJ W k).1->(WJ W k).2 ≠ -1/\(W (WJ W k).2.toNat<W i\/(W (WJ W k).2.toNat=W i/\(WJ W k).2<=(i:Int)))):=by
 intro k
 induction k with
 |zero=>exact⟨λi h=>by omega,λi h=>by omega⟩
 |succ k ih =>
  obtain⟨i1,i2⟩:=ih;have hs:=aas W k;have hb:∀a,aar W k a->a<(k:Int):=λa h=>by rcases h with h|⟨p,h1,h2,_⟩<;>omega
  have b1:=hb _ hs.1;have b2:=hb _ hs.2;rw[WJ,jF];generalize WJ W k=P at*;obtain⟨A,B⟩:=P;simp only at*;by_cases h0:W k=0
  ·rw[ax h0];refine⟨λi hi ni=>i1 i ?_ ni,λi hi ni=>i2 i ?_ ni⟩<;>(by_cases e:i=k;(subst e;exact absurd h0 ni);omega)
  ·rw[ab h0];by_cases h1:A=-1\/W k<W A.toNat
   ·rw[ax h1];simp only[Int.toNat_natCast];refine⟨λi hi ni=>⟨by omega,?_⟩,λi hi ni ne=>?_⟩
    ·by_cases e:i=k
     ·subst e;omega
     ·have:=i1 i (by omega) ni;omega
    ·exact i1 i (by omega) ni
   ·rw[ab h1];by_cases h2:B=-1\/W k<W B.toNat
    ·rw[ax h2];simp only[Int.toNat_natCast];refine⟨λi hi ni=>?_,λi hi ni ne=>⟨by omega,?_⟩⟩
     ·by_cases e:i=k
      ·subst e;omega
      ·exact i1 i (by omega) ni
     ·by_cases e:i=k
      ·subst e;omega
      ·have:=i2 i (by omega) ni ne;omega
    ·rw[ab h2];simp only;refine⟨λi hi ni=>?_,λi hi ni ne=>?_⟩
     ·by_cases e:i=k
      ·subst e;omega
      ·exact i1 i (by omega) ni
     ·by_cases e:i=k
      ·subst e;omega
      ·exact i2 i (by omega) ni ne
theorem AN(h:rs.Nodup){i j:Nat}(hi:i<rs.length)(hj:j<rs.length)(e:rs[i]=rs[j]):i=j:=by
 have h1:=List.pairwise_iff_getElem.1 h;rcases Nat.lt_trichotomy i j with h2|h2|h2
 ·exact absurd e (h1 i j hi hj h2)
 ·exact h2
 ·exact absurd e.symm (h1 j i hj hi h2)
theorem Hj(h:rs.Nodup){k:Nat}(hk:k<rs.length)(x:Nat):x∈rs.eraseIdx k↔x∈rs/\x≠rs[k]:=by
 rw[List.mem_eraseIdx_iff_getElem];constructor
 ·rintro⟨i,hi,hne,rfl⟩;exact⟨gM _,λe=>hne (AN h hi hk e)⟩
 ·rintro⟨h1,h2⟩;obtain⟨i,hi,rfl⟩:=List.getElem_of_mem h1;exact⟨i,hi,λe=>h2 (by subst e;rfl),rfl⟩
theorem Hl(h:rs.Nodup)(k:Nat):(rs.eraseIdx k).Nodup:=List.Nodup.sublist (List.eraseIdx_sublist rs k) h
theorem Sw:∀n (W T L:Nat->Int) (rs:List Nat),mZ W T rs->(∀i,i<16->0<=W i)->lV n (rs.map (WZ W T)) L=dS n W T L:=by
 intro n
 induction n with
 |zero=>intro W T L rs _ _;rfl
 |succ n ih =>
  intro W T L rs H hW;obtain⟨x1,x2⟩:=Hi W 16;by_cases eu:(WJ W 16).2=-1
  ·rw[xq eu,lV,ax];rw[List.length_map];rcases Nat.lt_or_ge 1 rs.length with h|h
   ·exfalso
    have m0:=(H.mem _).1 (gM (show 0<rs.length by omega));have m1:=(H.mem _).1 (gM h);have hne:rs[0]≠rs[1]:=λe=>by have:=AN H.nd (by omega) h e;omega
    by_cases e:((rs[0]:Nat):Int)=(WJ W 16).1
    ·exact(x2 rs[1] m1.1 m1.2 (by omega)).1 eu
    ·exact(x2 rs[0] m0.1 m0.2 e).1 eu
   ·exact h
  ·obtain⟨p,q,hpq,hp,hq,hne,np,nq⟩:=oB eu;rw[hpq]at x1 x2;simp only[Int.toNat_natCast]at x1 x2;have mp:=(H.mem p).2 ⟨hp,np⟩;have mq:=(H.mem q).2 ⟨hq,nq⟩;have hls:=λr (hr:r∈rs)=>H.ls hr
   obtain⟨k1,hk1,f1,o1,l1⟩:=Hh hls (List.ne_nil_of_mem mp)
   have e1:rs[k1]=p:=by
    have a1:=l1 p mp;have m1:=(H.mem _).1 (gM hk1);have a2:=x1 rs[k1] m1.1 m1.2;omega
   rw[e1]at f1 l1;have hm1:=Hj H.nd hk1;rw[e1]at hm1;have hnd1:=Hl H.nd k1
   have hlen:¬(rs.map (WZ W T)).length<=1:=by
    rw[List.length_map];intro h;obtain⟨i,hi,e⟩:=List.getElem_of_mem mp;obtain⟨j,hj,e'⟩:=List.getElem_of_mem mq;have:i=j:=by omega
    subst this;exact hne (by rw[<-e,<-e'])
   generalize rs.eraseIdx k1=AO at*;have Ho:=(hm1 q).2 ⟨mq,λe=>hne e.symm⟩;obtain⟨k2,hk2,f2,o2,l2⟩:=Hh (λr hr=>hls r ((hm1 r).1 hr).1) (List.ne_nil_of_mem Ho)
   have e2:AO[k2]=q:=by
    have a1:=l2 q Ho;have b1:=(hm1 _).1 (gM hk2);have m1:=(H.mem _).1 b1.1;have a2:=x2 AO[k2] m1.1 m1.2 (by omega);omega
   rw[e2]at f2 l2;have hm2:=Hj hnd1 hk2;rw[e2]at hm2;have AP:=Hl hnd1 k2;generalize AO.eraseIdx k2=wg at*;have hr2:∀r,r∈wg↔r∈rs/\r≠p/\r≠q:=λr=>by rw[hm2,hm1];exact⟨λh=>⟨h.1.1,h.1.2,h.2⟩,λh=>⟨⟨h.1,h.2.1⟩,h.2.2⟩⟩
   obtain⟨w1,w2,w3⟩:=uU (W:=W) hne;have Ec:=hW p hp;have Ed:=hW q hq;rw[lV,ab hlen,f1,o1,f2,o2,xr hpq]
   have eL:Xb (WA (WZ W T p) (WZ W T q)) L=Xe T L p q:=by
    funext i
    simp only[Xb,WA,WZ,Xe,Bool.or_eq_true,decide_eq_true_eq]
   have eM:WA (WZ W T p) (WZ W T q)=WZ (rW W p q) (Xp T p q) (min p q):=by
    unfold WA WZ;rw[w1]
    congr 1
    funext i
    rw[Bool.eq_iff_iff,Bool.or_eq_true,decide_eq_true_eq,decide_eq_true_eq,decide_eq_true_eq];by_cases h:T i=(p:Int)\/T i=(q:Int)
    ·have hT:Xp T p q i=((min p q:Nat):Int):=ax h;exact⟨λ_=>hT,λ_=>h⟩
    ·have hT:Xp T p q i=T i:=ab h;rw[hT];omega
   have eR:wg.map (WZ W T)=wg.map (WZ (rW W p q) (Xp T p q)):=by
    apply List.map_congr_left;intro r hr;obtain⟨_,n1,n2⟩:=(hr2 r).1 hr;unfold WZ;rw[w3 r n1 n2]
    congr 1
    funext i
    rw[Bool.eq_iff_iff,decide_eq_true_eq,decide_eq_true_eq];by_cases h:T i=(p:Int)\/T i=(q:Int)
    ·have hT:Xp T p q i=((min p q:Nat):Int):=ax h;rw[hT];omega
    ·have hT:Xp T p q i=T i:=ab h;rw[hT]
   rw[eL,eM,eR,<-List.map_singleton,<-List.map_append];refine ih (rW W p q) (Xp T p q) (Xe T L p q) (wg++[min p q]) ⟨?_,λr=>?_,λr hr=>?_,λr hr i hi=>?_⟩ (uw hW hp hq)
   ·rw[List.nodup_append];refine⟨AP,by simp,λa ha b hb=>?_⟩;simp only[List.mem_singleton]at hb;have:=(hr2 a).1 ha;omega
   ·rw[List.mem_append,List.mem_singleton,hr2 r,H.mem r];by_cases e:r=min p q
    ·subst e;rw[w1];refine⟨λ_=>⟨by omega,by omega⟩,λ_=>.inr rfl⟩
    ·by_cases e2:r=max p q
     ·subst e2;rw[w2];refine⟨λh=>?_,λh=>absurd rfl h.2⟩;rcases h with h|h
      ·omega
      ·omega
     ·rw[w3 r (by omega) (by omega)];refine⟨λh=>?_,λh=>.inl ⟨h,by omega,by omega⟩⟩;rcases h with h|h
      ·exact h.1
      ·exact absurd h e
   ·rw[List.mem_append,List.mem_singleton]at hr;rcases hr with hr|hr
    ·obtain⟨m,n1,n2⟩:=(hr2 r).1 hr;have:=H.self r m;simp only[Xp];rw[ab (by omega),this]
    ·subst hr;have h1:=H.self p mp;have h2:=H.self q mq;simp only[Xp];by_cases h:p<=q
     ·rw[show min p q=p by omega,ax (.inl h1)]
     ·rw[show min p q=q by omega,ax (.inr h2)]
   ·rw[List.mem_append,List.mem_singleton]at hr;simp only[Xp]at hi;rcases hr with hr|hr
    ·obtain⟨m,n1,n2⟩:=(hr2 r).1 hr;by_cases h:T i=(p:Int)\/T i=(q:Int)
     ·rw[ax h]at hi;omega
     ·rw[ab h]at hi;exact H.least r m i hi
    ·subst hr;by_cases h:T i=(p:Int)\/T i=(q:Int)
     ·rcases h with h|h
      ·have:=H.least p mp i h;omega
      ·have:=H.least q mq i h;omega
     ·rw[ab h]at hi;omega
def dw(c:Nat->Int):Nat->List Nat
 |0=>[]
 |k+1=>if 0<c k then dw c k++[k] else dw c k
theorem lv(c:Nat->Int):∀k r,r∈dw c k↔r<k/\0<c r:=by
 intro k
 induction k with
 |zero=>intro r;simp[dw]
 |succ k ih =>
  intro r;rw[dw];by_cases h:0<c k
  ·rw[ax h,List.mem_append,ih,List.mem_singleton];constructor
   ·rintro(h1|h1)
    ·exact⟨by omega,h1.2⟩
    ·subst h1;exact⟨by omega,h⟩
   ·rintro⟨h1,h2⟩;by_cases e:r=k
    ·exact .inr e
    ·exact .inl ⟨by omega,h2⟩
  ·rw[ab h,ih];constructor
   ·rintro⟨h1,h2⟩;exact⟨by omega,h2⟩
   ·rintro⟨h1,h2⟩;by_cases e:r=k
    ·subst e;exact absurd h2 h
    ·exact⟨by omega,h2⟩
theorem Ht(c:Nat->Int):∀k,(dw c k).Nodup:=by
 intro k
 induction k with
 |zero=>simp[dw]
 |succ k ih =>
  rw[dw];split
  ·rw[List.nodup_append];refine⟨ih,by simp,λa ha b hb=>?_⟩;simp only[List.mem_singleton]at hb;have:=(lv c k a).1 ha;omega
  ·exact ih
theorem Hu(c:Nat->Int):∀k,(dw c k).length<=k:=by
 intro k
 induction k with
 |zero=>simp[dw]
 |succ k ih =>
  rw[dw];split
  ·simp;omega
  ·omega
theorem Hw(hc:∀i,i<16->0<=c i):mZ c (λi=>i) (dw c 16) :=
 ⟨Ht c 16,λr=>by
  rw[lv];constructor
  ·rintro⟨h1,h2⟩;exact⟨h1,by omega⟩
  ·rintro⟨h1,h2⟩;have:=hc r h1;exact⟨h1,by omega⟩,λr _=>rfl,λr _ i h=>by have h9:((i:Nat):Int)=(r:Int):=h;omega⟩
theorem Sx(h:Wk c 2048 16):(dw c 16=[]->VH c=(λ_=>0,5))/\(∀r,dw c 16=[r]->VH c=(upd (λ_=>0) r 1,0))/\(2<=(dw c 16).length->VH c=(lV 16 ((dw c 16).map (WZ c λi=>i)) (λ_=>0),0)):=by
 have hc:=λi (hi:i<16)=>(h i hi).1
 obtain⟨x1,x2⟩:=Hi c 16;obtain⟨s1,s2⟩:=aas c 16;refine⟨λe=>?_,λr e=>?_,λe=>?_⟩
 ·rcases s1 with s1|⟨p,e1,hp,np⟩
  ·rw[VH,ab (λh9=>h9 h),ax s1]
  ·exfalso
   have:=(lv c 16 p).2 ⟨hp,by have:=hc p hp;omega⟩;rw[e]at this;simp at this
 ·have mr:=(lv c 16 r).1 (by rw[e];simp);have hf:=x1 r mr.1 (by omega)
  have kJ:(WJ c 16).1=(r:Int):=by
   rcases s1 with s1|⟨p,e1,hp,np⟩
   ·exact absurd s1 hf.1
   ·have:=(lv c 16 p).2 ⟨hp,by have:=hc p hp;omega⟩;rw[e,List.mem_singleton]at this;omega
  have eu:(WJ c 16).2=-1:=by
   by_cases h9:(WJ c 16).2=-1
   ·exact h9
   ·exfalso
    obtain⟨p,q,hpq,hp,hq,hne,np,nq⟩:=oB h9;have m1:=(lv c 16 p).2 ⟨hp,by have:=hc p hp;omega⟩;have m2:=(lv c 16 q).2 ⟨hq,by have:=hc q hq;omega⟩;rw[e,List.mem_singleton]at m1 m2;omega
  rw[VH,ab (λh9=>h9 h),ab hf.1,ax eu,kJ,Int.toNat_natCast]
 ·have m0:=(lv c 16 _).1 (gM (show 0<(dw c 16).length by omega));have m1:=(lv c 16 _).1 (gM (show 1<(dw c 16).length by omega));have hne:(dw c 16)[0]≠(dw c 16)[1]:=λe9=>by have:=AN (Ht c 16) (by omega) (by omega) e9;omega
  have hf:=x1 _ m0.1 (by omega)
  have eu:(WJ c 16).2 ≠ -1:=by
   by_cases e9:(((dw c 16)[0]:Nat):Int)=(WJ c 16).1
   ·exact(x2 _ m1.1 (by omega) (by omega)).1
   ·exact(x2 _ m0.1 (by omega) e9).1
  rw[VH,ab (λh9=>h9 h),ab hf.1,ab eu,Sw 16 c (λi=>i) _ _ (Hw hc) hc]
def sw(l:List Tr):Int:=(l.map (·.w)).sum
theorem Hy:∀(l:List Tr) (k:Nat) (h:k<l.length),sw (l.eraseIdx k)+l[k].w=sw l
 |a :: l,0,_=>by simp[sw];omega
 |a :: l,k+1,h=>by
  have:=Hy l k (by simpa using h);simp only[sw,List.eraseIdx_cons_succ,List.map_cons,List.sum_cons,List.getElem_cons_succ]at this |-
  omega
theorem Hz(h:k<l.length):tl l k=l[k]:=by simp[tl,List.getD_eq_getElem?_getD,List.getElem?_eq_getElem h]
theorem AQ(h:1<=l.length):XY l l.length<l.length:=by have:=GZ l l.length;omega
theorem H7(h:1<=l.length):(cu l).length+1=l.length:=by
 rw[we,List.length_eraseIdx_of_lt (AQ h)];omega
theorem Ia(h:1<=l.length):sw (cu l)+(XC l).w=sw l:=by
 rw[we,XC,Hz (AQ h)];exact Hy l _ _
theorem Ib(h:1<=l.length)(hw:∀t,t∈l->0<=t.w):(∀t,t∈cu l->0<=t.w)/\0<=(XC l).w:=by
 refine⟨λt ht=>?_,?_⟩
 ·rw[we]at ht;exact hw t (List.mem_of_mem_eraseIdx ht)
 ·rw[XC,Hz (AQ h)];exact hw _ (gM _)
theorem Ic:∀(l:List Tr),(∀t,t∈l->0<=t.w)->0<=sw l
 |[],_=>by simp[sw]
 |a :: l,h=>by
  have:=Ic l (λt ht=>h t (by simp[ht]));have h1:=h a (by simp);simp only[sw,List.map_cons,List.sum_cons]at this |-
  omega
theorem Sy(l:List Tr)(t:Tr):sw (l++[t])=sw l+t.w:=by simp[sw]
structure Fine(l:List Tr)(L:Nat->Int):Prop where
 len:l.length<=16
 pos:∀t,t∈l->0<=t.w
 sum:sw l<=32768
 low:∀i,0<=L i/\L i+(l.length:Int)<=16
theorem Fine.two{L:Nat->Int}(H:Fine l L)(h:2<=l.length):0<=(XC l).w/\0<=(XC (cu l)).w/\(XC l).w+(XC (cu l)).w<=32768/\(cu l).length+1=l.length/\(cu (cu l)).length+2=l.length/\Fine (cu (cu l)++[WA (XC l) (XC (cu l))]) (Xb (WA (XC l) (XC (cu l))) L):=by
 have l1:=H7 (l:=l) (by omega);have l2:=H7 (l:=cu l) (by omega);have s1:=Ia (l:=l) (by omega);have s2:=Ia (l:=cu l) (by omega);obtain⟨p1,q1⟩:=Ib (l:=l) (by omega) H.pos;obtain⟨p2,q2⟩:=Ib (l:=cu l) (by omega) p1;have p3:=Ic _ p2;have hs:=H.sum;refine⟨q1,q2,by omega,l1,by omega,?_,λt ht=>?_,?_,λi=>?_⟩
 ·have:=H.len;rw[List.length_append,List.length_singleton];omega
 ·rw[List.mem_append,List.mem_singleton]at ht;rcases ht with ht|ht
  ·exact p2 t ht
  ·subst ht;show 0<=(XC l).w+(XC (cu l)).w;omega
 ·rw[Sy];show sw (cu (cu l))+((XC l).w+(XC (cu l)).w)<=_;omega
 ·have:=H.low i;rw[List.length_append,List.length_singleton];unfold Xb;split<;>omega
theorem eK:∀(l:List Tr),(∀t,t∈l->t.w<=2048)->sw l<=2048*l.length
 |[],_=>by simp[sw]
 |a :: l,h=>by
  have:=eK l (λt ht=>h t (by simp[ht]));have h1:=h a (by simp);simp only[sw,List.map_cons,List.sum_cons,List.length_cons]at this |-
  omega
theorem Sz(h:Wk c 2048 16):Fine ((dw c 16).map (WZ c λi=>i)) (λ_=>0):=by
 have hl:=Hu c 16
 have hb:∀t,t∈(dw c 16).map (WZ c λi=>i)->0<=t.w/\t.w<=2048:=λt ht=>by
  obtain⟨r,hr,rfl⟩:=List.mem_map.1 ht;exact h r ((lv c 16 r).1 hr).1
 have hs:=eK _ (λt ht=>(hb t ht).2);rw[List.length_map]at hs;refine⟨by rw[List.length_map];exact hl,λt ht=>(hb t ht).1,by omega,λi=>⟨by omega,by rw[List.length_map];omega⟩⟩
end Cd
end Go.Proofs.YtbjbjbpgmojcbacGreatDoor
