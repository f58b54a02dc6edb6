/- A part of the proof: what it leans on. -/
import Derived.Lib.Strings
import Derived.Deep.DrawnRows
import Derived.OneCell
import Derived.BigRegion
import Derived.Test.YtbjbjbpgmojcbacGreatDoorDk03
set_option maxRecDepth 4000
set_option maxHeartbeats 4000000
namespace Go.Proofs.YtbjbjbpgmojcbacGreatDoor
open Ar Bk Cd Dk Im Tk Tr Vy
open Tryz
open Go.RowKit
theorem C7(s:ByteArray)(a b:Nat)(ha:a<s.size)(hb:b<s.size):((s[a].toNat:Int)==(s[b].toNat:Int))=decide (s.data.toList[a]?=s.data.toList[b]?):=by
 rw[ZX s a ha,ZX s b hb];by_cases h:s[a]=s[b]
 ·simp[h]
 ·have:¬(s[a].toNat:Int)=(s[b].toNat:Int):=λe=>h (UInt8.toNat_inj.1 (by omega))
  simp[h,this]
theorem uC(w:World)(n m:Nat):(w.drewN n).drewN m=w.drewN (n+m):=by simp[World.drewN,Nat.add_assoc]
theorem uD(s:ByteArray)(i:Int)(n:Nat)(h:i=(n:Int))(hn:n<s.size)(w:World):(Instr.index 9 (.string s) (.int .i64 i)).run prog w=.ok (.int .u8 (s[n].toNat:Int)) w:=by
 subst h;rw[run_index_string w _ _ _ _ underlying9];simp[hn]
theorem J0(s:ByteArray)(at_ far:Nat)(w:World)(hs:s.size<=2000)(ha:at_<=s.size)(hf1:1<=far)(hf:far<=at_) :
 CB 204 #[.string s,.int .i64 at_,.int .i64 far] w (.int .i64 (dZ s.data.toList (at_-far) at_ (min 64 (s.size-at_)):Nat)):=by
 have hs2:(s.size:Int)<=2000:=by omega
 have ha2:(at_:Int)<=2000:=by omega
 have hf2:(far:Int)<=(at_:Int):=by omega
 go_enter func204,ntmps204
 go_wp2_with fail
 go_loopw [7] (λx wr=>∃k:Nat,k<=64/\at_+k<=s.size/\x=.int .i64 k/\Hid (∀j,j<k->s.data.toList[at_-far+j]?=s.data.toList[at_+j]?)/\ae w wr) (λx _=>64-(intOf x).toNat)
 case atStart=>exact⟨0,by omega,by omega,rfl,λj h=>by omega,bR _ _⟩
 case round =>
  obtain⟨k,hk,hka,rfl,hall,G⟩:=hrel;have hr1:IntKind.i64.wrap ((at_:Int)+(k:Int))=(at_:Int)+(k:Int):=IntWalk.i64_in _ ⟨by omega,by omega⟩;have hr2:IntKind.i64.wrap ((at_:Int)+(k:Int)-(far:Int))=(at_:Int)+(k:Int)-(far:Int):=IntWalk.i64_in _ ⟨by omega,by omega⟩;by_cases h64:k<64
  ·have d1:=al (by omega:(k:Int)<64);have d1':=al (by omega:k<64);by_cases hend:at_+k<s.size
   ·have d2:=al (by omega:(at_:Int)+(k:Int)<(s.size:Int));have hb:=C7 s (at_+k) (at_+k-far) hend (by omega);have hx1:=uD s ((at_:Int)+(k:Int)) (at_+k) (by omega) hend;have hx2:=uD s ((at_:Int)+(k:Int)-(far:Int)) (at_+k-far) (by omega) (by omega);generalize (s[at_+k].toNat:Int)=x at*;generalize (s[at_+k-far].toNat:Int)=y at*;by_cases he:s.data.toList[at_+k]?=s.data.toList[at_+k-far]?
    ·rw[decide_eq_true he]at hb
     have HE:Hid (s.data.toList[at_-far+k]?=s.data.toList[at_+k]?):=by
      show _=_;rw[he,show at_-far+k=at_+k-far by omega]
     clear he;go_wp2_with fail
     go_quiet (fail)
     go_wp2_with fail
     go_roundw
     case rel =>
      refine⟨k+1,by omega,by omega,by go_num,?_,below_drewN G _⟩;intro j hj;by_cases hjk:j=k
      ·subst hjk;exact HE.out
      ·exact hall.out j (by omega)
     case measure=>simp[intOf];omega
    ·rw[decide_eq_false he]at hb
     have HE:Hid (dZ s.data.toList (at_-far) at_ (min 64 (s.size-at_))=k):=by
      refine Yq _ _ _ _ _ (by omega) hall.out (Or.inr (λe=>he ?_));rw[<-e,show at_-far+k=at_+k-far by omega]
     clear he;go_wp2_with fail
     go_quiet (fail)
     go_wp2_with fail
     go_ret
     exact⟨by rw[HE.out];rfl,below_drewN G _⟩
   ·have d2:=dF (by omega:¬((at_:Int)+(k:Int)<(s.size:Int)));have HE:Hid (dZ s.data.toList (at_-far) at_ (min 64 (s.size-at_))=k):=Yq _ _ _ _ _ (by omega) hall.out (Or.inl (by omega));go_wp2_with fail
    go_quiet (fail)
    go_wp2_with fail
    go_ret
    exact⟨by rw[HE.out];rfl,below_drewN G _⟩
  ·have d1:=dF (by omega:¬((k:Int)<64));have d1':=dF (by omega:¬(k<64));have HE:Hid (dZ s.data.toList (at_-far) at_ (min 64 (s.size-at_))=k):=Yq _ _ _ _ _ (by omega) hall.out (Or.inl (by omega));go_wp2_with fail
   go_quiet (fail)
   go_wp2_with fail
   go_ret
   exact⟨by rw[HE.out];rfl,below_drewN G _⟩
theorem J1(gp:Nat)(s:ByteArray)(a b m:Nat)(w:World)(hc:w.cell? ⟨gp,0,none⟩=some (.string s))(hs:s.size<=2000)(ha:a+m<=s.size)(hb0:b+m<=s.size) :
 Calls prog 209 #[.pointer (some ⟨gp,0,none⟩),.int .i64 a,.int .i64 b,.int .i64 m] w λe w'=>e=.returned (.int .i64 (dZ s.data.toList a b m:Nat))/\∃n,w'=w.drewN n:=by
 have hs2:(s.size:Int)<=2000:=by omega
 have hm2:(m:Int)<=2000:=by omega
 go_enter func209,ntmps209
 go_wp2_with fail
 go_loopw [9] (λx wr=>∃k:Nat,k<=m/\x=.int .i64 k/\Hid (∀j,j<k->s.data.toList[a+j]?=s.data.toList[b+j]?)/\∃n,wr=w.drewN n) (λx _=>m-(intOf x).toNat)
 case atStart=>exact⟨0,by omega,rfl,λj h=>by omega,0,rfl⟩
 case round =>
  obtain⟨k,hk,rfl,hall,n,rfl⟩:=hrel;by_cases h64:k<m
  ·have d1:=al (by omega:(k:Int)<(m:Int));have d1':=al (by omega:k<m);have hr1:IntKind.i64.wrap ((a:Int)+(k:Int))=(a:Int)+(k:Int):=IntWalk.i64_in _ ⟨by omega,by omega⟩;have hr2:IntKind.i64.wrap ((b:Int)+(k:Int))=(b:Int)+(k:Int):=IntWalk.i64_in _ ⟨by omega,by omega⟩;have hb:=C7 s (a+k) (b+k) (by omega) (by omega);have hx1:=uD s ((a:Int)+(k:Int)) (a+k) (by omega) (by omega);have hx2:=uD s ((b:Int)+(k:Int)) (b+k) (by omega) (by omega);generalize (s[a+k].toNat:Int)=x at*;generalize (s[b+k].toNat:Int)=y at*;by_cases he:s.data.toList[a+k]?=s.data.toList[b+k]?
   ·rw[decide_eq_true he]at hb;have HE:=Za he;clear he;go_wp2_with fail
    go_quiet (fail)
    go_wp2_with fail
    go_roundw
    case rel =>
     refine⟨k+1,by omega,by go_num,?_,_,rfl⟩;intro j hj;by_cases hjk:j=k
     ·subst hjk;exact HE.out
     ·exact hall.out j (by omega)
    case measure=>simp[intOf];omega
   ·rw[decide_eq_false he]at hb;have HE:=Za (Yq _ _ _ _ _ (by omega) hall.out (Or.inr he));clear he;go_wp2_with fail
    go_quiet (fail)
    go_wp2_with fail
    go_ret
    exact⟨by rw[HE.out];rfl,_,uC _ _ _⟩
  ·have d1:=dF (by omega:¬((k:Int)<(m:Int)));have d1':=dF (by omega:¬(k<m));have HE:=Za (Yq _ _ _ _ _ (by omega) hall.out (Or.inl (by omega)));go_wp2_with fail
   go_quiet (fail)
   go_wp2_with fail
   go_ret
   exact⟨by rw[HE.out];rfl,_,uC _ _ _⟩
open Go.Maps Go.ChangeShapes
theorem J2{w:World}{base gp bm r:Nat}{No:Nat->Prop}{s k:ByteArray}(h:bC w base gp bm No s r)(hr:r<1000000)(hk:k.size<=maxLen) :
 ∃ad cap,(∀w',w'.heap[bm]?=w.heap[bm]?->(Instr.lookup 186 (.map (some bm)) (.string k) false).run prog w'=.ok (.slice ad (Yp s.data.toList k.data.toList r).length cap) w') ∧
  (Yp s.data.toList k.data.toList r=[]\/∃g,ad=some ⟨g,0,none⟩/\∀i p,(Yp s.data.toList k.data.toList r)[i]?=some p->w.cell? ⟨g,i,none⟩=some (.int .i64 (p:Nat))):=by
 obtain⟨D,hm,ho,hsh,hrd⟩:=h.map;have hr2:r<maxLen:=by unfold maxLen;omega
 obtain⟨v,zs,hrun,hat,hoi,hzl,hback⟩:=ho.at jG jC (oD w) hr2 (jH k hk);have hz:=CV ((xF hoi).symm.trans ((congrArg ru hat).symm.trans (hrd k.data.toList)));subst hz
 have hrun':∀w',w'.heap[bm]?=w.heap[bm]?->(Instr.lookup 186 (.map (some bm)) (.string k) false).run prog w'=.ok v w':=λw' hw'=>by
  obtain⟨es,clock,hb,F,_⟩:=ho;exact CX jG jC (oD w) (oD w') hb hw' F (jH k hk) hrun
 rcases hoi.1.2 with⟨rfl,h0⟩|⟨g,cap,cur,rfl,_⟩
 ·have h1:=List.eq_nil_of_length_eq_zero (by simpa using h0);refine⟨none,0,λw' hw'=>?_,.inl h1⟩;rw[h1];exact hrun' w' hw'
 ·refine⟨some ⟨g,0,none⟩,cap,λw' hw'=>?_,.inr ⟨g,rfl,λi p hp=>?_⟩⟩
  ·have:=hrun' w' hw';simpa using this
  ·have hi:=(List.getElem?_eq_some_iff.1 hp).1;have:=hoi.1.cellAt i (by simpa using hi);rw[this];simp[hp]
theorem uE(s:ByteArray)(i j:Int)(a b:Nat)(hi:i=(a:Int))(hj:j=(b:Int))(hab:a<=b)(hb:b<=s.size)(w:World):(Instr.slice 9 (.string s) (some (.int .i64 i)) (some (.int .i64 j)) none).run prog w=.ok (.string (s.extract a b)) w:=by
 subst hi hj;have:=run_slice_string (P:=prog) w 9 s .i64 .i64 (a:Int) (b:Int) U9 (by omega) (by omega) (by omega);simpa using this
theorem J3(gp:Nat)(s:ByteArray)(a:Nat)(w:World)(hc:w.cell? ⟨gp,0,none⟩=some (.string s))(hs:s.size<=2000)(hm:s.size<a+3)(ha:a<=s.size) :
 Calls prog 179 #[.pointer (some ⟨gp,0,none⟩),.int .i64 a] w λe w'=>e=.returned (.tuple #[.int .i64 0,.int .i64 0])/\∃n,w'=w.drewN n:=by
 have _hs:=hs;have hw:IntKind.i64.wrap ((s.size:Int)-(a:Int))=(s.size:Int)-(a:Int):=IntWalk.i64_in _ ⟨by omega,by omega⟩;have d1:=al (by omega:(s.size:Int)-(a:Int)<3);go_enter func179,ntmps179
 go_wp2_with fail
 go_ret2
 exact⟨rfl,0,rfl⟩
theorem J4{l:List UInt8}{a m j p:Nat}{zs:List Nat}{b:Nat×Nat}(h:zs[j]?=some p):((zs.take (j+1)).reverse).foldl (Wl l a m) b=((zs.take j).reverse).foldl (Wl l a m) (Wl l a m b p):=by
 rw[List.take_add_one,h];simp
theorem C8(gp bm g cap:Nat)(s:ByteArray)(a m:Nat)(zs:List Nat)(ad:Option Addr)(w:World)(hc:w.cell? ⟨gp,0,none⟩=some (.string s))(hc1:w.cell? ⟨gp,1,none⟩=some (.map (some bm)))(hs:s.size<=2000)(hm:a+3<=s.size)
 (hmm:Hid (m=min 64 (s.size-a))) (hz:zs.length<=2000)
 (hlk:∀w',w'.heap[bm]?=w.heap[bm]?->(Instr.lookup 186 (.map (some bm)) (.string (s.extract a (a+3))) false).run prog w'=.ok (.slice ad zs.length cap) w')
 (hcl:zs=[]\/(ad=some ⟨g,0,none⟩/\∀i p,zs[i]?=some p->p<a/\w.cell? ⟨g,i,none⟩=some (.int .i64 (p:Nat)))) :
 Calls prog 179 #[.pointer (some ⟨gp,0,none⟩),.int .i64 a] w λe w'=>e=.returned (.tuple #[.int .i64 ((zs.reverse.foldl (Wl s.data.toList a m) (0,0)).1:Nat),.int .i64 ((zs.reverse.foldl (Wl s.data.toList a m) (0,0)).2:Nat)])/\∃n,w'=w.drewN n:=by
 have hw:IntKind.i64.wrap ((s.size:Int)-(a:Int))=(s.size:Int)-(a:Int):=IntWalk.i64_in _ ⟨by omega,by omega⟩;have hw2:IntKind.i64.wrap ((a:Int)+3)=(a:Int)+3:=IntWalk.i64_in _ ⟨by omega,by omega⟩;have d1:decide ((m:Int)<3)=false:=by have:=hmm.out;simp;omega
 have hmin:min ((s.size:Int)-(a:Int)) 64=(m:Int):=by have:=hmm.out;omega
 have xG:∀n,(Instr.lookup 186 (.map (some bm)) (.string (s.extract a (a+3))) false).run prog (w.drewN n)=.ok (.slice ad zs.length cap) (w.drewN n):=λn=>hlk _ rfl
 have hsl:=uE s (a:Int) ((a:Int)+3) a (a+3) rfl (by omega) (by omega) (by omega);have hsn:¬(64:Int)<(m:Int):=by have:=hmm.out;omega
 obtain⟨bb,hbb⟩:∃bb,zs.reverse.foldl (Wl s.data.toList a m) (0,0)=bb:=⟨_,rfl⟩
 rw[hbb];have HB:=Za hbb;clear hbb hlk;go_enter func179,ntmps179
 go_wp2_with fail
 go_quiet (fail)
 go_wp2_with fail
 go_loopw [10,7,8,11] (λx y z _ wr=>∃(i:Int) (j far n:Nat),x=.int .i64 i/\Hid (i=(j:Int)-1)/\j<=zs.length/\y=.int .i64 far/\z=.int .i64 n/\far<=a/\n<=m/\Hid (((zs.take j).reverse).foldl (Wl s.data.toList a m) (far,n)=bb)/\∃k,wr=w.drewN k) (λx _ _ _ _=>(intOf x+1).toNat)
 case atStart=>exact⟨_,zs.length,0,0,rfl,rfl,nl _,rfl,rfl,by omega,by omega,by show _=_;rw[List.take_length];exact HB.out,_,rfl⟩
 case round =>
  obtain⟨i,j,far,n,rfl,hi,hj,rfl,rfl,de,hn,hfold,kk,rfl⟩:=hrel
  cases j with
  |zero =>
   have h1:i=-1:=by have:=hi.out;omega
   subst h1
   have HE:Hid (bb=(far,n)):=by
    show _=_;rw[<-hfold.out];rfl
   clear hfold hcl hi;go_wp2_with fail
   go_ret2
   rw[HE.out];exact⟨rfl,_,rfl⟩
  |succ j =>
   have h1:i=(j:Int):=by have:=hi.out;omega
   subst h1;clear hi;by_cases hfull:n<m
   ·have d2:=al (by omega:(n:Int)<(m:Int));have eJ:=al (by omega:n<m)
    obtain⟨p,hp⟩:∃p,zs[j]?=some p:=⟨zs[j],List.getElem?_eq_getElem (by omega)⟩
    rcases hcl with h0|⟨rfl,hcell⟩
    ·rw[h0]at hj;simp at hj
    ·obtain⟨hpa,hce⟩:=hcell j p hp;have hfs:=J4 (l:=s.data.toList) (a:=a) (m:=m) (b:=(far,n)) hp;have hcd:(w.drewN kk).cell? ⟨gp,0,none⟩=some (.string s):=hc;have J5:∀k,(w.drewN k).cell? ⟨g,j,none⟩=some (.int .i64 (p:Nat)):=λ_=>hce
     have pS:=hmm.out;have hal:=J1 gp s p a m (w.drewN kk) hcd hs (by omega) (by omega);have hjl:j<zs.length:=by omega
     have xe:(j:Int)<(zs.length:Int):=by omega
     have hkm:=uy s.data.toList m p a;have hwp:IntKind.i64.wrap ((a:Int)-(p:Int))=(a:Int)-(p:Int):=IntWalk.i64_in _ ⟨by omega,by omega⟩
     obtain⟨k,hk⟩:∃k,dZ s.data.toList p a m=k:=⟨_,rfl⟩
     rw[hk]at hal hkm;by_cases hbig:n<k
     ·have HF:Hid (((zs.take j).reverse).foldl (Wl s.data.toList a m) (a-p,k)=bb):=by
       show _=_;rw[<-hfold.out,hfs];unfold Wl;rw[hk,ax (by exact hbig)]
      have d3:=al (by omega:(n:Int)<(k:Int));have nH:=al (by omega:n<k);have HM:=Za pS;clear pS hfs hfold hk hp hcell;go_wp2_with (go_at_call 209;go_must (refine hal.mono ?_;rintro e w1 ⟨rfl,k2,rfl⟩;rw[uC]))
      go_roundw
      case rel=>exact⟨_,j,a-p,k,rfl,by show _=_;omega,by omega,by simp;omega,rfl,by omega,hkm,HF,_,rfl⟩
      case measure=>simp[intOf]
     ·have HF:Hid (((zs.take j).reverse).foldl (Wl s.data.toList a m) (far,n)=bb):=by
       show _=_;rw[<-hfold.out,hfs];unfold Wl;rw[hk,ab (by exact hbig)]
      have d3:=dF (by omega:¬((n:Int)<(k:Int)));have nH:=dF (by omega:¬(n<k));have HM:=Za pS;clear pS hfs hfold hk hp hcell;go_wp2_with (go_at_call 209;go_must (refine hal.mono ?_;rintro e w1 ⟨rfl,k2,rfl⟩;rw[uC]))
      go_roundw
      case rel=>exact⟨_,j,far,n,rfl,by show _=_;omega,by omega,rfl,rfl,de,hn,HF,_,rfl⟩
      case measure=>simp[intOf]
   ·have d2:=dF (by omega:¬((n:Int)<(m:Int)));have eJ:=dF (by omega:¬(n<m))
    have HE:Hid (bb=(far,n)):=by
     show _=_;rw[<-hfold.out,JR (by simp;omega)]
    clear hfold hcl;go_wp2_with fail
    go_ret2
    rw[HE.out];exact⟨rfl,_,rfl⟩
end Go.Proofs.YtbjbjbpgmojcbacGreatDoor
namespace Go.Proofs.YtbjbjbpgmojcbacGreatDoor.Tk
open Ar Bk Cd Dk Im Tk Tr Vy
open Tryz
variable{s:ByteArray}{k:Nat}{t:Tk.T}
open Go.Proofs.YtbjbjbpgmojcbacGreatDoor
def Wu(s:ByteArray):Option (T×Nat) :=
 match Zt s.data.toList with
 |none=>none
 |some x =>
  if x.1%2=1 then
   match Zt (s.extract x.2 s.size).data.toList with
   |none=>none
   |some y=>some (⟨⟨#[]⟩,y.1,(x.1/2:Nat)⟩,x.2+y.2)
  else if s.size-x.2<x.1/2 then none else some (⟨s.extract x.2 (x.2+x.1/2),0,0⟩,x.2+x.1/2)
theorem jI(s:ByteArray)(a b:Nat):(s.extract a b).data.toList=(s.data.toList.drop a).take (b-a):=Lib.extract_data s a b
theorem WG(s:ByteArray)(a:Nat):(s.extract a s.size).data.toList=s.data.toList.drop a:=by
 rw[jI,List.take_of_length_le];rw[List.length_drop];simp
theorem XT(s:ByteArray)(a:Nat):(s.extract a s.size).size=s.size-a:=by simp
theorem YG(h:Wu s=some (t,k)):1<=k/\k<=s.size:=by
 unfold Wu at h
 cases hf:Zt s.data.toList with
 |none=>rw[hf]at h;simp at h
 |some x =>
  rw[hf]at h;have hb:=WM (n:=x.1) (k:=x.2) hf;have hk:x.2<=s.size:=by simpa using hb.2.2.1
  simp only at h;by_cases ho:x.1%2=1
  ·rw[ax ho]at h
   cases hg:Zt (s.extract x.2 s.size).data.toList with
   |none=>rw[hg]at h;simp at h
   |some y =>
    rw[hg]at h;have hb2:=WM (n:=y.1) (k:=y.2) hg;rw[WG]at hb2;simp only[Option.some.injEq,Prod.mk.injEq]at h;have h3:=hb2.2.2.1;rw[List.length_drop]at h3;have h4:s.data.toList.length=s.size:=by simp
    omega
  ·rw[ab ho]at h;by_cases hl:s.size-x.2<x.1/2
   ·rw[ax hl]at h;simp at h
   ·rw[ab hl]at h;simp only[Option.some.injEq,Prod.mk.injEq]at h;omega
def dec:Nat->ByteArray->Option (List T)
 |0,s=>if s.size=0 then some [] else none
 |f+1,s=>if s.size=0 then some [] else
  match Wu s with
  |none=>none
  |some (t,k)=>(dec f (s.extract k s.size)).map (t :: ·)
theorem rv(f:Nat){s:ByteArray}(h:s.size=0):dec f s=some []:=by cases f<;>simp[dec,h]
theorem J6:∀(f g:Nat) (s:ByteArray),s.size<=f->s.size<=g->dec f s=dec g s:=by
 intro f
 induction f with
 |zero =>
  intro g s h1 h2;rw[rv _ (by omega),rv _ (by omega)]
 |succ f ih =>
  intro g s h1 h2;by_cases h0:s.size=0
  ·rw[rv _ h0,rv _ h0]
  ·cases g with
   |zero=>omega
   |succ g =>
    simp only[dec,h0,if_false]
    cases ho:Wu s with
    |none=>rfl
    |some x =>
     obtain⟨t,k⟩:=x;have hp:=YG ho;simp only;rw[ih g (s.extract k s.size) (by rw[XT];omega) (by rw[XT];omega)]
def D(s:ByteArray):Option (List T):=dec s.size s
theorem uF(h:s.size=0):D s=some []:=rv _ h
theorem Ys(h0:s.size≠0)(h:Wu s=none):D s=none:=by
 unfold D
 obtain⟨n,hn⟩:∃n,s.size=n+1:=⟨s.size-1,by omega⟩
 rw[hn,dec,ab (by omega),h]
theorem Yr(h:Wu s=some (t,k)):D s=(D (s.extract k s.size)).map (t :: ·):=by
 have hp:=YG h;unfold D
 obtain⟨n,hn⟩:∃n,s.size=n+1:=⟨s.size-1,by omega⟩
 have e:dec s.size s=dec (n+1) s:=by rw[hn]
 rw[e,dec,ab (by omega),h];simp only;rw[J6 n (s.extract k s.size).size (s.extract k s.size) (by rw[XT];omega) (nl _)]
theorem xH(d:Nat):∀(l:List T) (s:List UInt8) (p:Bool) (s1:List UInt8),d<=s.length->s.length<=d+512->VK d s p l=(0,s1)->s.length+l.length<=s1.length/\s1.length<=d+512:=by
 intro l
 induction l with
 |nil=>intro s p s1 h1 h2 h;simp[VK]at h;subst h;simp;exact h2
 |cons t l ih =>
  intro s p s1 h1 h2 h
  have he:VQ d s p t=0:=by
   by_cases e:VQ d s p t=0
   ·exact e
   ·rw[iC e]at h;simp only[Prod.mk.injEq]at h;exact absurd h.1 e
  rw[Xm he]at h;have hm:=X8 he;have h3:=hm.2.2.2.2
  have h5:1<=t.lit.size+t.len.toNat:=by
   by_cases h0:t.lit.size=0
   ·have:=hm.2.2.1 h0;omega
   ·omega
  have:=ih (Wh s t) _ s1 (by omega) (by omega) h;simp only[List.length_cons];omega
end Go.Proofs.YtbjbjbpgmojcbacGreatDoor.Tk
namespace Go.Proofs.YtbjbjbpgmojcbacGreatDoor
open Ar Bk Cd Dk Im Tk Tr Vy
open Tryz
variable{p:Bool}{S dict s:ByteArray}{l:List Tk.T}{xs:List Value}{base bm g gb gp k n r:Nat}{f:Nat->Int}{No:Nat->Prop}{t:Tk.T}{e:TypeId}{v x y z:Value}{a w w':World}
open Go.RowKit
attribute [local go_sem ↓] Go.wp_at_zero Go.wp_at_succ
theorem iL{w1:World}{T:TypeId}(hb:Below (w.alloc (.cells #[x,y,z] T)).heap.size (w.alloc (.cells #[x,y,z] T)) w1) :
 w1.cell? ⟨w.heap.size,0,none⟩=some x/\w1.cell? ⟨w.heap.size,1,none⟩=some y/\w1.cell? ⟨w.heap.size,2,none⟩=some z ∧
  w1.frozen? ⟨w.heap.size,0,none⟩=false/\w1.frozen? ⟨w.heap.size,1,none⟩=false/\w1.frozen? ⟨w.heap.size,2,none⟩=false:=by
 refine⟨(hb.cell (by simp)).trans ?_,(hb.cell (by simp)).trans ?_,(hb.cell (by simp)).trans ?_,(hb.frozen (by simp)).trans ?_,(hb.frozen (by simp)).trans ?_,(hb.frozen (by simp)).trans ?_⟩
 ·rw[World.cell?_alloc_mark];rfl
 ·rw[World.cell?_alloc_mark];rfl
 ·rw[World.cell?_alloc_mark];rfl
 ·rw[World.frozen?_alloc_mark];simp
 ·rw[World.frozen?_alloc_mark];simp
 ·rw[World.frozen?_alloc_mark];simp
theorem kG{B:Nat}(h:Below B a w){g:Nat}(hg:B<=g)(x y z:Value):Below B a (((w.setCell ⟨g,0,none⟩ x).setCell ⟨g,1,none⟩ y).setCell ⟨g,2,none⟩ z) :=
 ((h.setCell (p:=⟨g,0,none⟩) hg _).setCell (p:=⟨g,1,none⟩) hg _).setCell (p:=⟨g,2,none⟩) hg _
theorem J7(s:ByteArray)(w:World)(hs:s.size<=281474976710656)(h:Zt s.data.toList=none) :
 CB 238 #[.string s] w (.tuple #[.agg #[.string ⟨#[]⟩,.int .i64 0,.int .i64 0],.string ⟨#[]⟩,.int .i64 1]):=by
 have hc:=λw=>ur s w hs h
 clear h;go_enter func238,ntmps238
 go_wp2_with fail
 refine mo (hc _) λw1 G=>?_
 clear hc;obtain⟨q0,q1,q2,q3,q4,q5⟩:=iL G;have G1:=ag ((bR _ _).alloc (nl _) _) G;go_wp2_with fail
 exact bodyPost_ret (v:=.tuple #[.agg #[.string ⟨#[]⟩,.int .i64 0,.int .i64 0],.string ⟨#[]⟩,.int .i64 1]) (by simp[results,results238,go_sem,q0,q1,q2]) rfl ⟨rfl,kG G1 (nl _) _ _ _⟩
theorem J8(s r:ByteArray)(w:World)(hs:s.size<=281474976710656)(n k f j:Nat)(h:Zt s.data.toList=some (n,k))(hr:s.extract k s.size=r)(ho:n%2=1)(hf:Zt r.data.toList=some (f,j)) :
 CB 238 #[.string s] w (.tuple #[.agg #[.string ⟨#[]⟩,.int .i64 f,.int .i64 (n/2:Nat)],.string (r.extract j r.size),.int .i64 0]):=by
 have hc:=λw=>ou s w n k hs h
 have hn:(n:Int)<=2147483647:=by have:=WM h;omega
 rw[hr]at hc;have hc2:=λw=>ou r w f j (by rw[<-hr];exact XE hs) hf
 have ho1:((n:Int)%2==1)=true:=by simp;omega
 have ho2:(n:Int)%2=1:=by omega
 have hq:((n/2:Nat):Int)=(n:Int)/2:=by omega
 rw[hq];clear h hf hr hq ho;go_enter func238,ntmps238
 go_wp2_with fail
 refine mo (hc _) λw1 G=>?_
 clear hc;go_wp2_with fail
 refine mo (hc2 _) λw2 G2=>?_
 clear hc2;have G3:=ag G G2;obtain⟨q0,q1,q2,q3,q4,q5⟩:=iL G3;have G1:=ag ((bR _ _).alloc (nl _) _) G3;clear G G2 G3;go_wp2_with fail
 exact bodyPost_ret (v:=.tuple #[.agg #[.string ⟨#[]⟩,.int .i64 f,.int .i64 ((n:Int)/2)],.string (r.extract j r.size),.int .i64 0]) (by simp[results,results238,go_sem,q0,q1,q2]) rfl ⟨rfl,kG G1 (nl _) _ _ _⟩
theorem J9(s r:ByteArray)(w:World)(hs:s.size<=281474976710656)(n k:Nat)(h:Zt s.data.toList=some (n,k))(hr:s.extract k s.size=r)(ho:n%2=1)(hf:Zt r.data.toList=none) :
 CB 238 #[.string s] w (.tuple #[.agg #[.string ⟨#[]⟩,.int .i64 0,.int .i64 (n/2:Nat)],.string ⟨#[]⟩,.int .i64 1]):=by
 have hc:=λw=>ou s w n k hs h
 have hn:(n:Int)<=2147483647:=by have:=WM h;omega
 rw[hr]at hc;have hc2:=λw=>ur r w (by rw[<-hr];exact XE hs) hf
 have ho1:((n:Int)%2==1)=true:=by simp;omega
 have ho2:(n:Int)%2=1:=by omega
 have hq:((n/2:Nat):Int)=(n:Int)/2:=by omega
 rw[hq];clear h hf hr hq ho;go_enter func238,ntmps238
 go_wp2_with fail
 refine mo (hc _) λw1 G=>?_
 clear hc;go_wp2_with fail
 refine mo (hc2 _) λw2 G2=>?_
 clear hc2;have G3:=ag G G2;obtain⟨q0,q1,q2,q3,q4,q5⟩:=iL G3;have G1:=ag ((bR _ _).alloc (nl _) _) G3;clear G G2 G3;go_wp2_with fail
 exact bodyPost_ret (v:=.tuple #[.agg #[.string ⟨#[]⟩,.int .i64 0,.int .i64 ((n:Int)/2)],.string ⟨#[]⟩,.int .i64 1]) (by simp[results,results238,go_sem,q0,q1,q2]) rfl ⟨rfl,kG G1 (nl _) _ _ _⟩
theorem Ka(s r:ByteArray)(w:World)(hs:s.size<=281474976710656)(n k:Nat)(h:Zt s.data.toList=some (n,k))(hr:s.extract k s.size=r)(ho:¬n%2=1)(hbig:r.size<n/2) :
 CB 238 #[.string s] w (.tuple #[.agg #[.string ⟨#[]⟩,.int .i64 0,.int .i64 0],.string ⟨#[]⟩,.int .i64 1]):=by
 have hc:=λw=>ou s w n k hs h
 have hn:(n:Int)<=2147483647:=by have:=WM h;omega
 rw[hr]at hc;have ho1:((n:Int)%2==1)=false:=by simp;omega
 have hb1:=al (by omega:(r.size:Int)<(n:Int)/2);have hb2:(r.size:Int)<(n:Int)/2:=by omega
 clear h hr hbig ho;go_enter func238,ntmps238
 go_wp2_with fail
 refine mo (hc _) λw1 G=>?_
 clear hc;obtain⟨q0,q1,q2,q3,q4,q5⟩:=iL G;have G1:=ag ((bR _ _).alloc (nl _) _) G;go_wp2_with fail
 exact bodyPost_ret (v:=.tuple #[.agg #[.string ⟨#[]⟩,.int .i64 0,.int .i64 0],.string ⟨#[]⟩,.int .i64 1]) (by simp[results,results238,go_sem,q0,q1,q2]) rfl ⟨rfl,kG G1 (nl _) _ _ _⟩
theorem Kb(s r:ByteArray)(w:World)(hs:s.size<=281474976710656)(n k m:Nat)(h:Zt s.data.toList=some (n,k))(hr:s.extract k s.size=r)(ho:¬n%2=1)(hm:n/2=m)(hbig:m<=r.size) :
 CB 238 #[.string s] w (.tuple #[.agg #[.string (r.extract 0 m),.int .i64 0,.int .i64 0],.string (r.extract m r.size),.int .i64 0]):=by
 have hc:=λw=>ou s w n k hs h
 have hn:(n:Int)<=2147483647:=by have:=WM h;omega
 rw[hr]at hc;have hrs:r.size<=281474976710656:=by rw[<-hr];exact XE hs
 have ho1:((n:Int)%2==1)=false:=by simp;omega
 have hq:(n:Int)/2=(m:Int):=by omega
 have hb1:=dF (by omega:¬((r.size:Int)<(m:Int)));have hb3:=dF (by omega:¬(r.size<m));have hi1:(0:Int)<=(m:Int):=by omega
 have hi2:(m:Int)<=(r.size:Int):=by omega
 clear h hr hbig ho hm;go_enter func238,ntmps238
 go_wp2_with fail
 refine mo (hc _) λw1 G=>?_
 clear hc;go_wp2_with fail
 go_region_with (go_at_call 73;refine(ZY _ _ (XE hrs)).mono ?_;rintro e w2 ⟨rfl,hb⟩;have G3:=ag G.drew hb;obtain⟨q0,q1,q2,q3,q4,q5⟩:=iL G3)
 all_goals go_wp2_with fail
 all_goals exact bodyPost_ret (v:=.tuple #[.agg #[.string (r.extract 0 m),.int .i64 0,.int .i64 0],.string (r.extract m r.size),.int .i64 0]) (by simp[results,results238,go_sem,q0,q1,q2]) rfl ⟨rfl,kG (ag ((bR _ _).alloc (nl _) _) G3) (nl _) _ _ _⟩
theorem Kc(s:ByteArray)(w:World)(hs:s.size<=281474976710656)(h:Wu s=none) :
 Calls prog 238 #[.string s] w λe w'=>∃lit far len r,e=.returned (.tuple #[.agg #[.string lit,.int .i64 far,.int .i64 len],.string r,.int .i64 1])/\ae w w':=by
 unfold Wu at h
 cases hf:Zt s.data.toList with
 |none=>exact(J7 s w hs hf).mono λe w' he=>⟨_,_,_,_,he.1,he.2⟩
 |some x =>
  rw[hf]at h;simp only at h;by_cases ho:x.1%2=1
  ·rw[ax ho]at h
   cases hg:Zt (s.extract x.2 s.size).data.toList with
   |none=>exact(J9 s _ w hs x.1 x.2 hf rfl ho hg).mono λe w' he=>⟨_,_,_,_,he.1,he.2⟩
   |some y=>rw[hg]at h;simp at h
  ·rw[ab ho]at h;by_cases hl:s.size-x.2<x.1/2
   ·exact(Ka s _ w hs x.1 x.2 hf rfl ho (by rw[XT];exact hl)).mono λe w' he=>⟨_,_,_,_,he.1,he.2⟩
   ·rw[ab hl]at h;simp at h
theorem Kd(s:ByteArray)(w:World)(hs:s.size<=281474976710656)(t:Tk.T)(k:Nat)(h:Wu s=some (t,k)) :
 CB 238 #[.string s] w (.tuple #[.agg #[.string t.lit,.int .i64 t.far,.int .i64 t.len],.string (s.extract k s.size),.int .i64 0]):=by
 unfold Wu at h
 cases hf:Zt s.data.toList with
 |none=>rw[hf]at h;simp at h
 |some x =>
  rw[hf]at h;simp only at h;by_cases ho:x.1%2=1
  ·rw[ax ho]at h
   cases hg:Zt (s.extract x.2 s.size).data.toList with
   |none=>rw[hg]at h;simp at h
   |some y =>
    rw[hg]at h;simp only[Option.some.injEq,Prod.mk.injEq]at h;obtain⟨rfl,rfl⟩:=h;have hc:=J8 s _ w hs x.1 x.2 y.1 y.2 hf rfl ho hg
    have e:(s.extract x.2 s.size).extract y.2 (s.extract x.2 s.size).size=s.extract (x.2+y.2) s.size:=by
     apply ZN;rw[WG,WG,WG,List.drop_drop]
    rw[e]at hc;exact hc
  ·rw[ab ho]at h;by_cases hl:s.size-x.2<x.1/2
   ·rw[ax hl]at h;simp at h
   ·rw[ab hl]at h;simp only[Option.some.injEq,Prod.mk.injEq]at h;obtain⟨rfl,rfl⟩:=h;have hc:=Kb s _ w hs x.1 x.2 (x.1/2) hf rfl ho rfl (by rw[XT];omega)
    have e1:(s.extract x.2 s.size).extract 0 (x.1/2)=s.extract x.2 (x.2+x.1/2):=by
     apply ZN;rw[jI,WG,jI];simp
    have e2:(s.extract x.2 s.size).extract (x.1/2) (s.extract x.2 s.size).size=s.extract (x.2+x.1/2) s.size:=by
     apply ZN;rw[WG,WG,WG,List.drop_drop]
    rw[e1,e2]at hc;exact hc
def tcs:List Tk.T->List Value
 |[]=>[]
 |t :: l=>.string t.lit :: .int .i64 t.far :: .int .i64 t.len :: tcs l
theorem nI(a b:List Tk.T):tcs (a++b)=tcs a++tcs b:=by
 induction a with
 |nil=>rfl
 |cons t a ih=>simp[tcs,ih]
theorem Ke(a:List Tk.T):(tcs a).length=a.length*3:=by
 induction a with
 |nil=>rfl
 |cons t a ih=>simp[tcs,ih];omega
theorem Kf:∀(l:List Tk.T) (i:Nat) (h:i<l.length),(tcs l)[i*3]?=some (.string l[i].lit)/\(tcs l)[i*3+1]?=some (.int .i64 l[i].far)/\(tcs l)[i*3+2]?=some (.int .i64 l[i].len):=by
 intro l
 induction l with
 |nil=>intro i h;simp at h
 |cons t l ih =>
  intro i h
  cases i with
  |zero=>simp[tcs]
  |succ i =>
   have:=ih i (by simpa using h);rw[show(i+1)*3=i*3+3 by omega,show i*3+3+1=i*3+1+3 by omega,show i*3+3+2=i*3+2+3 by omega];simpa[tcs]using this
theorem rz:(prog.info? 177).map (λi=>(i.zero,i.size,i.bytes))=some (some (.agg #[.string ⟨#[]⟩,.int .i64 0,.int .i64 0]),3,32):=by kernel_rfl
theorem rA{B:Nat}(h:w.ownsRow B 177 3 v n (tcs l)):∃ad cap,v=.slice ad l.length cap/\cJ w ad l:=by
 have hlen:=h.1;rw[Ke]at hlen;have hn:n=l.length:=by omega
 subst hn;rcases h.2 with⟨rfl,h0⟩|⟨g,cap,cur,rfl,hb,hg,hnc,hcm,hcs,htk⟩
 ·have:l=[]:=List.eq_nil_of_length_eq_zero h0;subst this;exact⟨none,0,rfl,.inl rfl⟩
 ·refine⟨some ⟨g,0,none⟩,cap,rfl,.inr ⟨g,0,rfl,(aG.1 hg).1,λi hi=>?_⟩⟩
  have hat:∀j u,(tcs l)[j]?=some u->w.cell? ⟨g,0+j,none⟩=some u:=by
   intro j u hj;rw[Nat.zero_add,cell_of_row w g j cur _ _ hg];rw[<-htk,List.getElem?_take]at hj;split at hj
   ·simpa using hj
   ·simp at hj
  have:=Kf l i hi;exact⟨hat _ _ this.1,hat _ _ this.2.1,hat _ _ this.2.2⟩
theorem fA(x y z:Value)(hx:x.oneCell'=true)(hy:y.oneCell'=true)(hz:z.oneCell'=true):∀u ∈ [x,y,z],u.oneCell'=true:=by
 intro u hu;simp at hu;rcases hu with rfl|rfl|rfl<;>assumption
theorem nJ(w:World)(x y z:Value)(T:TypeId):∀j u,[x,y,z][j]?=some u->(w.alloc (.cells #[x,y,z] T)).cell? ((⟨w.heap.size,0,none⟩:Addr).add j)=some u:=by
 intro j u hj;rw[oy,World.cell?_alloc_mark];simpa using hj
theorem Kg(dict s:ByteArray)(w:World)(hd:dict.size<=256)(hs:1024<s.size) :
 CB 216 #[.string dict,.string s] w (.tuple #[.slice none 0 0,.int .i64 1]):=by
 have h:=dF (by omega:¬((256:Int)<(dict.size:Int)));have h':(dict.size:Int)<=256:=by omega
 have h2:=al (by omega:(1024:Int)<(s.size:Int));have h2':(1024:Int)<(s.size:Int):=by omega
 go_enter func216,ntmps216
 go_wp2_with fail
 go_step3
 go_wp2_with fail
 rw[Exit.noGoto_ret];go_ret2
 exact⟨rfl,bR _ _⟩
def ZM(dict s:ByteArray):Option (List Tk.T) :=
 match Tk.D s with
 |none=>none
 |some l=>if(VK dict.size dict.data.toList false l).1=0 then some l else none
def Da:Value->Nat|.string s=>s.size|_=>0
theorem Zz{B size:Nat}(h:w.ownsRow B e size v n xs)(hb:ae w w'):w'.ownsRow B e size v n xs :=
 h.kept (row:=none) ⟨hb.os,hb.tape,hb.output,hb.size,λk hk _=>hb.block k hk⟩ (by cases v.ownBlock<;>simp)
theorem Kh{B B' size:Nat}(h:w.ownsRow B e size v n xs)(hb:Below B' w w')(hk:∀k,k<w.heap.size->k≠g->w'.heap[k]?=w.heap[k]?)(hg:g<B):w'.ownsRow B e size v n xs :=
 h.kept (row:=some g) ⟨hb.os,hb.tape,hb.output,hb.size,λk hk1 hne=>hk k hk1 (λe=>hne (by rw[e]))⟩ (.inr (λe=>by have:=(h.lt g e).1;omega))
theorem Ki{T:TypeId}(hk:∀k,k<(w.alloc (.cells #[x,y,z] T)).heap.size->k≠g->w'.heap[k]?=(w.alloc (.cells #[x,y,z] T)).heap[k]?)(hg:g<w.heap.size) :
 w'.cell? ⟨w.heap.size,0,none⟩=some x/\w'.cell? ⟨w.heap.size,1,none⟩=some y/\w'.cell? ⟨w.heap.size,2,none⟩=some z:=by
 have e:∀j,w'.cell? ⟨w.heap.size,j,none⟩=(w.alloc (.cells #[x,y,z] T)).cell? ⟨w.heap.size,j,none⟩:=λj=>fZ (w:=w.alloc (.cells #[x,y,z] T)) (hk w.heap.size (by simp) (by omega))
 refine⟨?_,?_,?_⟩
 ·rw[e,World.cell?_alloc_mark];rfl
 ·rw[e,World.cell?_alloc_mark];rfl
 ·rw[e,World.cell?_alloc_mark];rfl
theorem dd.grown{B:Nat}{D M:Int}{L:Bool}(h:dd w B g D M L)(ho:w.ownsRow (g+1) e 3 v n xs)(hg:w.grownBy w' v.ownBlock):dd w' B g D M L:=by
 obtain⟨a,b,c0,c1,c2,f1,f2⟩:=h;have hb:=hg.block g b (λe=>by have:=(ho.lt g e.symm).1;omega);refine⟨a,nT b hg.size,?_,?_,?_,?_,?_⟩
 ·rw[World.cell?_of_block (w:=w) (by exact hb)];exact c0
 ·rw[World.cell?_of_block (w:=w) (by exact hb)];exact c1
 ·rw[World.cell?_of_block (w:=w) (by exact hb)];exact c2
 ·rw[World.frozen?_of_block (w:=w) (by exact hb)];exact f1
 ·rw[World.frozen?_of_block (w:=w) (by exact hb)];exact f2
theorem Db(h:Wu S=some (t,k)):t.lit.size<=S.size:=by
 unfold Wu at h
 cases hf:Zt S.data.toList with
 |none=>rw[hf]at h;simp at h
 |some x =>
  rw[hf]at h;simp only at h;split at h
  ·split at h
   ·simp at h
   ·simp only[Option.some.injEq,Prod.mk.injEq]at h;rw[<-h.1];exact Nat.zero_le _
  ·split at h
   ·simp at h
   ·simp only[Option.some.injEq,Prod.mk.injEq]at h;rw[<-h.1];exact XE (nl _)
theorem Kj(h1:Tk.D s=(Tk.D S).map (l++·))(h2:Tk.D S=none):ZM dict s=none:=by
 unfold ZM;rw[h1,h2];rfl
theorem Kk{S2:ByteArray}{st:List UInt8}(h1:Tk.D s=(Tk.D S).map (l++·))(h2:Wu S=some (t,k))(h3:S.extract k S.size=S2)
 (h4:∀m,VK dict.size dict.data.toList false (l++m)=VK dict.size st p m) (h5:VQ dict.size st p t≠0):ZM dict s=none:=by
 unfold ZM;rw[h1,Yr h2,h3]
 cases Tk.D S2 with
 |none=>rfl
 |some m =>
  simp only[Option.map_some];rw[h4,iC h5,ab h5]
theorem Kl{st:List UInt8}(h1:Tk.D s=(Tk.D S).map (l++·))(h2:S.size=0)
 (h4:∀m,VK dict.size dict.data.toList false (l++m)=VK dict.size st p m):ZM dict s=some l:=by
 unfold ZM;rw[h1,uF h2];simp only[Option.map_some,List.append_nil];have:=h4 [];rw[List.append_nil]at this;rw[this];rfl
theorem Km(dict s:ByteArray)(w:World)(hd:dict.size<=256)(hs:s.size<=1024) :
 Calls prog 216 #[.string dict,.string s] w λe w'=>ae w w' ∧
  ((ZM dict s=none/\e=.returned (.tuple #[.slice none 0 0,.int .i64 1]))\/∃l ad cap,ZM dict s=some l/\e=.returned (.tuple #[.slice ad l.length cap,.int .i64 0])/\cJ w' ad l):=by
 have h:=dF (by omega:¬((256:Int)<(dict.size:Int)));have h':(dict.size:Int)<=256:=by omega
 have h2:=dF (by omega:¬((1024:Int)<(s.size:Int)));have h2':(s.size:Int)<=1024:=by omega
 obtain⟨i0,hi,hz0,hz1,hz2⟩:=info_parts rz;generalize rB:ZM dict s=RO at*;have kH:=Za rB;clear rB;go_enter func216,ntmps216
 go_wp2_with fail
 go_step3
 go_wp2_with fail
 go_step3
 go_wp2_with fail
 go_loopw [1,6] (λx v wr=>∃(S:ByteArray) (l:List Tk.T) (st:List UInt8) (p:Bool),x=.string S/\wr.ownsRow (w.heap.size+1) 177 3 v l.length (tcs l)/\Hid (Tk.D s=(Tk.D S).map (l++·)) ∧
  Hid (∀m,VK dict.size dict.data.toList false (l++m)=VK dict.size st p m)/\l.length+dict.size<=st.length/\st.length<=dict.size+512/\dd wr w.heap.size w.heap.size dict.size ((st.length:Int)-dict.size) p/\S.size<=1024/\ae w wr)
  (λx _ _=>Da x)
 case atStart =>
  refine⟨s,[],dict.data.toList,false,rfl,World.ownsRow_nil _ _ _ _,?_,λm=>rfl,by simp,by simp,?_,hs,(bR _ _).alloc (nl _) _⟩
  ·show _=_
   cases Tk.D s<;>rfl
  ·have e:((dict.data.toList.length:Int)-dict.size)=0:=by simp
   rw[e];exact⟨nl _,by simp,by rw[World.cell?_alloc_mark];rfl,by rw[World.cell?_alloc_mark];rfl,by rw[World.cell?_alloc_mark];rfl,by rw[World.frozen?_alloc_mark];simp,by rw[World.frozen?_alloc_mark];simp⟩
 case round =>
  obtain⟨S,l,st,p,rfl,hown,hD,hrun,hs1,hs2,hm,hS,G⟩:=hrel;by_cases h0:S.size=0
  ·have hE0:=kx h0
   have HX:Hid (RO=some l):=by
    show _=_;rw[<-kH.out];exact Kl hD.out h0 hrun.out
   clear hm;go_wp2_with fail
   try rw[Exit.noGoto_ret]
   go_ret2
   obtain⟨ad,cap,hv,hsl⟩:=rA hown;exact⟨G,.inr ⟨l,ad,cap,HX.out,by rw[<-hv];rfl,hsl⟩⟩
  ·have hE0:=ky h0;have hgs:=G.size;have hgm:=hm.2.1
   cases ho:Wu S with
   |none =>
    have HX:Hid (RO=none):=by
     show _=_;rw[<-kH.out];exact Kj hD.out (Ys h0 ho)
    have hc:=λw=>Kc S w (by omega) ho
    clear hm hD hrun ho;go_wp2_with fail
    refine(hc _).mono ?_;rintro e w1 ⟨lit,far,len,r,rfl,hb1⟩;clear hc;go_wp2_with fail
    try rw[Exit.noGoto_ret]
    go_ret2
    exact⟨(ag G hb1).alloc (nt hgs hb1.size) _,.inl ⟨HX.out,rfl⟩⟩
   |some x =>
    obtain⟨t,kk⟩:=x;have hc:=λw=>Kd S w (by omega) t kk ho
    have hpos:=YG ho
    obtain⟨S2,hS2⟩:∃S2,S.extract kk S.size=S2:=⟨_,rfl⟩
    rw[hS2]at hc;have rD:S2.size<S.size:=by rw[<-hS2,XT];omega
    have kI:S2.size<=1024:=by omega
    have hlit:t.lit.size<=140737488355328:=by
     have:=Db ho;omega
    have HB:Hid (VQ dict.size st p t≠0->RO=none):=by
     intro he;rw[<-kH.out];exact Kk hD.out ho hS2 hrun.out he
    have HD2:Hid (Tk.D s=(Tk.D S2).map ((l++[t])++·)):=by
     show _=_;rw[hD.out,Yr ho,hS2]
     cases Tk.D S2<;>simp
    have hef:=Cj dict.size st p t _ rfl;have HE:=Za hef;have Hm:=Za hm;have HO:=Za hown;have hM0:0<=(st.length:Int)-dict.size:=by omega
    have hM1:(st.length:Int)-dict.size<=512:=by omega
    have hD0:(0:Int)<=(dict.size:Int):=by omega
    have HS:=Za rD;clear hm hD ho hef hown hS2 hpos rD
    cases hF:fits dict.size ((st.length:Int)-dict.size) p t.lit t.far t.len with
    |false =>
     have HX:=Za (HB.out (by rw[HE.out,ax hF];omega));go_wp2_with fail
     refine mo (hc _) λw1 hb1=>?_
     clear hc
     have ml:=(Hm.out.below hb1)
     have G1:=ag G hb1;have dC:=G1.size;go_wp2_with (go_at_call 210;go_must (refine(Cf w.heap.size w.heap.size dict.size ((st.length:Int)-dict.size) p t.lit t.far t.len _ (ml.alloc _) hD0 h' hM0 hM1 hF).mono ?_;rintro e w3 ⟨rfl,hb3⟩))
     try rw[Exit.noGoto_ret]
     go_ret2
     exact⟨ag (G1.alloc dC _) hb3,.inl ⟨HX.out,rfl⟩⟩
    |true =>
     have hln:=Cm hF;by_cases hbig:512<(st.length:Int)-dict.size+t.lit.size+t.len
     ·have HX:=Za (HB.out (by rw[HE.out,ab (by rw[hF];simp),ax hbig];omega));go_wp2_with fail
      refine mo (hc _) λw1 hb1=>?_
      clear hc
      have ml:=(Hm.out.below hb1)
      have G1:=ag G hb1;have dC:=G1.size;go_wp2_with (go_at_call 210;go_must (refine(Ch w.heap.size w.heap.size dict.size ((st.length:Int)-dict.size) p t.lit t.far t.len _ (ml.alloc _) hD0 h' hM0 hM1 hlit hln hF hbig).mono ?_;rintro e w3 ⟨rfl,hb3⟩))
      try rw[Exit.noGoto_ret]
      go_ret2
      exact⟨ag (G1.alloc dC _) hb3,.inl ⟨HX.out,rfl⟩⟩
     ·have he:VQ dict.size st p t=0:=by rw[HE.out,ab (by rw[hF];simp),ab hbig]
      have hmk:=X8 he;have HK:=Za hmk.1
      have HL:Hid (1<=t.lit.size+t.len.toNat):=by
       show _<=_;by_cases h0:t.lit.size=0
       ·have:=hmk.2.2.1 h0;omega
       ·omega
      have HRn:Hid (∀m,VK dict.size dict.data.toList false ((l++[t])++m)=VK dict.size (Wh st t) (decide (t.lit.size≠0)) m):=by
       intro m;rw[List.append_assoc,hrun.out];exact Xm he
      have HD:Hid ((!t.lit.toList.isEmpty)=decide (t.lit.size≠0)):=by
       show _=_;by_cases h0:t.lit.size=0
       ·rw[kx h0];simp[h0]
       ·rw[ky h0];simp[h0]
      have rE:l.length<=512:=by omega
      clear he hmk;go_wp2_with fail
      refine mo (hc _) λw1 hb1=>?_
      clear hc
      have ml:=(Hm.out.below hb1)
      have G1:=ag G hb1;have dC:=G1.size;have xI:=nT hgm hb1.size;have pU:=Zz HO.out hb1;go_wp2_with (first|(go_at_call 210;go_must (refine(Ci w.heap.size w.heap.size dict.size ((st.length:Int)-dict.size) p t.lit t.far t.len _ (ml.alloc _) hD0 h' hM0 hM1 hln hF (by omega)).mono ?_;rintro e w3 ⟨rfl,hb3,pS,hk3⟩;obtain⟨q0,q1,q2⟩:=Ki hk3.out xI;have xJ:=Kh (pU.alloc _) hb3 hk3.out (Nat.lt_succ_self _);have oE:=hb3.size))|(at_builtin;go_must (refine wpList_append_own _ rfl _ _ 146 rfl (w.heap.size+1) 177 i0 (.agg #[.string ⟨#[]⟩,.int .i64 0,.int .i64 0]) 3 32 fu hi hz0 hz1 hz2 rfl (by decide) _ _ _ rfl (xJ.alloc _) ⟨w3.heap.size,0,none⟩ 1 1 [.string t.lit,.int .i64 t.far,.int .i64 t.len] rfl rfl (nJ _ _ _ _ _) (fA _ _ _ rfl rfl rfl) (fb (by omega)) (by omega) (by simp at oE |-;omega) ?_;intro v4 w4 hown4 hgrow4 _)))
      go_roundw
      case rel =>
       have hkl:=HK.out;have hl1:=HL.out;have htc:tcs (l++[t])=tcs l++[.string t.lit,.int .i64 t.far,.int .i64 t.len]:=nI _ _;refine⟨S2,l++[t],Wh st t,decide (t.lit.size≠0),rfl,by rw[htc,List.length_append];exact hown4,HD2,HRn,by simp;omega,by omega,?_,kI,?_⟩
       ·rw[<-HD.out,show((Wh st t).length:Int)-dict.size=(st.length:Int)-dict.size+t.lit.size+t.len by omega];exact(pS.alloc _).grown (xJ.alloc _) hgrow4
       ·have hB3:=(G1.alloc dC _).trans hb3;exact(hB3.alloc hB3.size _).grown hgrow4 (by have:=hB3.size;simp;omega) (λk hk=>by have:=(xJ.lt k hk).1;omega)
      case measure=>exact HS.out
theorem Kn(dict s:ByteArray)(w:World)(hd:dict.size<=256)(hlong:1024<s.size->ZM dict s=none) :
 Calls prog 216 #[.string dict,.string s] w λe w'=>ae w w' ∧
  ((ZM dict s=none/\e=.returned (.tuple #[.slice none 0 0,.int .i64 1]))\/∃l ad cap,ZM dict s=some l/\e=.returned (.tuple #[.slice ad l.length cap,.int .i64 0])/\cJ w' ad l):=by
 by_cases hs:s.size<=1024
 ·exact Km dict s w hd hs
 ·exact(Kg dict s w hd (by omega)).mono λe w' he=>⟨he.2,.inl ⟨hlong (by omega),he.1⟩⟩
open Go.Maps Go.ChangeShapes
theorem Ko:(prog.info? 3).map (λi=>(i.zero,i.size,i.bytes))=some (some (.int .i64 0),1,8):=by kernel_rfl
theorem Dc(s:ByteArray)(r:Nat):Ya s.data.toList r=(s.extract r (r+3)).data.toList:=by
 rw[jI,show r+3-r=3 by omega];rfl
theorem De(a:Nat)(h:bC w base gp bm No s r)(hr:a+3<=s.size->r=a)(ha:a<=s.size)(hs:s.size<=2000) :
 Calls prog 179 #[.pointer (some ⟨gp,0,none⟩),.int .i64 a] w λe w'=>e=.returned (.tuple #[.int .i64 ((Yb s.data.toList a).1:Nat),.int .i64 ((Yb s.data.toList a).2:Nat)])/\∃n,w'=w.drewN n:=by
 have hl:s.data.toList.length=s.size:=by simp
 by_cases hm:a+3<=s.size
 ·obtain rfl:=hr hm;obtain⟨ad,cap,hlk,hcl⟩:=J2 h (by omega) (k:=s.extract r (r+3)) (nt (XE (nl _)) (by unfold maxLen;omega));rw[<-Dc]at hlk hcl
  have oF:Yb s.data.toList r=(Yp s.data.toList (Ya s.data.toList r) r).reverse.foldl (Wl s.data.toList r (Wz s.data.toList r)) (0,0):=by
   unfold Yb;rw[ab (by unfold Wz;omega)]
  rw[oF];have hlen:=Tk.JP s.data.toList (Ya s.data.toList r) r;rcases hcl with h0|⟨g,rfl,hcell⟩
  ·exact C8 gp bm 0 cap s r _ _ ad w h.c0 h.c1 hs hm (by show _=_;unfold Wz;rw[hl]) (by omega) hlk (.inl h0)
  ·exact C8 gp bm g cap s r _ _ _ w h.c0 h.c1 hs hm (by show _=_;unfold Wz;rw[hl]) (by omega) hlk (.inr ⟨rfl,λi p hp=>⟨JO (List.mem_of_getElem? hp),hcell i p hp⟩⟩)
 ·have oF:Yb s.data.toList a=(0,0):=by
   unfold Yb;rw[ax (by unfold Wz;omega)]
  rw[oF];exact J3 gp s a w h.c0 hs (by omega) ha
def rF(w:World)(p:Addr):Nat:=match w.cell? p with|some v=>(intOf v).toNat|none=>0
theorem Df(a:Nat)(h:bC w base gp bm No s r)(hno:∀g,No g->g<w.heap.size)(hr:r<=a)(ha:a<=s.size)(hs:s.size<=2000) :
 Calls prog 178 #[.pointer (some ⟨gp,0,none⟩),.int .i64 a] w λe w'=>e=.returned (.tuple #[])/\Keeps w w' base gp bm No/\∃r',r<=r'/\r'<=a/\(a+3<=s.size->r'=a)/\bC w' base gp bm No s r':=by
 obtain⟨i0,hi,hz0,hz1,hz2⟩:=info_parts Ko;go_enter func178,ntmps178
 go_wp2_with fail
 go_loopw [4] (λ_ wr=>∃q:Nat,r<=q/\q<=a/\bC wr base gp bm No s q/\Keeps w wr base gp bm No) (λ_ wr=>a-rF wr ⟨gp,2,none⟩)
 case atStart=>exact⟨r,nl _,hr,h,Keeps.refl _ _ _ _ _⟩
 case round =>
  obtain⟨q,hq1,hq2,hp,G⟩:=hrel;have Hp:=Za hp;obtain⟨c0,c1,c2,f2,hgb,hne,hbs,-⟩:=hp;have hw3:IntKind.i64.wrap ((q:Int)+3)=(q:Int)+3:=IntWalk.i64_in _ ⟨by omega,by omega⟩;by_cases h1:q<a
  ·have d1:=al (by omega:(q:Int)<(a:Int));have d1':=al (by omega:q<a);by_cases h2:q+3<=s.size
   ·have d2:=al (by omega:(q:Int)+3<=(s.size:Int));have hsl:=uE s (q:Int) ((q:Int)+3) q (q+3) rfl (by omega) (by omega) (by omega);go_wp2_with fail
    go_quiet (fail)
    go_wp2_with fail
    go_quiet (fail)
    go_wp2_with fail
    generalize hW:(wr.drewN _).drewN _=W;have hbel:ae wr W:=by rw[<-hW];exact below_drewN (below_drewN (bR _ _) _) _
    have lI:=Hp.out.below hbel;have hsz:wr.heap.size=W.heap.size:=by rw[<-hW];rfl
    clear hW;obtain⟨v,zs,hlk,hoi,hzl,hback⟩:=JY lI (by omega) (k:=s.extract q (q+3)) (nt (XE (nl _)) (by unfold maxLen;omega)) (Dc s q)
    have xK:bm<W.heap.size:=by
     obtain⟨D,_,ho,_⟩:=lI.map;obtain⟨es,clock,hb,_⟩:=ho;exact(aG.1 hb).1
    have jJ:=nT hgb lI.bs;have xL:=lI.bs;have Kq:=Za lI;have e0:=lI.c0;have e1:=lI.c1;have e2:=lI.c2;have ef:=lI.f2;have C2:=Za c2;clear lI c0 c1 c2 f2;have xG:(Instr.lookup 186 (.map (some bm)) (.string (s.extract q (q+3))) false).run prog W.drew=.ok v W.drew:=hlk _ rfl;have hlk2:∀o,(Instr.lookup 186 (.map (some bm)) (.string (s.extract q (q+3))) false).run prog (W.alloc o).drew=.ok v (W.alloc o).drew:=λo=>hlk _ (Below.heap_alloc W o bm xK)
    clear hlk;have xM:=λo=>(Zz hoi (bR _ _).drew).alloc o
    have xN:=λg (hg:v.ownBlock=some g)=>(hoi.lt g hg).1
    have hnw:=World.new_ne W.drew ⟨gp,1,none⟩ e1;have Kr:=World.new_ne W.drew ⟨gp,2,none⟩ e2;have rG:∀g,No g->g<W.heap.size:=λg hg=>by have:=hno g hg;have:=G.size;omega
    have HG:=Za (G.trans (Keeps.of_below hbel))
    have HL:Hid (∀w1 g cp,W.grownBy w1 v.ownBlock->w1.ownsRow base 3 1 (.slice (some ⟨g,0,none⟩) (zs.length+1) cp) (zs.length+1) (zs.map (Value.int .i64)++[.int .i64 (q:Nat)])->(v.ownBlock=some g\/W.heap.size<=g) →
     ∃w2,(Instr.mapUpdate 186 (.map (some bm)) (.string (s.extract q (q+3))) (.slice (some ⟨g,0,none⟩) (zs.length+1) cp)).run prog w1=.ok () w2 ∧
      (w1.cell? ⟨gp,1,none⟩=some (.map (some bm))/\w1.cell? ⟨gp,2,none⟩=some (.int .i64 (q:Nat)))/\(w2.cell? ⟨gp,1,none⟩=some (.map (some bm))/\w2.cell? ⟨gp,2,none⟩=some (.int .i64 (q:Nat)))/\w2.frozen? ⟨gp,2,none⟩=false ∧
      Hid (bC (w2.setCell ⟨gp,2,none⟩ (.int .i64 ((q+1:Nat):Int))) base gp bm No s (q+1))/\Hid (Keeps w (w2.setCell ⟨gp,2,none⟩ (.int .i64 ((q+1:Nat):Int))) base gp bm No)):=by
     intro w1 g cp hg1 hown1 hloc;obtain⟨w2,hrun2,hg2,hmap2,hk2⟩:=hback w1 _ hg1 hown1 (hloc.imp id (λhge=>⟨g,rfl,hge,λhN=>by have:=rG g hN;omega⟩));have hne1:some gp≠v.ownBlock:=λe=>by have:=xN gp e.symm;omega
     have x1:=(hg1.cell_far _ jJ hne1).trans e1;have x2:=(hg1.cell_far _ jJ hne1).trans e2;have hbk:=hne;have y0:=(hk2.cell (p:=⟨gp,0,none⟩) jJ hbk hbk (.inl hgb)).trans e0;have y1:=(hk2.cell (p:=⟨gp,1,none⟩) jJ hbk hbk (.inl hgb)).trans e1;have y2:=(hk2.cell (p:=⟨gp,2,none⟩) jJ hbk hbk (.inl hgb)).trans e2;have yf:=(hk2.frozen (p:=⟨gp,2,none⟩) jJ hbk hbk (.inl hgb)).trans ef;exact⟨w2,hrun2,⟨x1,x2⟩,⟨y1,y2⟩,yf,JZ y0 y1 y2 yf hgb hne (nt xL hk2.size) hmap2,(HG.out.trans (hk2.wide gp)).setCell _ _⟩
    clear hback Kq rG;go_region_held3 (λw'=>w'.cell? ⟨gp,1,none⟩=some (.map (some bm))/\w'.cell? ⟨gp,2,none⟩=some (.int .i64 (q:Nat))) (first|go_keep|(constructor<;>assumption)) (first|(refine gF _ rfl _ _ 213 rfl base 3 i0 (.int .i64 0) 1 8 wD hi hz0 hz1 hz2 rfl (by decide) v _ _ rfl (xM _) ⟨W.drew.heap.size,0,none⟩ 1 1 [.int .i64 (q:Nat)] rfl rfl (cell_one_new _ _ _) (ints_oneCell .i64 [(q:Int)]) (by decide) (by unfold maxLen;omega) (by omega) (by simp;omega) _ rfl ?_;intro g cp w1 hown1 hgrow1 xO hlt1;obtain⟨w2,hrun2,⟨k1,k2⟩,⟨k3,k4⟩,k5,HP2,pM⟩:=HL.out w1 g cp ((World.grownBy_alloc W _ _).trans ⟨hgrow1.os,hgrow1.tape,hgrow1.output,hgrow1.size,hgrow1.block⟩) hown1 (xO.imp id (λe=>by rw[e];simp))))
    all_goals
     go_wp2_with fail
     go_roundw
     case rel=>exact⟨q+1,by omega,by omega,HP2.out,pM.out⟩
     case measure =>
      unfold rF;have hx:(w2.setCell ⟨gp,2,none⟩ (.int .i64 ((q:Int)+1))).cell? ⟨gp,2,none⟩=some (.int .i64 ((q+1:Nat):Int)):=HP2.out.c2;rw[hx,C2.out];simp[intOf];omega
   ·have d2:=dF (by omega:¬((q:Int)+3<=(s.size:Int)));go_wp2_with fail
    go_quiet (fail)
    go_wp2_with fail
    go_end0
    exact⟨rfl,G.trans (Keeps.of_below (below_drewN (bR _ _) _)),q,hq1,hq2,λ_=>by omega,Hp.out.below (below_drewN (bR _ _) _)⟩
  ·have d1:=dF (by omega:¬((q:Int)<(a:Int)));have d1':=dF (by omega:¬(q<a));go_wp2_with fail
   go_quiet (fail)
   go_wp2_with fail
   go_end0
   exact⟨rfl,G.trans (Keeps.of_below (below_drewN (bR _ _) _)),q,hq1,hq2,λ_=>by omega,Hp.out.below (below_drewN (bR _ _) _)⟩
structure Ord(B bm gp ga gf gl base:Nat):Prop where
 b:B<=bm
 p:bm<gp
 a:gp<ga
 f:ga<gf
 l:gf<gl
 s:gl<base
structure PS(w:World)(bm gp ga gf gl base:Nat)(s:ByteArray)(r a f:Nat)(v:Value)(l:List Tk.T):Prop where
 past:bC w base gp bm (λg=>v.ownBlock=some g) s r
 ca:w.cell? ⟨ga,0,none⟩=some (.int .i64 (a:Nat))
 fa:w.frozen? ⟨ga,0,none⟩=false
 cf:w.cell? ⟨gf,0,none⟩=some (.int .i64 (f:Nat))
 ff:w.frozen? ⟨gf,0,none⟩=false
 cl:w.cell? ⟨gl,0,none⟩=some v
 fl:w.frozen? ⟨gl,0,none⟩=false
 own:w.ownsRow base 177 3 v l.length (tcs l)
section
variable {w w':World} {B bm gp ga gf gl base:Nat} {s:ByteArray} {r a f:Nat} {v:Value} {l:List Tk.T}
theorem PS.bs(h:PS w bm gp ga gf gl base s r a f v l):base<=w.heap.size:=h.past.bs
theorem PS.below(h:PS w bm gp ga gf gl base s r a f v l)(O:Ord B bm gp ga gf gl base)(hb:ae w w'):PS w' bm gp ga gf gl base s r a f v l:=by
 have hs:=h.bs;obtain⟨o1,o2,o3,o4,o5,o6⟩:=O;refine⟨h.past.below hb,?_,?_,?_,?_,?_,?_,Zz h.own hb⟩
 ·exact(hb.cell (by show ga<_;omega)).trans h.ca
 ·exact(hb.frozen (by show ga<_;omega)).trans h.fa
 ·exact(hb.cell (by show gf<_;omega)).trans h.cf
 ·exact(hb.frozen (by show gf<_;omega)).trans h.ff
 ·exact(hb.cell (by show gl<_;omega)).trans h.cl
 ·exact(hb.frozen (by show gl<_;omega)).trans h.fl
theorem PS.reach{r':Nat}(h:PS w bm gp ga gf gl base s r a f v l)(O:Ord B bm gp ga gf gl base)(hk:Keeps w w' base gp bm (λg=>v.ownBlock=some g))(hp:bC w' base gp bm (λg=>v.ownBlock=some g) s r'):PS w' bm gp ga gf gl base s r' a f v l:=by
 have hs:=h.bs;obtain⟨o1,o2,o3,o4,o5,o6⟩:=O;refine⟨hp,?_,?_,?_,?_,?_,?_,?_⟩
 ·exact(hk.cell (by show ga<_;omega) (by show ga≠_;omega) (by show ga≠_;omega) (.inl (by show ga<_;omega))).trans h.ca
 ·exact(hk.frozen (by show ga<_;omega) (by show ga≠_;omega) (by show ga≠_;omega) (.inl (by show ga<_;omega))).trans h.fa
 ·exact(hk.cell (by show gf<_;omega) (by show gf≠_;omega) (by show gf≠_;omega) (.inl (by show gf<_;omega))).trans h.cf
 ·exact(hk.frozen (by show gf<_;omega) (by show gf≠_;omega) (by show gf≠_;omega) (.inl (by show gf<_;omega))).trans h.ff
 ·exact(hk.cell (by show gl<_;omega) (by show gl≠_;omega) (by show gl≠_;omega) (.inl (by show gl<_;omega))).trans h.cl
 ·exact(hk.frozen (by show gl<_;omega) (by show gl≠_;omega) (by show gl≠_;omega) (.inl (by show gl<_;omega))).trans h.fl
 ·rcases h.own.2 with⟨e1,e2⟩|⟨g,cap,cur,rfl,hg,hh,hrest⟩
  ·exact⟨h.own.1,.inl ⟨e1,e2⟩⟩
  ·have hlt:=(aG.1 hh).1;exact⟨h.own.1,.inr ⟨g,cap,cur,rfl,hg,(hk.block g hlt (by omega) (by omega) (.inr rfl)).trans hh,hrest⟩⟩
theorem bC.other(h:bC w base gp bm No s r)(hg:w.grownBy w' (some g))(h1:g≠gp)(h2:g≠bm)(h3:g<base):bC w' base gp bm No s r:=by
 obtain⟨D,hm,ho,hsh,hr⟩:=h.map;have hlt:=nT h.gb h.bs;have hbm:bm<w.heap.size:=by obtain⟨es,clock,hb,_⟩:=ho;exact(aG.1 hb).1
 have hne:some gp≠some g:=by simp;exact λe=>h1 e.symm
 have hne2:some bm≠some g:=by simp;exact λe=>h2 e.symm
 exact⟨(hg.cell_far ⟨gp,0,none⟩ hlt hne).trans h.c0,(hg.cell_far ⟨gp,1,none⟩ hlt hne).trans h.c1,(hg.cell_far ⟨gp,2,none⟩ hlt hne).trans h.c2,(hg.frozen_far ⟨gp,2,none⟩ hlt hne).trans h.f2,h.gb,h.ne,nt h.bs hg.size,D,hm,
  ho.kept hg hne2 (ho.rowsAbove (λj hj=>by cases hj;exact h3)),hsh.kept hg hbm hne2,hr⟩
theorem xP(w:World)(g o:Nat)(u:Value):w.grownBy (w.setCell ⟨g,o,none⟩ u) (some g):=⟨rfl,rfl,rfl,by simp,λk _ h2=>Below.heap_setCell _ _ _ _ (λe=>h2 (by rw[e]))⟩
theorem nK(w:World)(p q:Addr)(u:Value)(h:p.block≠q.block):(w.setCell p u).cell? q=w.cell? q:=World.cell?_setCell_other w p q u (λe=>h (by rw[e]))
theorem PS.setAt(h:PS w bm gp ga gf gl base s r a f v l)(O:Ord B bm gp ga gf gl base)(a':Nat):PS (w.setCell ⟨ga,0,none⟩ (.int .i64 (a':Nat))) bm gp ga gf gl base s r a' f v l:=by
 obtain⟨o1,o2,o3,o4,o5,o6⟩:=O;have hg:=xP w ga 0 (.int .i64 (a':Nat));refine⟨h.past.other hg (by omega) (by omega) (by omega),cS w _ _ h.ca,?_,?_,?_,?_,?_,h.own.kept hg (.inr (λe=>by have:=(h.own.lt ga e).1;omega))⟩
 ·rw[World.frozen?_setCell];exact h.fa
 ·rw[nK _ _ _ _ (by show ga≠gf;omega)];exact h.cf
 ·rw[World.frozen?_setCell];exact h.ff
 ·rw[nK _ _ _ _ (by show ga≠gl;omega)];exact h.cl
 ·rw[World.frozen?_setCell];exact h.fl
theorem PS.setFrom(h:PS w bm gp ga gf gl base s r a f v l)(O:Ord B bm gp ga gf gl base)(f':Nat):PS (w.setCell ⟨gf,0,none⟩ (.int .i64 (f':Nat))) bm gp ga gf gl base s r a f' v l:=by
 obtain⟨o1,o2,o3,o4,o5,o6⟩:=O;have hg:=xP w gf 0 (.int .i64 (f':Nat));refine⟨h.past.other hg (by omega) (by omega) (by omega),?_,?_,cS w _ _ h.cf,?_,?_,?_,h.own.kept hg (.inr (λe=>by have:=(h.own.lt gf e).1;omega))⟩
 ·rw[nK _ _ _ _ (by show gf≠ga;omega)];exact h.ca
 ·rw[World.frozen?_setCell];exact h.fa
 ·rw[World.frozen?_setCell];exact h.ff
 ·rw[nK _ _ _ _ (by show gf≠gl;omega)];exact h.cl
 ·rw[World.frozen?_setCell];exact h.fl
theorem PS.laid{cp:Nat}(h:PS w bm gp ga gf gl base s r a f v l)(O:Ord B bm gp ga gf gl base)
 (hown:w'.ownsRow base 177 3 (.slice (some ⟨g,0,none⟩) (l.length+1) cp) (l.length+1) (tcs l++[.string t.lit,.int .i64 t.far,.int .i64 t.len])) (hg:w.grownBy w' v.ownBlock) (hat:v.ownBlock=some g\/w.heap.size<=g) :
 PS (w'.setCell ⟨gl,0,none⟩ (.slice (some ⟨g,0,none⟩) (l.length+1) cp)) bm gp ga gf gl base s r a f (.slice (some ⟨g,0,none⟩) (l.length+1) cp) (l++[t])/\w'.cell? ⟨gl,0,none⟩=some v/\w'.frozen? ⟨gl,0,none⟩=false:=by
 have hs:=h.bs;obtain⟨o1,o2,o3,o4,o5,o6⟩:=O;have uG:∀k,k<base->some k≠v.ownBlock:=λk hk e=>by have:=(h.own.lt k e.symm).1;omega
 have hlt:∀k,k<base->k<w.heap.size:=λk hk=>by omega
 have hc:∀k o,k<base->w'.cell? ⟨k,o,none⟩=w.cell? ⟨k,o,none⟩:=λk o hk=>hg.cell_far _ (hlt k hk) (uG k hk)
 have hf:∀k o,k<base->w'.frozen? ⟨k,o,none⟩=w.frozen? ⟨k,o,none⟩:=λk o hk=>hg.frozen_far _ (hlt k hk) (uG k hk)
 obtain⟨D,hm,ho,hsh,hr⟩:=h.past.map
 have hsh2:w.Shuns bm (λk=>(Value.slice (some ⟨g,0,none⟩) (l.length+1) cp).ownBlock=some k):=hsh.reno ho (λk hk=>by
  have e:g=k:=by simpa[Value.ownBlock]using hk
  subst e
  exact hat)
 have hp':bC w' base gp bm (λk=>(Value.slice (some ⟨g,0,none⟩) (l.length+1) cp).ownBlock=some k) s r :=
  ⟨(hc gp 0 h.past.gb).trans h.past.c0,(hc gp 1 h.past.gb).trans h.past.c1,(hc gp 2 h.past.gb).trans h.past.c2,(hf gp 2 h.past.gb).trans h.past.f2,h.past.gb,h.past.ne,nt hs hg.size,D,hm,
   ho.kept hg (uG bm (by omega)) (hsh.rowsOff (λj hj=>hj)),hsh2.kept hg (hlt bm (by omega)) (uG bm (by omega)),hr⟩
 have hg2:=xP w' gl 0 (.slice (some ⟨g,0,none⟩) (l.length+1) cp);have hcl:=(hc gl 0 o6).trans h.cl;refine⟨⟨hp'.other hg2 (by omega) (by omega) o6,?_,?_,?_,?_,cS w' _ _ hcl,?_,?_⟩,hcl,(hf gl 0 o6).trans h.fl⟩
 ·rw[nK _ _ _ _ (by show gl≠ga;omega)];exact(hc ga 0 (by omega)).trans h.ca
 ·rw[World.frozen?_setCell];exact(hf ga 0 (by omega)).trans h.fa
 ·rw[nK _ _ _ _ (by show gl≠gf;omega)];exact(hc gf 0 (by omega)).trans h.cf
 ·rw[World.frozen?_setCell];exact(hf gf 0 (by omega)).trans h.ff
 ·rw[World.frozen?_setCell];exact(hf gl 0 o6).trans h.fl
 ·rw[nI,List.length_append];exact hown.kept hg2 (.inr (λe=>by have:=(hown.lt gl e).1;omega))
end
theorem rH{c:Array Value}{t:TypeId}{fz:Nat×Nat}(h:w.heap[g]?=some (.cells c t fz))(x:Value):(w.setCell ⟨g,k,none⟩ x).heap[g]?=some (.cells (c.setIfInBounds k x) t fz):=by
 show(w.heap.modify g _)[g]?=_;rw[Array.getElem?_modify,ax rfl,h];rfl
theorem rI{q:Nat}(h:q≠g)(x:Value):(w.setCell ⟨q,k,none⟩ x).heap[g]?=w.heap[g]?:=by
 show(w.heap.modify q _)[g]?=_;rw[Array.getElem?_modify,ab h]
theorem bB.laid{cap:Nat}{bs:List Bool}{b:Bool}{t:Int}(hgb:gb<w.heap.size)(hc:w.heap[gb]?=some (.cells #[.slice (some ⟨g,0,none⟩) (iD bs).length cap,.int .i64 (bs.length:Nat)] 222 (0,0)))
 (hg:gb+1<=g) (ho:(w.setCell ⟨g,bs.length/8,none⟩ (.int .u8 t)).ownsRow (gb+1) 5 1 (.slice (some ⟨g,0,none⟩) (iD bs).length cap) (Wc (bs++[b])).length (cz (Wc (bs++[b])))) :
 bB (((w.setCell ⟨g,bs.length/8,none⟩ (.int .u8 t)).drew).setCell ⟨gb,1,none⟩ (.int .i64 ((bs.length:Nat)+1:Int))) gb (bs++[b]):=by
 refine⟨by simpa[World.setCell]using hgb,.slice (some ⟨g,0,none⟩) (iD bs).length cap,?_,?_⟩
 ·have h1:((w.setCell ⟨g,bs.length/8,none⟩ (.int .u8 t)).drew).heap[gb]?=some (.cells #[.slice (some ⟨g,0,none⟩) (iD bs).length cap,.int .i64 (bs.length:Nat)] 222 (0,0)):=by
   show(w.setCell ⟨g,bs.length/8,none⟩ (.int .u8 t)).heap[gb]?=_;rw[rI (by omega)];exact hc
  have h2:=rH (k:=1) h1 (.int .i64 ((bs.length:Nat)+1:Int));rw[h2];simp
 ·have ho2:((w.setCell ⟨g,bs.length/8,none⟩ (.int .u8 t)).drew).ownsRow (gb+1) 5 1 (.slice (some ⟨g,0,none⟩) (iD bs).length cap) (Wc (bs++[b])).length (cz (Wc (bs++[b]))):=ho;exact ownsRow_setCell_below ho2 (a:=⟨gb,1,none⟩) (by show gb<gb+1;omega) _
theorem Dg{bs:List Bool}(hgb:gb<w.heap.size)(hc:w.heap[gb]?=some (.cells #[v,.int .i64 (bs.length:Nat)] 222 (0,0)))
 (ho:w.ownsRow (gb+1) 5 1 v (iD bs).length (cz (iD bs))) (b:Bool) :
 ∃(g cap:Nat) (t x:Int),v=.slice (some ⟨g,0,none⟩) (bs.length/8+1) cap/\g≠gb/\w.cell? ⟨gb,0,none⟩=some (.slice (some ⟨g,0,none⟩) (bs.length/8+1) cap)/\w.cell? ⟨gb,1,none⟩=some (.int .i64 (bs.length:Nat)) ∧
  w.cell? ⟨g,bs.length/8,none⟩=some (.int .u8 x)/\w.frozen? ⟨g,bs.length/8,none⟩=false/\w.frozen? ⟨gb,1,none⟩=false/\0<=x/\x<=255 ∧
  Hid (bits BinOp.or IntKind.u8 x ((WE b:Nat)*2^(7-bs.length%8)%256)=t) ∧
  Hid (bB (((w.setCell ⟨g,bs.length/8,none⟩ (.int .u8 t)).drew).setCell ⟨gb,1,none⟩ (.int .i64 ((bs.length:Nat)+1:Int))) gb (bs++[b])) ∧
  Hid (∀a:World,Below gb a w->Below gb a (((w.setCell ⟨g,bs.length/8,none⟩ (.int .u8 t)).drew).setCell ⟨gb,1,none⟩ (.int .i64 ((bs.length:Nat)+1:Int)))):=by
 have hl:=xB bs;obtain⟨g,cap,rfl,hg,hgl,hcell,hfz,hset⟩:=CJ ho (by intro e;rw[e]at hl;simp at hl);have hn:bs.length=8*(bs.length/8)+bs.length%8:=by omega
 have hb:=xA bs b (bs.length/8) (bs.length%8) (by omega) hn;have hlt:=Cd.Cy bs (bs.length/8);obtain⟨hf1,hf2⟩:=JM (b:=b) (show bs.length%8<8 by omega) hlt hb.2;have hx:=hcell (bs.length/8) _ (Cd.Cz bs (by omega));have e8:∀n,n<256->(UInt8.ofNat n).toNat=n:=λn h=>by simp;omega
 rw[e8 _ hlt]at hx;have hs:=hset (bs.length/8) (UInt8.ofNat (Cd.eI bs (bs.length/8)+WE b*2^(7-bs.length%8))) (by omega);rw[<-JK bs b,e8 _ hf2]at hs;have hc':=hc;refine⟨g,cap,_,_,by rw[hl],by omega,?_,?_,hx,hfz _,by simp[World.frozen?,hc],by omega,by omega,hf1,bB.laid hgb hc' hg hs,λa ha=>?_⟩
 ·rw[cell_of_row w gb 0 _ _ _ hc,<-hl];rfl
 ·rw[cell_of_row w gb 1 _ _ _ hc];rfl
 ·exact((ha.setCell (p:=⟨g,bs.length/8,none⟩) (by show gb<=g;omega) _).drew).setCell (p:=⟨gb,1,none⟩) (nl _) _
theorem Ks{wr w1:World}{b2:List Bool}{v':Value}{o:Obj}(hgb:gb<wr.heap.size)(hc:wr.heap[gb]?=some (.cells #[v,.int .i64 (b2.length:Nat)] 222 (0,0)))
 (ho:wr.ownsRow (gb+1) 5 1 v (Wc b2).length (cz (Wc b2))) (hr:b2.length%8=0) (hown:w1.ownsRow (gb+1) 5 1 v' ((Wc b2).length+1) (cz (Wc b2)++[.int .u8 0])) (hg:(wr.alloc o).grownBy w1 v.ownBlock)
 (G:Below gb a wr) (b:Bool) :
 w1.cell? ⟨gb,0,none⟩=some v/\w1.frozen? ⟨gb,0,none⟩=false/\Hid (Below gb a (w1.setCell ⟨gb,0,none⟩ v'))/\∃(g cap:Nat) (t x:Int),v'=.slice (some ⟨g,0,none⟩) (b2.length/8+1) cap/\g≠gb/\(w1.setCell ⟨gb,0,none⟩ v').cell? ⟨gb,0,none⟩=some (.slice (some ⟨g,0,none⟩) (b2.length/8+1) cap)/\(w1.setCell ⟨gb,0,none⟩ v').cell? ⟨gb,1,none⟩=some (.int .i64 (b2.length:Nat)) ∧
  (w1.setCell ⟨gb,0,none⟩ v').cell? ⟨g,b2.length/8,none⟩=some (.int .u8 x)/\(w1.setCell ⟨gb,0,none⟩ v').frozen? ⟨g,b2.length/8,none⟩=false/\(w1.setCell ⟨gb,0,none⟩ v').frozen? ⟨gb,1,none⟩=false/\0<=x/\x<=255 ∧
  Hid (bits BinOp.or IntKind.u8 x ((WE b:Nat)*2^(7-b2.length%8)%256)=t) ∧
  Hid (bB ((((w1.setCell ⟨gb,0,none⟩ v').setCell ⟨g,b2.length/8,none⟩ (.int .u8 t)).drew).setCell ⟨gb,1,none⟩ (.int .i64 ((b2.length:Nat)+1:Int))) gb (b2++[b])) ∧
  Hid (∀a:World,Below gb a (w1.setCell ⟨gb,0,none⟩ v')->Below gb a ((((w1.setCell ⟨gb,0,none⟩ v').setCell ⟨g,b2.length/8,none⟩ (.int .u8 t)).drew).setCell ⟨gb,1,none⟩ (.int .i64 ((b2.length:Nat)+1:Int)))):=by
 have hne:some gb≠v.ownBlock:=λe=>by have:=(ho.lt gb e.symm).1;omega
 have hblk:w1.heap[gb]?=wr.heap[gb]?:=by
  rw[hg.block gb (by simp;omega) hne];exact((bR wr.heap.size wr).alloc (nl _) o).block gb hgb
 have hc1:=hblk.trans hc;have hB1:=(G.alloc (nL hgb) o).grown hg (by simp;omega) (λk hk=>by have:=(ho.lt k hk).1;omega);have xQ:=(aG.1 hc1).1;refine⟨by rw[cell_of_row w1 gb 0 _ _ _ hc1];rfl,by simp[World.frozen?,hc1],hB1.setCell (p:=⟨gb,0,none⟩) (nl _) _,?_⟩;have hp1:iD b2=Wc b2++[0]:=by unfold iD;rw[ax hr]
 have hc2:=rH (k:=0) hc1 v';refine Dg (w:=w1.setCell ⟨gb,0,none⟩ v') (v:=v') (by simpa[World.setCell]using xQ) (by rw[hc2];rfl) ?_ b;refine ownsRow_setCell_below (a:=⟨gb,0,none⟩) ?_ (by show gb<gb+1;omega) _;rw[hp1,List.length_append,uo];exact hown
theorem Dh(gb:Nat)(bs:List Bool)(word:Int)(n:Nat)(w:World)(hB:bB w gb bs)(h0:0<=word)(h1:word<=1048576)(hn:n<=15)(hl:bs.length<=40000) :
 Calls prog 215 #[.pointer (some ⟨gb,0,none⟩),.int .i64 word,.int .i64 (n:Int)] w λe w'=>e=.returned (.tuple #[])/\Below gb w w'/\bB w' gb (bs++WN word n):=by
 obtain⟨i0,hi,hz0,hz1,hz2⟩:=info_parts oq;have hn':(n:Int)<=15:=by omega
 go_enter func215,ntmps215
 go_wp2_with fail
 go_loopw [6] (λi wr=>∃(k:Nat) (K:Int) (b2:List Bool),i=.int .i64 K/\Hid (K=(k:Int)-1)/\k<=n/\Hid (b2++WN word k=bs++WN word n)/\b2.length<=40015/\bB wr gb b2/\Below gb w wr) (λi _=>(intOf i+1).toNat)
 case atStart=>exact⟨n,(n:Int)-1,bs,by go_num,rfl,nl _,rfl,by omega,hB,bR _ _⟩
 case round =>
  clear hB;obtain⟨k,K,b2,rfl,HK,hk,hE,hb2,hB,G⟩:=hrel
  cases k with
  |zero =>
   obtain rfl:K=-1:=by have:=HK.out;omega
   have hE':b2=bs++WN word n:=by have:=hE.out;rwa [WN,List.append_nil]at this
   subst hE';go_wp2_with fail
   go_end0
   exact⟨rfl,G,hB⟩
  |succ k =>
   have xR:K=k:=by have:=HK.out;omega
   have hK0:0<=K:=by omega
   have hK1:K<=14:=by omega
   have dK:decide (0<=K)=true:=by simpa using hK0
   have HE2:Hid ((b2++[decide (word/2^k%2=1)])++WN word k=bs++WN word n):=by
    have:=hE.out;rw[WN]at this;show _=_;rw[<-this,List.append_assoc];rfl
   have UH:=JL h0 h1 xR;obtain⟨hgb,v,hc,ho⟩:=hB;have iM:=Za xR;have Hk:Hid (k<=n):=by show _<=_;omega
   obtain⟨N,hN⟩:∃N:Nat,b2.length=N:=⟨_,rfl⟩
   have UI:(N:Int).tmod 8=(N%8:Nat):=by rw[Int.tmod_eq_emod_of_nonneg (by omega)];omega
   have UJ:(N:Int).tdiv 8=(N/8:Nat):=by rw[Int.tdiv_eq_ediv_of_nonneg (by omega)];omega
   clear xR HK hE;by_cases hr:b2.length%8=0
   ·have d0:(((N%8:Nat):Int)==0)=true:=by simp;omega
    have hlen:(Wc b2).length<=6000:=by rw[lH];omega
    have xS:=Za hN;have hNb:N<=40015:=by omega
    have hv0:wr.cell? ⟨gb,0,none⟩=some v:=by rw[cell_of_row wr gb 0 _ _ _ hc];rfl
    have hv1:wr.cell? ⟨gb,1,none⟩=some (.int .i64 (N:Nat)):=by rw[cell_of_row wr gb 1 _ _ _ hc,<-hN];rfl
    have hle:gb+1<=(wr.alloc (.cells #[.int .u8 0] 5)).heap.size:=by simp;omega
    have Hc:=Za hc;have Hr:=Za hr;clear hN hr hc;go_wp2_with (at_builtin;go_must (refine wpList_append_own _ rfl _ _ 29 rfl (gb+1) 5 i0 (.int .u8 0) 1 1 gE hi hz0 hz1 hz2 rfl (by decide) _ _ _ rfl (ho.alloc _) ⟨wr.heap.size,0,none⟩ 1 1 [.int .u8 0] rfl rfl (cell_one_new _ _ _) (nz _) (fb (by omega)) (by omega) hle ?_;intro v' w1 hown' hgrow _;obtain⟨y1,y2,y3,g,cap,t,x,rfl,q1,q2,q3,q4,q5,q6,q7,q8,Q1,Q2,Q3⟩:=Ks hgb Hc.out ho Hr.out hown' hgrow G (decide (word/2^k%2=1));have HB3:=Q3.out w y3.out;rw[xS.out]at q2 q3 q4 q5 q6 Q1 Q2 HB3))
    rw[xS.out];have xT:=Q2;have xU:=Q1.out;generalize w1.setCell ⟨gb,0,none⟩ (.slice (some ⟨g,0,none⟩) (N/8+1) cap)=wq at*
    have z1:((wq.setCell ⟨g,N/8,none⟩ (.int .u8 t)).drew).cell? ⟨gb,1,none⟩=some (.int .i64 (N:Nat)):=by
     show(wq.setCell ⟨g,N/8,none⟩ (.int .u8 t)).cell? ⟨gb,1,none⟩=_;rw[nK _ _ _ _ (by exact q1)];exact q3
    have z2:((wq.setCell ⟨g,N/8,none⟩ (.int .u8 t)).drew).frozen? ⟨gb,1,none⟩=false:=by
     show(wq.setCell ⟨g,N/8,none⟩ (.int .u8 t)).frozen? ⟨gb,1,none⟩=_;rw[World.frozen?_setCell];exact q6
    have HLn:Hid (b2.length+1<=40015):=by
     have:=congrArg List.length HE2.out;simp[nG]at this;show _<=_;omega
    generalize WE (decide (word/2^k%2=1))=bb at*;clear Q1 Q2 Q3 y1 y2 y3 hv0 hv1 ho hown' hgrow hlen hle;go_wp2_with fail
    go_region
    go_wp2_with fail
    go_roundw
    case rel=>exact⟨k,K-1,b2++[decide (word/2^k%2=1)],by go_num,by have:=iM.out;show _=_;omega,Hk.out,HE2,by have:=HLn.out;simp;omega,xT.out,HB3⟩
    case measure=>simp[intOf];omega
   ·have hp1:iD b2=Wc b2:=by unfold iD;rw[ab hr]
    rw[<-hp1]at ho;obtain⟨g,cap,t,x,rfl,q1,q2,q3,q4,q5,q6,q7,q8,Q1,Q2,Q3⟩:=Dg hgb hc ho (decide (word/2^k%2=1));clear hp1 ho hc;have HB3:=Q3.out w G;rw[hN]at q2 q3 q4 q5 Q1 Q2 HB3;have xT:=Za Q2.out;have d0:(((N%8:Nat):Int)==0)=false:=by simp;omega
    have HLn:Hid (b2.length+1<=40015):=by
     have:=congrArg List.length HE2.out;simp[nG]at this;show _<=_;omega
    have xU:=Q1.out;generalize WE (decide (word/2^k%2=1))=bb at*;clear Q1 Q2 Q3;have hNb:N<=40015:=by omega
    have xS:=Za hN;clear hN hr
    have z1:((wr.setCell ⟨g,N/8,none⟩ (.int .u8 t)).drew).cell? ⟨gb,1,none⟩=some (.int .i64 (N:Nat)):=by
     show(wr.setCell ⟨g,N/8,none⟩ (.int .u8 t)).cell? ⟨gb,1,none⟩=_;rw[nK _ _ _ _ (by exact q1)];exact q3
    have z2:((wr.setCell ⟨g,N/8,none⟩ (.int .u8 t)).drew).frozen? ⟨gb,1,none⟩=false:=by
     show(wr.setCell ⟨g,N/8,none⟩ (.int .u8 t)).frozen? ⟨gb,1,none⟩=_;rw[World.frozen?_setCell];exact q6
    go_wp2_with fail
    go_region
    go_wp2_with fail
    go_roundw
    case rel=>exact⟨k,K-1,b2++[decide (word/2^k%2=1)],by go_num,by have:=iM.out;show _=_;omega,Hk.out,HE2,by have:=HLn.out;simp;omega,xT.out,HB3⟩
    case measure=>simp[intOf];omega
namespace Cd
theorem xV(f:Nat->Int)(n:Int)(x:Int×(Nat->Int))(M:Int)(h0:0<=x.1)(h1:x.1+16<=M)(hx:∀i,0<=x.2 i/\x.2 i<=M):∀k,k<=16->∀i,0<=(wI f n x k).2 i/\(wI f n x k).2 i<=M:=by
 intro k
 induction k with
 |zero=>intro _;exact hx
 |succ k ih =>
  intro hk i;have hb:=kE f n x k;have:=ih (by omega) i;rw[wI];split
  ·simp only;unfold upd;split
   ·omega
   ·exact this
  ·exact this
theorem xW(f:Nat->Int):∀n,n<=15->∀i,0<=(wO f n).2 i/\(wO f n).2 i<=1048576:=by
 intro n
 induction n with
 |zero=>intro _ i;simp[wO]
 |succ n ih =>
  intro hn;have hb:=eV f n;have h2:(2:Int)^n<=2^14:=rb (by omega);rw[wO];exact xV f _ ((wO f n).1*2,(wO f n).2) 1048576 (show 0<=(wO f n).1*2 by omega) (show(wO f n).1*2+16<=1048576 by omega) (ih (by omega)) 16 (nl _)
theorem rJ(f:Nat->Int)(i:Nat):0<=VM f i/\VM f i<=1048576:=xW f 15 (Nat.le_refl _) i
def VR(f:Nat->Int)(s:Nat):List Bool:=WN (VM f s) (f s).toNat
def at8(s:ByteArray)(k:Nat):Nat:=(s.data.toList[k]?.getD 0).toNat
theorem Xf(s:ByteArray)(k:Nat):at8 s k<256:=(s.data.toList[k]?.getD 0).toNat_lt
def Yd(f:Nat->Int)(s:ByteArray):Nat->Option (List Bool)
 |0=>some []
 |k+1=>match Yd f s k with
  |none=>none
  |some bs=>if f (at8 s k/16)=0\/f (at8 s k%16)=0 then none else some (bs++VR f (at8 s k/16)++VR f (at8 s k%16))
theorem Kt(h:Yd f s k=none):∀j,Yd f s (k+j)=none:=by
 intro j
 induction j with
 |zero=>exact h
 |succ j ih=>rw[<-Nat.add_assoc,Yd,ih]
theorem xX{bs:List Bool}(h:Yd f s k=some bs)(h1:¬(f (at8 s k/16)=0\/f (at8 s k%16)=0)):Yd f s (k+1)=some (bs++VR f (at8 s k/16)++VR f (at8 s k%16)):=by
 rw[Yd,h];simp only;rw[ab h1]
theorem Di{bs:List Bool}(hk:k<n)(h:Yd f s k=some bs)(h1:f (at8 s k/16)=0\/f (at8 s k%16)=0):Yd f s n=none:=by
 have:Yd f s (k+1)=none:=by rw[Yd,h];simp only;rw[ax h1]
 have h2:=Kt this (n-(k+1))
 rwa [show k+1+(n-(k+1))=n by omega]at h2
theorem rM(h:Wk f 15 16){i:Nat}(hi:i<16):(VR f i).length<=15:=by
 rw[VR,nG];have:=h i hi;omega
theorem pV(h:Wk f 15 16):∀k bs,Yd f s k=some bs->bs.length<=30*k:=by
 intro k
 induction k with
 |zero=>intro bs h;simp[Yd]at h;subst h;simp
 |succ k ih =>
  intro bs hb;rw[Yd]at hb;have hlt:=Xf s k
  cases hq:Yd f s k with
  |none=>rw[hq]at hb;simp at hb
  |some b2 =>
   rw[hq]at hb;simp only at hb;split at hb
   ·simp at hb
   ·simp only[Option.some.injEq]at hb;subst hb;have h1:=ih b2 hq;have h2:=rM h (i:=at8 s k/16) (by omega);have h3:=rM h (i:=at8 s k%16) (by omega);simp only[List.length_append];omega
def VO(f:Nat->Int)(s:ByteArray):ByteArray×Int :=
 if Wj f≠0 then(⟨#[]⟩,Wj f) else if 1024<s.size then(⟨#[]⟩,2) else match Yd f s s.size with|none=>(⟨#[]⟩,5)|some bs=>(⟨(Wc bs).toArray⟩,0)
end Cd
theorem bB.below{bs:List Bool}(h:bB w gb bs)(hb:ae w w'):bB w' gb bs:=by
 obtain⟨h1,v,h2,h3⟩:=h;refine⟨nT h1 hb.size,v,by rw[hb.block gb h1];exact h2,?_⟩;refine⟨h3.1,?_⟩;rcases h3.2 with h|⟨g,cap,cur,rfl,e1,e2,e3⟩
 ·exact .inl h
 ·exact .inr ⟨g,cap,cur,rfl,e1,by rw[hb.block g (Array.getElem?_eq_some_iff.1 e2).1];exact e2,e3⟩
theorem Ku(w:World):bB (w.alloc (.cells #[.slice none 0 0,.int .i64 0] 222)) w.heap.size [] :=
 ⟨by simp,.slice none 0 0,heap_alloc_last w _,World.ownsRow_nil _ _ _ _⟩
theorem ai.keep{B:Nat}(h:ai w g f)(hb:Below B w w')(hg:g<B):ai w' g f:=⟨Nat.lt_of_lt_of_le h.1 hb.size,by rw[hb.block g hg];exact h.2⟩
theorem Kv(f:Nat->Int)(s:ByteArray)(w:World)(h0:Wj f=0)(hs:s.size<=1024) :
 CB 185 #[.agg (arr f),.string s] w (.tuple #[.string (VO f s).1,.int .i64 (VO f s).2]):=by
 have hck:=λw=>pO f w
 rw[h0]at hck;have hwd:=λw=>Cw f w
 have hin:=Zh f;have iN:=Zh (VM f);have hR:=Za ((Yc h0).1);have h0':=Za h0;have hs':(s.size:Int)<=1024:=by omega
 have ds:=dF (by omega:¬(1024<(s.size:Int)));have R1:=ai.new w f;have HB:ae w (w.alloc (.cells (arr f) 142)):=(bR _ _).alloc (nl _) _
 obtain⟨r1,r2,hr⟩:∃r1 r2,VO f s=(r1,r2):=⟨_,_,rfl⟩
 rw[hr];have Hr:=Za hr;clear hr h0;go_enter func185,ntmps185
 go_wp2_with (refine wpList_load_row rfl 142 _ rfl w.heap.size rfl 142 (arr f) (0,0) _ R1.2 aF rfl hin ?_)
 refine mo (hck _) λw1 G1=>?_
 have S1:=R1.below G1;have B1:=ag HB G1;clear R1 HB G1 hck;go_wp2_with (refine wpList_load_row rfl 142 _ rfl w.heap.size rfl 142 (arr f) (0,0) _ S1.2 aF rfl hin ?_)
 refine mo (hwd _) λw2 G2=>?_
 have T1:=S1.below G2;have B2:=ag B1 G2;clear S1 B1 G2 hwd;go_wp2_with (refine wpList_store_row rfl 142 _ _ rfl w2.heap.size (arr (VM f)) rfl rfl 142 _ (heap_alloc_last w2 _) iN rfl (bj _) ?_;rw[World.setRow_alloc_new])
 have T7:=(ai.new w2 (VM f)).alloc (.cells #[.slice none 0 0,.int .i64 0] 222);have T2:=(T1.alloc (.cells (arr (VM f)) 142)).alloc (.cells #[.slice none 0 0,.int .i64 0] 222);have TB:=Ku (w2.alloc (.cells (arr (VM f)) 142));have B3:ae w ((w2.alloc (.cells (arr (VM f)) 142)).alloc (.cells #[.slice none 0 0,.int .i64 0] 222)):=(B2.alloc (nL T1.1) _).alloc (by have:=T1.1;simp;omega) _;have rO:(w2.alloc (.cells (arr (VM f)) 142)).heap.size=w2.heap.size+1:=by simp
 rw[rO]at TB
 have hq:Hid (w.heap.size<w2.heap.size/\w2.heap.size<w2.heap.size+1):=⟨T1.1,by omega⟩
 clear rO T1 B2;generalize (w2.alloc (.cells (arr (VM f)) 142)).alloc (.cells #[.slice none 0 0,.int .i64 0] 222)=w3 at*;generalize w2.heap.size+1=gb at*;generalize w2.heap.size=g7 at*;go_loopw [24] (λi wr=>∃(k:Nat) (bs:List Bool),k<=s.size/\i=.int .i64 k/\Hid (Yd f s k=some bs)/\ai wr w.heap.size f/\ai wr g7 (VM f)/\bB wr gb bs/\ae w wr) (λi _=>s.size-(intOf i).toNat)
 case atStart=>exact⟨0,[],by omega,rfl,rfl,T2,T7,TB,B3⟩
 case round =>
  clear T2 T7 TB B3;obtain⟨k,bs,hk,rfl,hW,T2,T7,TB,B3⟩:=hrel;by_cases hlt:k<s.size
  ·have hk1:=al (by omega:(k:Int)<(s.size:Int));have hk2:=al (by omega:k<s.size)
   obtain⟨x,hx⟩:∃x:Int,(s[k].toNat:Int)=x:=⟨_,rfl⟩
   have hA:Cd.at8 s k=s[k].toNat:=by unfold Cd.at8;rw[ZX s k hlt];rfl
   have hA2:=Xf s k;have hx0:0<=x:=by omega
   have hx1:x<=255:=by omega
   obtain⟨H,hH⟩:∃H,Cd.at8 s k/16=H:=⟨_,rfl⟩
   obtain⟨L,hL⟩:∃L,Cd.at8 s k%16=L:=⟨_,rfl⟩
   have e1:x/16=(H:Int):=by omega
   have e2:x%16=(L:Int):=by omega
   have e3:x.tdiv 16=(H:Int):=by rw[Int.tdiv_eq_ediv_of_nonneg hx0];exact e1
   have e4:x.tmod 16=(L:Int):=by rw[Int.tmod_eq_emod_of_nonneg hx0];exact e2
   have hH1:H<16:=by omega
   have hL1:L<16:=by omega
   have hH2:(H:Int)<16:=by omega
   have hL2:(L:Int)<16:=by omega
   have HN:Hid (¬(f H=0\/f L=0)->Yd f s (k+1)=some (bs++VR f H++VR f L)):=λh=>by have:=xX hW.out (by rw[hH,hL];exact h);rw[hH,hL]at this;exact this
   have HS:Hid (f H=0\/f L=0->r1=⟨#[]⟩/\r2=5):=λh=>by
    have h9:VO f s=(⟨#[]⟩,5):=by
     rw[VO,ab (λh=>h h0'.out),ab (by omega),Di hlt hW.out (by rw[hH,hL];exact h)]
    have h8:=Hr.out.symm.trans h9;simpa using h8
   have Hlen:Hid (bs.length<=30720):=by have:=pV hR.out k bs hW.out;show _<=_;omega
   clear hA hA2 hH hL e1 e2;have c1:=T2.cell H hH1;have c2:=T2.cell L hL1;have c3:=T7.cell H hH1;have c4:=T7.cell L hL1;have uH:=hR.out H hH1;have uI:=hR.out L hL1;have rP:=rJ f H;have rQ:=rJ f L;by_cases hz:f H=0
   ·obtain⟨rfl,rfl⟩:=HS.out (.inl hz);rw[hz]at c1;clear hz c2 c3 c4 uH uI rP rQ;go_wp2_with fail
    go_quiet (fail)
    go_wp2_with fail
    go_ret2
    exact⟨rfl,below_drewN B3 _⟩
   ·have d1:(f H==0)=false:=by simpa using hz
    by_cases hy:f L=0
    ·obtain⟨rfl,rfl⟩:=HS.out (.inr hy);rw[hy]at c2;clear hz hy c3 c4 uH uI rP rQ;go_wp2_with fail
     go_quiet (fail)
     go_wp2_with fail
     go_ret2
     exact⟨rfl,below_drewN B3 _⟩
    ·have d2:(f L==0)=false:=by simpa using hy
     have cK:=Za (HN.out (λh=>h.elim hz hy));clear hz hy HS HN;go_wp2_with fail
     go_quiet (fail)
     go_wp2_with fail
     have U2:=T2.below (below_drewN (bR wr.heap.size wr) nq);have U7:=T7.below (below_drewN (bR wr.heap.size wr) nq);have UB:=TB.below (below_drewN (bR wr.heap.size wr) nq);have B4:=below_drewN B3 nq;clear T2 T7 TB B3 c1 c2 c3 c4;generalize wr.drewN nq=wq at*;have c1:=U2.cell H hH1;have c3:=U7.cell H hH1
     have Dj:∀w,bB w gb bs->Calls prog 215 #[.pointer (some ⟨gb,0,none⟩),.int .i64 (VM f H),.int .i64 (f H)] w λe w'=>e=.returned (.tuple #[])/\Below gb w w'/\bB w' gb (bs++VR f H):=λw h=>by
      have h9:=Dh gb bs (VM f H) (f H).toNat w h rP.1 rP.2 (by omega) (by have:=Hlen.out;omega);rw[Int.toNat_of_nonneg uH.1]at h9;exact h9
     have hpL:∀w,bB w gb (bs++VR f H)->Calls prog 215 #[.pointer (some ⟨gb,0,none⟩),.int .i64 (VM f L),.int .i64 (f L)] w λe w'=>e=.returned (.tuple #[])/\Below gb w w'/\bB w' gb (bs++VR f H++VR f L):=λw h=>by
      have h9:=Dh gb (bs++VR f H) (VM f L) (f L).toNat w h rQ.1 rQ.2 (by omega) (by have:=Hlen.out;have:=rM hR.out hH1;simp;omega);rw[Int.toNat_of_nonneg uI.1]at h9;exact h9
     generalize VR f H=CH at*;generalize VR f L=CL at*;generalize f H=fH at*
     have hcL:∀w',ai w' w.heap.size f->ai w' g7 (VM f)->w'.cell? ⟨w.heap.size,L,none⟩=some (.int .i64 (f L))/\w'.cell? ⟨g7,L,none⟩=some (.int .i64 (VM f L)):=λw' r1 r2=>⟨r1.cell L hL1,r2.cell L hL1⟩
     generalize VM f H=wH at*;have Kw:=Za hcL;clear hcL rP uH rQ uI;have hq7:=hq.out.2;have pW:=Nat.lt_trans hq.out.1 hq.out.2;go_region_held3 (λw'=>w'.cell? ⟨g7,H,none⟩=some (.int .i64 wH)/\w'.cell? ⟨w.heap.size,H,none⟩=some (.int .i64 fH)) (first|(go_keep;done)|(exact⟨(G4.cell (by exact hq7)).trans c3,(G4.cell (by exact pW)).trans c1⟩)|(exact⟨by assumption,by assumption⟩)) (first|(go_at_call 215;refine(Dj _ (by exact UB)).mono ?_;rintro e w4 ⟨rfl,G4,Z4⟩))
     have nM:=((bR gb wq).drew).trans G4;have V2:=U2.keep nM pW;have V7:=U7.keep nM hq7;have B5:=B4.trans (nM.mono (nL pW));clear U2 U7 UB B4 G4 nM c1 c3 Dj;obtain⟨c2,c4⟩:=Kw.out w4 V2 V7;generalize f L=fL at*;generalize VM f L=wL at*;go_wp2_with fail
     go_region_held3 (λw'=>w'.cell? ⟨g7,L,none⟩=some (.int .i64 wL)/\w'.cell? ⟨w.heap.size,L,none⟩=some (.int .i64 fL)) (first|(go_keep;done)|(exact⟨(G6.cell (by exact hq7)).trans c4,(G6.cell (by exact pW)).trans c2⟩)|(exact⟨by assumption,by assumption⟩)) (first|(go_at_call 215;refine(hpL _ (by exact Z4)).mono ?_;rintro e w6 ⟨rfl,G6,Z6⟩))
     have uJ:=((bR gb w4).drew).trans G6;have X2:=V2.keep uJ pW;have X7:=V7.keep uJ hq7;have B6:=B5.trans (uJ.mono (nL pW));clear V2 V7 B5 G6 uJ c2 c4 hpL;go_wp2_with fail
     go_roundw
     case rel=>exact⟨k+1,_,by omega,by go_num,cK,X2,X7,Z6,B6⟩
     case measure=>simp[intOf];omega
  ·obtain rfl:k=s.size:=by omega
   have h9:VO f s=(⟨(Wc bs).toArray⟩,0):=by
    rw[VO,ab (λh=>h h0'.out),ab (by omega),hW.out]
   have h8:=Hr.out.symm.trans h9;simp only[Prod.mk.injEq]at h8;obtain⟨rfl,rfl⟩:=h8;obtain⟨hgb,v,hc,ho⟩:=TB;have hcv:=pJ (l:=Wc bs) ho;have hv0:wr.cell? ⟨gb,0,none⟩=some v:=by rw[cell_of_row wr gb 0 _ _ _ hc];rfl
   clear h9 ho hc;go_wp2_with fail
   go_ret2
   exact⟨rfl,B3⟩
theorem Kx(f:Nat->Int)(s:ByteArray)(w:World)(hs0:s.size<=140737488355328) :
 CB 185 #[.agg (arr f),.string s] w (.tuple #[.string (VO f s).1,.int .i64 (VO f s).2]):=by
 by_cases h0:Wj f=0
 ·by_cases hs:s.size<=1024
  ·exact Kv f s w h0 hs
  ·have h9:VO f s=(⟨#[]⟩,2):=by rw[VO,ab (λh=>h h0),ax (by omega)]
   rw[h9];have hck:=λw=>pO f w
   rw[h0]at hck;have hin:=Zh f;have hs':1024<(s.size:Int):=by omega
   have ds:=al (by omega:1024<(s.size:Int));have R1:=ai.new w f;have HB:ae w (w.alloc (.cells (arr f) 142)):=(bR _ _).alloc (nl _) _;clear h9 hs h0;go_enter func185,ntmps185
   go_wp2_with (refine wpList_load_row rfl 142 _ rfl w.heap.size rfl 142 (arr f) (0,0) _ R1.2 aF rfl hin ?_)
   refine mo (hck _) λw1 G1=>?_
   have B1:=ag HB G1;clear R1 HB G1 hck;go_wp2_with fail
   go_ret2
   exact⟨rfl,B1⟩
 ·have h9:VO f s=(⟨#[]⟩,Wj f):=by rw[VO,ax h0]
  rw[h9];have hck:=λw=>pO f w
  have hin:=Zh f;have R1:=ai.new w f;have HB:ae w (w.alloc (.cells (arr f) 142)):=(bR _ _).alloc (nl _) _;generalize Wj f=E at*;have d0:(E != 0)=true:=by simpa using h0
  clear h9 h0;go_enter func185,ntmps185
  go_wp2_with (refine wpList_load_row rfl 142 _ rfl w.heap.size rfl 142 (arr f) (0,0) _ R1.2 aF rfl hin ?_)
  refine mo (hck _) λw1 G1=>?_
  have B1:=ag HB G1;clear R1 HB G1 hck;go_wp2_with fail
  go_ret2
  exact⟨rfl,B1⟩
end Go.Proofs.YtbjbjbpgmojcbacGreatDoor
