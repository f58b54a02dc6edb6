/- A part of the proof: what it leans on. -/
import Derived.Lib.Strings
import Derived.Deep.DrawnRows
import Derived.Test.YtbjbjbpgmojcbacGreatLk06
set_option maxRecDepth 4000
set_option maxHeartbeats 4000000
namespace Go.Proofs.YtbjbjbpgmojcbacGreat
open Go.RowKit Go.Maps Go.ChangeShapes
theorem ZlK {w:World} {base gp bm r:Nat} {No:Nat->Prop} {s k:ByteArray} (h:PastAt w base gp bm No s r) (hr:r<1000000) (hk:k.size<=maxLen) :
 ∃ ad cap,(∀ w',w'.heap[bm]?=w.heap[bm]?->(Instr.lookup 141 (.map (some bm)) (.string k) false).run Tryz.prog w'=.ok (.slice ad (Tk.plc s.data.toList k.data.toList r).length cap) w') ∧
  (Tk.plc s.data.toList k.data.toList r=[]\/∃ g,ad=some ⟨g,0,none⟩/\∀ i p,(Tk.plc s.data.toList k.data.toList r)[i]?=some p->w.cell? ⟨g,i,none⟩=some (.int .i64 (p:Nat))):=by
 obtain ⟨D,hm,ho,hsh,hrd⟩:=h.map;have hr2:r<maxLen:=by unfold maxLen;omega
 obtain ⟨v,zs,hrun,hat,hoi,hzl,hback⟩:=ho.at slaw U141 (Zbs w) hr2 (skey k hk);have hz:zs=(Tk.plc s.data.toList k.data.toList r).map (fun p:Nat=>(p:Int)):=ZjH ((ZeB hoi).symm.trans ((congrArg Znv hat).symm.trans (hrd k.data.toList)));subst hz
 have hrun':∀ w',w'.heap[bm]?=w.heap[bm]?->(Instr.lookup 141 (.map (some bm)) (.string k) false).run Tryz.prog w'=.ok v w':=fun w' hw'=>by
  obtain ⟨es,clock,hb,F,_⟩:=ho;exact Zhj slaw U141 (Zbs w) (Zbs w') hb hw' F (skey k hk) hrun
 rcases hoi.1.2 with ⟨rfl,h0⟩ | ⟨g,cap,cur,rfl,_⟩
 ·have h1:Tk.plc s.data.toList k.data.toList r=[]:=List.eq_nil_of_length_eq_zero (by simpa using h0);refine ⟨none,0,fun w' hw'=>?_,.inl h1⟩;rw [h1];exact hrun' w' hw'
 ·refine ⟨some ⟨g,0,none⟩,cap,fun w' hw'=>?_,.inr ⟨g,rfl,fun i p hp=>?_⟩⟩
  ·have:=hrun' w' hw';simpa using this
  ·have hi:i<(Tk.plc s.data.toList k.data.toList r).length:=(List.getElem?_eq_some_iff.1 hp).1;have:=hoi.1.cellAt i (by simpa using hi);rw [this];simp [hp]
theorem ZdD (s:ByteArray) (i j:Int) (a b:Nat) (hi:i=(a:Int)) (hj:j=(b:Int)) (hab:a<=b) (hb:b<=s.size) (w:World):(Instr.slice 9 (.string s) (some (.int .i64 i)) (some (.int .i64 j)) none).run Tryz.prog w=.ok (.string (s.extract a b)) w:=by
 subst hi hj;have:=run_slice_string (P:=Tryz.prog) w 9 s .i64 .i64 (a:Int) (b:Int) U9 (by omega) (by omega) (by omega);simpa using this
theorem Zfy (gp:Nat) (s:ByteArray) (a:Nat) (w:World) (hc:w.cell? ⟨gp,0,none⟩=some (.string s)) (hs:s.size<=2000) (hm:s.size<a+3) (ha:a<=s.size) :
 Calls Tryz.prog 117 #[.pointer (some ⟨gp,0,none⟩),.int .i64 a] w fun e w'=>e=.returned (.tuple #[.int .i64 0,.int .i64 0])/\∃ n,w'=w.drewN n:=by
 have _hs:=hs;have hw:IntKind.i64.wrap ((s.size:Int) - (a:Int))=(s.size:Int) - (a:Int):=IntWalk.i64_in _ ⟨by omega,by omega⟩;have d1:decide ((s.size:Int) - (a:Int)<3)=true:=by simp;omega
 go_enter Tryz.func117,Tryz.ntmps117
 go_wp2_with fail
 go_ret2
 exact ⟨rfl,0,rfl⟩
theorem Znq {l:List UInt8} {a m j p:Nat} {zs:List Nat} {b:Nat × Nat} (h:zs[j]?=some p):((zs.take (j+1)).reverse).foldl (Tk.stp l a m) b=((zs.take j).reverse).foldl (Tk.stp l a m) (Tk.stp l a m b p):=by
 rw [List.take_add_one,h];simp
theorem Zdr (gp bm g cap:Nat) (s:ByteArray) (a m:Nat) (zs:List Nat) (ad:Option Addr) (w:World) (hc:w.cell? ⟨gp,0,none⟩=some (.string s)) (hc1:w.cell? ⟨gp,1,none⟩=some (.map (some bm))) (hs:s.size<=2000) (hm:a+3<=s.size)
 (hmm:Hid (m=min 64 (s.size - a))) (hz:zs.length<=2000)
 (hlk:∀ w',w'.heap[bm]?=w.heap[bm]?->(Instr.lookup 141 (.map (some bm)) (.string (s.extract a (a+3))) false).run Tryz.prog w'=.ok (.slice ad zs.length cap) w')
 (hcl:zs=[]\/(ad=some ⟨g,0,none⟩/\∀ i p,zs[i]?=some p->p<a/\w.cell? ⟨g,i,none⟩=some (.int .i64 (p:Nat)))) :
 Calls Tryz.prog 117 #[.pointer (some ⟨gp,0,none⟩),.int .i64 a] w fun e w'=>e=.returned (.tuple #[.int .i64 ((zs.reverse.foldl (Tk.stp s.data.toList a m) (0,0)).1:Nat),.int .i64 ((zs.reverse.foldl (Tk.stp s.data.toList a m) (0,0)).2:Nat)])/\∃ n,w'=w.drewN n:=by
 have hw:IntKind.i64.wrap ((s.size:Int) - (a:Int))=(s.size:Int) - (a:Int):=IntWalk.i64_in _ ⟨by omega,by omega⟩;have hw2:IntKind.i64.wrap ((a:Int)+3)=(a:Int)+3:=IntWalk.i64_in _ ⟨by omega,by omega⟩;have d1:decide ((m:Int)<3)=false:=by have:=hmm.out;simp;omega
 have hmin:min ((s.size:Int) - (a:Int)) 64=(m:Int):=by have:=hmm.out;omega
 have hlk1:∀ n,(Instr.lookup 141 (.map (some bm)) (.string (s.extract a (a+3))) false).run Tryz.prog (w.drewN n)=.ok (.slice ad zs.length cap) (w.drewN n):=fun n=>hlk _ rfl
 have hsl:=ZdD s (a:Int) ((a:Int)+3) a (a+3) rfl (by omega) (by omega) (by omega);have hsn:¬ (64:Int)<(m:Int):=by have:=hmm.out;omega
 obtain ⟨bb,hbb⟩:∃ bb,zs.reverse.foldl (Tk.stp s.data.toList a m) (0,0)=bb:=⟨_,rfl⟩
 rw [hbb];have HB:Hid (zs.reverse.foldl (Tk.stp s.data.toList a m) (0,0)=bb):=hbb;clear hbb hlk;go_enter Tryz.func117,Tryz.ntmps117
 go_wp2_with fail
 go_quiet (fail)
 go_wp2_with fail
 go_loopw [10,7,8,11] (fun x y z _ wr=>∃ (i:Int) (j far n:Nat),x=.int .i64 i/\Hid (i=(j:Int) - 1)/\j<=zs.length/\y=.int .i64 far/\z=.int .i64 n/\far<=a/\n<=m/\Hid (((zs.take j).reverse).foldl (Tk.stp s.data.toList a m) (far,n)=bb)/\∃ k,wr=w.drewN k) (fun x _ _ _ _=>(intOf x+1).toNat)
 case atStart=>exact ⟨_,zs.length,0,0,rfl,rfl,nl _,rfl,rfl,by omega,by omega,by show _=_;rw [List.take_length];exact HB.out,_,rfl⟩
 case round =>
  obtain ⟨i,j,far,n,rfl,hi,hj,rfl,rfl,hfar,hn,hfold,kk,rfl⟩:=hrel
  cases j with
  | zero =>
   have h1:i=-1:=by have:=hi.out;omega
   subst h1
   have HE:Hid (bb=(far,n)):=by
    show _=_;rw [<-hfold.out];rfl
   clear hfold hcl hi;go_wp2_with fail
   go_ret2
   rw [HE.out];exact ⟨rfl,_,rfl⟩
  | succ j =>
   have h1:i=(j:Int):=by have:=hi.out;omega
   subst h1;clear hi;by_cases hfull:n<m
   ·have d2:decide ((n:Int)<(m:Int))=true:=by simp;omega
    have d2':decide (n<m)=true:=by simp;omega
    obtain ⟨p,hp⟩:∃ p,zs[j]?=some p:=⟨zs[j],List.getElem?_eq_getElem (by omega)⟩
    rcases hcl with h0 | ⟨rfl,hcell⟩
    ·rw [h0] at hj;simp at hj
    ·obtain ⟨hpa,hce⟩:=hcell j p hp;have hfs:=Znq (l:=s.data.toList) (a:=a) (m:=m) (b:=(far,n)) hp;have hcd:(w.drewN kk).cell? ⟨gp,0,none⟩=some (.string s):=hc;have hced:∀ k,(w.drewN k).cell? ⟨g,j,none⟩=some (.int .i64 (p:Nat)):=fun _=>hce
     have hm3:=hmm.out;have hal:=Zna gp s p a m (w.drewN kk) hcd hs (by omega) (by omega);have hjl:j<zs.length:=by omega
     have hjl2:(j:Int)<(zs.length:Int):=by omega
     have hkm:=Tk.ZjT s.data.toList m p a;have hwp:IntKind.i64.wrap ((a:Int) - (p:Int))=(a:Int) - (p:Int):=IntWalk.i64_in _ ⟨by omega,by omega⟩
     obtain ⟨k,hk⟩:∃ k,Tk.alk s.data.toList p a m=k:=⟨_,rfl⟩
     rw [hk] at hal hkm;by_cases hbig:n<k
     ·have HF:Hid (((zs.take j).reverse).foldl (Tk.stp s.data.toList a m) (a - p,k)=bb):=by
       show _=_;rw [<-hfold.out,hfs];unfold Tk.stp;rw [hk,if_pos (by exact hbig)]
      have d3:decide ((n:Int)<(k:Int))=true:=by simp;omega
      have d3':decide (n<k)=true:=by simp;omega
      have HM:Hid (m=min 64 (s.size - a)):=hm3;clear hm3 hfs hfold hk hp hcell;go_wp2_with (go_at_call 143;go_must (refine hal.mono ?_;rintro e w1 ⟨rfl,k2,rfl⟩;rw [ZpY]))
      go_roundw
      case rel=>exact ⟨_,j,a - p,k,rfl,by show _=_;omega,by omega,by simp;omega,rfl,by omega,hkm,HF,_,rfl⟩
      case measure=>simp [intOf]
     ·have HF:Hid (((zs.take j).reverse).foldl (Tk.stp s.data.toList a m) (far,n)=bb):=by
       show _=_;rw [<-hfold.out,hfs];unfold Tk.stp;rw [hk,if_neg (by exact hbig)]
      have d3:decide ((n:Int)<(k:Int))=false:=by simp;omega
      have d3':decide (n<k)=false:=by simp;omega
      have HM:Hid (m=min 64 (s.size - a)):=hm3;clear hm3 hfs hfold hk hp hcell;go_wp2_with (go_at_call 143;go_must (refine hal.mono ?_;rintro e w1 ⟨rfl,k2,rfl⟩;rw [ZpY]))
      go_roundw
      case rel=>exact ⟨_,j,far,n,rfl,by show _=_;omega,by omega,rfl,rfl,hfar,hn,HF,_,rfl⟩
      case measure=>simp [intOf]
   ·have d2:decide ((n:Int)<(m:Int))=false:=by simp;omega
    have d2':decide (n<m)=false:=by simp;omega
    have HE:Hid (bb=(far,n)):=by
     show _=_;rw [<-hfold.out,Tk.Zog (by simp;omega)]
    clear hfold hcl;go_wp2_with fail
    go_ret2
    rw [HE.out];exact ⟨rfl,_,rfl⟩
end Go.Proofs.YtbjbjbpgmojcbacGreat
namespace Go.Proofs.YtbjbjbpgmojcbacGreat.Tk
open Go.Proofs.YtbjbjbpgmojcbacGreat
def one (s:ByteArray):Option (T × Nat) :=
 match Nm.Zm s.data.toList with
 | none=>none
 | some x =>
  if x.1 % 2=1 then
   match Nm.Zm (s.extract x.2 s.size).data.toList with
   | none=>none
   | some y=>some (⟨⟨#[]⟩,y.1,(x.1 / 2:Nat)⟩,x.2+y.2)
  else if s.size - x.2<x.1 / 2 then none else some (⟨s.extract x.2 (x.2+x.1 / 2),0,0⟩,x.2+x.1 / 2)
theorem Zad (s:ByteArray) (a b:Nat):(s.extract a b).data.toList=(s.data.toList.drop a).take (b - a):=Lib.extract_data s a b
theorem ZQ (s:ByteArray) (a:Nat):(s.extract a s.size).data.toList=s.data.toList.drop a:=by
 rw [Zad,List.take_of_length_le];rw [List.length_drop];simp
theorem Zp (s:ByteArray) (a:Nat):(s.extract a s.size).size=s.size - a:=by simp
theorem Zda {s:ByteArray} {t:T} {k:Nat} (h:one s=some (t,k)):1<=k/\k<=s.size:=by
 unfold one at h
 cases hf:Nm.Zm s.data.toList with
 | none=>rw [hf] at h;simp at h
 | some x =>
  rw [hf] at h;have hb:=Nm.Zaj (n:=x.1) (k:=x.2) hf;have hk:x.2<=s.size:=by simpa using hb.2.2.1
  simp only at h;by_cases ho:x.1 % 2=1
  ·rw [if_pos ho] at h
   cases hg:Nm.Zm (s.extract x.2 s.size).data.toList with
   | none=>rw [hg] at h;simp at h
   | some y =>
    rw [hg] at h;have hb2:=Nm.Zaj (n:=y.1) (k:=y.2) hg;rw [ZQ] at hb2;simp only [Option.some.injEq,Prod.mk.injEq] at h;have h3:=hb2.2.2.1;rw [List.length_drop] at h3;have h4:s.data.toList.length=s.size:=by simp
    omega
  ·rw [if_neg ho] at h;by_cases hl:s.size - x.2<x.1 / 2
   ·rw [if_pos hl] at h;simp at h
   ·rw [if_neg hl] at h;simp only [Option.some.injEq,Prod.mk.injEq] at h;omega
def dec:Nat->ByteArray->Option (List T)
 | 0,s=>if s.size=0 then some [] else none
 | f+1,s=>if s.size=0 then some [] else
  match one s with
  | none=>none
  | some (t,k)=>(dec f (s.extract k s.size)).map (t :: ·)
theorem Zex (f:Nat) {s:ByteArray} (h:s.size=0):dec f s=some []:=by cases f <;> simp [dec,h]
theorem Zqg:∀ (f g:Nat) (s:ByteArray),s.size<=f->s.size<=g->dec f s=dec g s:=by
 intro f
 induction f with
 | zero =>
  intro g s h1 h2;rw [Zex _ (by omega),Zex _ (by omega)]
 | succ f ih =>
  intro g s h1 h2;by_cases h0:s.size=0
  ·rw [Zex _ h0,Zex _ h0]
  ·cases g with
   | zero=>omega
   | succ g =>
    simp only [dec,h0,if_false]
    cases ho:one s with
    | none=>rfl
    | some x =>
     obtain ⟨t,k⟩:=x;have hp:=Zda ho;simp only;rw [ih g (s.extract k s.size) (by rw [Zp];omega) (by rw [Zp];omega)]
def D (s:ByteArray):Option (List T):=dec s.size s
theorem Zpw {s:ByteArray} (h:s.size=0):D s=some []:=Zex _ h
theorem Zhp {s:ByteArray} (h0:s.size ≠ 0) (h:one s=none):D s=none:=by
 unfold D
 obtain ⟨n,hn⟩:∃ n,s.size=n+1:=⟨s.size - 1,by omega⟩
 rw [hn,dec,if_neg (by omega),h]
theorem Zhv {s:ByteArray} {t:T} {k:Nat} (h:one s=some (t,k)):D s=(D (s.extract k s.size)).map (t :: ·):=by
 have hp:=Zda h;unfold D
 obtain ⟨n,hn⟩:∃ n,s.size=n+1:=⟨s.size - 1,by omega⟩
 have e:dec s.size s=dec (n+1) s:=by rw [hn]
 rw [e,dec,if_neg (by omega),h];simp only;rw [Zqg n (s.extract k s.size).size (s.extract k s.size) (by rw [Zp];omega) (nl _)]
theorem Zie (d:Nat):∀ (l:List T) (s:List UInt8) (p:Bool) (s1:List UInt8),d<=s.length->s.length<=d+512->run d s p l=(0,s1)->s.length+l.length<=s1.length/\s1.length<=d+512:=by
 intro l
 induction l with
 | nil=>intro s p s1 h1 h2 h;simp [run] at h;subst h;simp;exact h2
 | cons t l ih =>
  intro s p s1 h1 h2 h
  have he:err d s p t=0:=by
   by_cases e:err d s p t=0
   ·exact e
   ·rw [Zaf e] at h;simp only [Prod.mk.injEq] at h;exact absurd h.1 e
  rw [Zai he] at h;have hm:=ZbZ he;have h3:=hm.2.2.2.2
  have h5:1<=t.lit.size+t.len.toNat:=by
   by_cases h0:t.lit.size=0
   ·have:=hm.2.2.1 h0;omega
   ·omega
  have:=ih (make s t) _ s1 (by omega) (by omega) h;simp only [List.length_cons];omega
end Go.Proofs.YtbjbjbpgmojcbacGreat.Tk
namespace Go.Proofs.YtbjbjbpgmojcbacGreat
open Go.RowKit
attribute [local go_sem ↓] Go.wp_at_zero Go.wp_at_succ
theorem box6 {w w1:World} {x y z:Value} {T:TypeId} (hb:Below (w.alloc (.cells #[x,y,z] T)).heap.size (w.alloc (.cells #[x,y,z] T)) w1) :
 w1.cell? ⟨w.heap.size,0,none⟩=some x/\w1.cell? ⟨w.heap.size,1,none⟩=some y/\w1.cell? ⟨w.heap.size,2,none⟩=some z ∧
  w1.frozen? ⟨w.heap.size,0,none⟩=false/\w1.frozen? ⟨w.heap.size,1,none⟩=false/\w1.frozen? ⟨w.heap.size,2,none⟩=false:=by
 refine ⟨(hb.cell (by simp)).trans ?_,(hb.cell (by simp)).trans ?_,(hb.cell (by simp)).trans ?_,(hb.frozen (by simp)).trans ?_,(hb.frozen (by simp)).trans ?_,(hb.frozen (by simp)).trans ?_⟩
 ·rw [World.cell?_alloc_mark];rfl
 ·rw [World.cell?_alloc_mark];rfl
 ·rw [World.cell?_alloc_mark];rfl
 ·rw [World.frozen?_alloc_mark];simp
 ·rw [World.frozen?_alloc_mark];simp
 ·rw [World.frozen?_alloc_mark];simp
theorem set3 {B:Nat} {a w:World} (h:Below B a w) {g:Nat} (hg:B<=g) (x y z:Value):Below B a (((w.setCell ⟨g,0,none⟩ x).setCell ⟨g,1,none⟩ y).setCell ⟨g,2,none⟩ z) :=
 ((h.setCell (p:=⟨g,0,none⟩) hg _).setCell (p:=⟨g,1,none⟩) hg _).setCell (p:=⟨g,2,none⟩) hg _
theorem ZkU (s:ByteArray) (w:World) (hs:s.size<=281474976710656) (h:Nm.Zm s.data.toList=none) :
 Calls Tryz.prog 173 #[.string s] w fun e w'=>e=.returned (.tuple #[.agg #[.string ⟨#[]⟩,.int .i64 0,.int .i64 0],.string ⟨#[]⟩,.int .i64 1])/\Below w.heap.size w w':=by
 have hc:=fun w=>Zgg s w hs h
 clear h;go_enter Tryz.func173,Tryz.ntmps173
 go_wp2_with fail
 refine (hc _).mono ?_;rintro e w1 ⟨rfl,G⟩;clear hc;obtain ⟨q0,q1,q2,q3,q4,q5⟩:=box6 G;have G1:=bch ((bR _ _).alloc (nl _) _) G (nl _);go_wp2_with fail
 exact bodyPost_ret (v:=.tuple #[.agg #[.string ⟨#[]⟩,.int .i64 0,.int .i64 0],.string ⟨#[]⟩,.int .i64 1]) (by simp [results,Tryz.results173,go_sem,q0,q1,q2]) rfl ⟨rfl,set3 G1 (nl _) _ _ _⟩
theorem ZmR (s r:ByteArray) (w:World) (hs:s.size<=281474976710656) (n k f j:Nat) (h:Nm.Zm s.data.toList=some (n,k)) (hr:s.extract k s.size=r) (ho:n % 2=1) (hf:Nm.Zm r.data.toList=some (f,j)) :
 Calls Tryz.prog 173 #[.string s] w fun e w'=>e=.returned (.tuple #[.agg #[.string ⟨#[]⟩,.int .i64 f,.int .i64 (n / 2:Nat)],.string (r.extract j r.size),.int .i64 0])/\Below w.heap.size w w':=by
 have hc:=fun w=>Zbt s w n k hs h
 have hn:(n:Int)<=2147483647:=by have:=Nm.Zaj h;omega
 rw [hr] at hc;have hc2:=fun w=>Zbt r w f j (by rw [<-hr];exact Nm.Zcx hs) hf
 have ho1:((n:Int) % 2 == 1)=true:=by simp;omega
 have ho2:(n:Int) % 2=1:=by omega
 have hq:((n / 2:Nat):Int)=(n:Int) / 2:=by omega
 rw [hq];clear h hf hr hq ho;go_enter Tryz.func173,Tryz.ntmps173
 go_wp2_with fail
 refine (hc _).mono ?_;rintro e w1 ⟨rfl,G⟩;clear hc;go_wp2_with fail
 refine (hc2 _).mono ?_;rintro e w2 ⟨rfl,G2⟩;clear hc2;have G3:=bch G G2 (nl _);obtain ⟨q0,q1,q2,q3,q4,q5⟩:=box6 G3;have G1:=bch ((bR _ _).alloc (nl _) _) G3 (nl _);clear G G2 G3;go_wp2_with fail
 exact bodyPost_ret (v:=.tuple #[.agg #[.string ⟨#[]⟩,.int .i64 f,.int .i64 ((n:Int) / 2)],.string (r.extract j r.size),.int .i64 0]) (by simp [results,Tryz.results173,go_sem,q0,q1,q2]) rfl ⟨rfl,set3 G1 (nl _) _ _ _⟩
theorem Zhh (s r:ByteArray) (w:World) (hs:s.size<=281474976710656) (n k:Nat) (h:Nm.Zm s.data.toList=some (n,k)) (hr:s.extract k s.size=r) (ho:n % 2=1) (hf:Nm.Zm r.data.toList=none) :
 Calls Tryz.prog 173 #[.string s] w fun e w'=>e=.returned (.tuple #[.agg #[.string ⟨#[]⟩,.int .i64 0,.int .i64 (n / 2:Nat)],.string ⟨#[]⟩,.int .i64 1])/\Below w.heap.size w w':=by
 have hc:=fun w=>Zbt s w n k hs h
 have hn:(n:Int)<=2147483647:=by have:=Nm.Zaj h;omega
 rw [hr] at hc;have hc2:=fun w=>Zgg r w (by rw [<-hr];exact Nm.Zcx hs) hf
 have ho1:((n:Int) % 2 == 1)=true:=by simp;omega
 have ho2:(n:Int) % 2=1:=by omega
 have hq:((n / 2:Nat):Int)=(n:Int) / 2:=by omega
 rw [hq];clear h hf hr hq ho;go_enter Tryz.func173,Tryz.ntmps173
 go_wp2_with fail
 refine (hc _).mono ?_;rintro e w1 ⟨rfl,G⟩;clear hc;go_wp2_with fail
 refine (hc2 _).mono ?_;rintro e w2 ⟨rfl,G2⟩;clear hc2;have G3:=bch G G2 (nl _);obtain ⟨q0,q1,q2,q3,q4,q5⟩:=box6 G3;have G1:=bch ((bR _ _).alloc (nl _) _) G3 (nl _);clear G G2 G3;go_wp2_with fail
 exact bodyPost_ret (v:=.tuple #[.agg #[.string ⟨#[]⟩,.int .i64 0,.int .i64 ((n:Int) / 2)],.string ⟨#[]⟩,.int .i64 1]) (by simp [results,Tryz.results173,go_sem,q0,q1,q2]) rfl ⟨rfl,set3 G1 (nl _) _ _ _⟩
theorem Zgb (s r:ByteArray) (w:World) (hs:s.size<=281474976710656) (n k:Nat) (h:Nm.Zm s.data.toList=some (n,k)) (hr:s.extract k s.size=r) (ho:¬ n % 2=1) (hbig:r.size<n / 2) :
 Calls Tryz.prog 173 #[.string s] w fun e w'=>e=.returned (.tuple #[.agg #[.string ⟨#[]⟩,.int .i64 0,.int .i64 0],.string ⟨#[]⟩,.int .i64 1])/\Below w.heap.size w w':=by
 have hc:=fun w=>Zbt s w n k hs h
 have hn:(n:Int)<=2147483647:=by have:=Nm.Zaj h;omega
 rw [hr] at hc;have ho1:((n:Int) % 2 == 1)=false:=by simp;omega
 have hb1:decide ((r.size:Int)<(n:Int) / 2)=true:=by simp;omega
 have hb2:(r.size:Int)<(n:Int) / 2:=by omega
 clear h hr hbig ho;go_enter Tryz.func173,Tryz.ntmps173
 go_wp2_with fail
 refine (hc _).mono ?_;rintro e w1 ⟨rfl,G⟩;clear hc;obtain ⟨q0,q1,q2,q3,q4,q5⟩:=box6 G;have G1:=bch ((bR _ _).alloc (nl _) _) G (nl _);go_wp2_with fail
 exact bodyPost_ret (v:=.tuple #[.agg #[.string ⟨#[]⟩,.int .i64 0,.int .i64 0],.string ⟨#[]⟩,.int .i64 1]) (by simp [results,Tryz.results173,go_sem,q0,q1,q2]) rfl ⟨rfl,set3 G1 (nl _) _ _ _⟩
theorem Zls (s r:ByteArray) (w:World) (hs:s.size<=281474976710656) (n k m:Nat) (h:Nm.Zm s.data.toList=some (n,k)) (hr:s.extract k s.size=r) (ho:¬ n % 2=1) (hm:n / 2=m) (hbig:m<=r.size) :
 Calls Tryz.prog 173 #[.string s] w fun e w'=>e=.returned (.tuple #[.agg #[.string (r.extract 0 m),.int .i64 0,.int .i64 0],.string (r.extract m r.size),.int .i64 0])/\Below w.heap.size w w':=by
 have hc:=fun w=>Zbt s w n k hs h
 have hn:(n:Int)<=2147483647:=by have:=Nm.Zaj h;omega
 rw [hr] at hc;have hrs:r.size<=281474976710656:=by rw [<-hr];exact Nm.Zcx hs
 have ho1:((n:Int) % 2 == 1)=false:=by simp;omega
 have hq:(n:Int) / 2=(m:Int):=by omega
 have hb1:decide ((r.size:Int)<(m:Int))=false:=by simp;omega
 have hb3:decide (r.size<m)=false:=by simp;omega
 have hi1:(0:Int)<=(m:Int):=by omega
 have hi2:(m:Int)<=(r.size:Int):=by omega
 clear h hr hbig ho hm;go_enter Tryz.func173,Tryz.ntmps173
 go_wp2_with fail
 refine (hc _).mono ?_;rintro e w1 ⟨rfl,G⟩;clear hc;go_wp2_with fail
 go_region_with (go_at_call 35;refine (ZM _ _ (Nm.Zcx hrs)).mono ?_;rintro e w2 ⟨rfl,hb⟩;have G3:=bch G.drew hb (nl _);obtain ⟨q0,q1,q2,q3,q4,q5⟩:=box6 G3)
 all_goals go_wp2_with fail
 all_goals exact bodyPost_ret (v:=.tuple #[.agg #[.string (r.extract 0 m),.int .i64 0,.int .i64 0],.string (r.extract m r.size),.int .i64 0]) (by simp [results,Tryz.results173,go_sem,q0,q1,q2]) rfl ⟨rfl,set3 (bch ((bR _ _).alloc (nl _) _) G3 (nl _)) (nl _) _ _ _⟩
theorem Zpt (s:ByteArray) (w:World) (hs:s.size<=281474976710656) (h:Tk.one s=none) :
 Calls Tryz.prog 173 #[.string s] w fun e w'=>∃ lit far len r,e=.returned (.tuple #[.agg #[.string lit,.int .i64 far,.int .i64 len],.string r,.int .i64 1])/\Below w.heap.size w w':=by
 unfold Tk.one at h
 cases hf:Nm.Zm s.data.toList with
 | none=>exact (ZkU s w hs hf).mono fun e w' he=>⟨_,_,_,_,he.1,he.2⟩
 | some x =>
  rw [hf] at h;simp only at h;by_cases ho:x.1 % 2=1
  ·rw [if_pos ho] at h
   cases hg:Nm.Zm (s.extract x.2 s.size).data.toList with
   | none=>exact (Zhh s _ w hs x.1 x.2 hf rfl ho hg).mono fun e w' he=>⟨_,_,_,_,he.1,he.2⟩
   | some y=>rw [hg] at h;simp at h
  ·rw [if_neg ho] at h;by_cases hl:s.size - x.2<x.1 / 2
   ·exact (Zgb s _ w hs x.1 x.2 hf rfl ho (by rw [Tk.Zp];exact hl)).mono fun e w' he=>⟨_,_,_,_,he.1,he.2⟩
   ·rw [if_neg hl] at h;simp at h
theorem ZlX (s:ByteArray) (w:World) (hs:s.size<=281474976710656) (t:Tk.T) (k:Nat) (h:Tk.one s=some (t,k)) :
 Calls Tryz.prog 173 #[.string s] w fun e w'=>e=.returned (.tuple #[.agg #[.string t.lit,.int .i64 t.far,.int .i64 t.len],.string (s.extract k s.size),.int .i64 0])/\Below w.heap.size w w':=by
 unfold Tk.one at h
 cases hf:Nm.Zm s.data.toList with
 | none=>rw [hf] at h;simp at h
 | some x =>
  rw [hf] at h;simp only at h;by_cases ho:x.1 % 2=1
  ·rw [if_pos ho] at h
   cases hg:Nm.Zm (s.extract x.2 s.size).data.toList with
   | none=>rw [hg] at h;simp at h
   | some y =>
    rw [hg] at h;simp only [Option.some.injEq,Prod.mk.injEq] at h;obtain ⟨rfl,rfl⟩:=h;have hc:=ZmR s _ w hs x.1 x.2 y.1 y.2 hf rfl ho hg
    have e:(s.extract x.2 s.size).extract y.2 (s.extract x.2 s.size).size=s.extract (x.2+y.2) s.size:=by
     apply Nm.ZF;rw [Tk.ZQ,Tk.ZQ,Tk.ZQ,List.drop_drop]
    rw [e] at hc;exact hc
  ·rw [if_neg ho] at h;by_cases hl:s.size - x.2<x.1 / 2
   ·rw [if_pos hl] at h;simp at h
   ·rw [if_neg hl] at h;simp only [Option.some.injEq,Prod.mk.injEq] at h;obtain ⟨rfl,rfl⟩:=h;have hc:=Zls s _ w hs x.1 x.2 (x.1 / 2) hf rfl ho rfl (by rw [Tk.Zp];omega)
    have e1:(s.extract x.2 s.size).extract 0 (x.1 / 2)=s.extract x.2 (x.2+x.1 / 2):=by
     apply Nm.ZF;rw [Tk.Zad,Tk.ZQ,Tk.Zad];simp
    have e2:(s.extract x.2 s.size).extract (x.1 / 2) (s.extract x.2 s.size).size=s.extract (x.2+x.1 / 2) s.size:=by
     apply Nm.ZF;rw [Tk.ZQ,Tk.ZQ,Tk.ZQ,List.drop_drop]
    rw [e1,e2] at hc;exact hc
def tcs:List Tk.T->List Value
 | []=>[]
 | t :: l=>.string t.lit :: .int .i64 t.far :: .int .i64 t.len :: tcs l
theorem Zal (a b:List Tk.T):tcs (a++b)=tcs a++tcs b:=by
 induction a with
 | nil=>rfl
 | cons t a ih=>simp [tcs,ih]
theorem Zkd (a:List Tk.T):(tcs a).length=a.length*3:=by
 induction a with
 | nil=>rfl
 | cons t a ih=>simp [tcs,ih];omega
theorem Ztu:∀ (l:List Tk.T) (i:Nat) (h:i<l.length),(tcs l)[i*3]?=some (.string l[i].lit)/\(tcs l)[i*3+1]?=some (.int .i64 l[i].far)/\(tcs l)[i*3+2]?=some (.int .i64 l[i].len):=by
 intro l
 induction l with
 | nil=>intro i h;simp at h
 | cons t l ih =>
  intro i h
  cases i with
  | zero=>simp [tcs]
  | succ i =>
   have:=ih i (by simpa using h);rw [show (i+1)*3=i*3+3 by omega,show i*3+3+1=i*3+1+3 by omega,show i*3+3+2=i*3+2+3 by omega];simpa [tcs] using this
theorem ZcK:(Tryz.prog.info? 145).map (fun i=>(i.zero,i.size,i.bytes))=some (some (.agg #[.string ⟨#[]⟩,.int .i64 0,.int .i64 0]),3,32):=by kernel_rfl
theorem ZbJ {w:World} {B n:Nat} {v:Value} {l:List Tk.T} (h:w.ownsRow B 145 3 v n (tcs l)):∃ ad cap,v=.slice ad l.length cap/\SlAt w ad l:=by
 have hlen:=h.1;rw [Zkd] at hlen;have hn:n=l.length:=by omega
 subst hn;rcases h.2 with ⟨rfl,h0⟩ | ⟨g,cap,cur,rfl,hb,hg,hnc,hcm,hcs,htk⟩
 ·have:l=[]:=List.eq_nil_of_length_eq_zero h0;subst this;exact ⟨none,0,rfl,.inl rfl⟩
 ·refine ⟨some ⟨g,0,none⟩,cap,rfl,.inr ⟨g,0,rfl,(aG.1 hg).1,fun i hi=>?_⟩⟩
  have hat:∀ j u,(tcs l)[j]?=some u->w.cell? ⟨g,0+j,none⟩=some u:=by
   intro j u hj;rw [Nat.zero_add,cell_of_row w g j cur _ _ hg];rw [<-htk,List.getElem?_take] at hj;split at hj
   ·simpa using hj
   ·simp at hj
  have:=Ztu l i hi;exact ⟨hat _ _ this.1,hat _ _ this.2.1,hat _ _ this.2.2⟩
theorem one3 (x y z:Value) (hx:x.oneCell'=true) (hy:y.oneCell'=true) (hz:z.oneCell'=true):∀ u ∈ [x,y,z],u.oneCell'=true:=by
 intro u hu;simp at hu;rcases hu with rfl | rfl | rfl <;> assumption
theorem Zhr (w:World) (x y z:Value) (T:TypeId):∀ j u,[x,y,z][j]?=some u->(w.alloc (.cells #[x,y,z] T)).cell? ((⟨w.heap.size,0,none⟩:Addr).add j)=some u:=by
 intro j u hj;rw [Zax,World.cell?_alloc_mark];simpa using hj
theorem Zol (dict s:ByteArray) (w:World) (hd:dict.size<=256) (hs:1024<s.size) :
 Calls Tryz.prog 150 #[.string dict,.string s] w fun e w'=>e=.returned (.tuple #[.slice none 0 0,.int .i64 1])/\Below w.heap.size w w':=by
 have h:decide ((256:Int)<(dict.size:Int))=false:=by simp;omega
 have h':(dict.size:Int)<=256:=by omega
 have h2:decide ((1024:Int)<(s.size:Int))=true:=by simp;omega
 have h2':(1024:Int)<(s.size:Int):=by omega
 go_enter Tryz.func150,Tryz.ntmps150
 go_wp2_with fail
 go_step3
 go_wp2_with fail
 rw [Exit.noGoto_ret];go_ret2
 exact ⟨rfl,bR _ _⟩
def Zz (dict s:ByteArray):Option (List Tk.T) :=
 match Tk.D s with
 | none=>none
 | some l=>if (Tk.run dict.size dict.data.toList false l).1=0 then some l else none
def Ztd:Value->Nat | .string s=>s.size | _=>0
theorem Zj {w w':World} {B n size:Nat} {e:TypeId} {v:Value} {xs:List Value} (h:w.ownsRow B e size v n xs) (hb:Below w.heap.size w w'):w'.ownsRow B e size v n xs :=
 h.kept (row:=none) ⟨hb.os,hb.tape,hb.output,hb.size,fun k hk _=>hb.block k hk⟩ (by cases v.ownBlock <;> simp)
theorem Zst {w w':World} {B B' g n size:Nat} {e:TypeId} {v:Value} {xs:List Value} (h:w.ownsRow B e size v n xs) (hb:Below B' w w') (hk:∀ k,k<w.heap.size->k ≠ g->w'.heap[k]?=w.heap[k]?) (hg:g<B):w'.ownsRow B e size v n xs :=
 h.kept (row:=some g) ⟨hb.os,hb.tape,hb.output,hb.size,fun k hk1 hne=>hk k hk1 (fun e=>hne (by rw [e]))⟩ (.inr (fun e=>by have:=(h.lt g e).1;omega))
theorem Zrj {w w':World} {g:Nat} {x y z:Value} {T:TypeId} (hk:∀ k,k<(w.alloc (.cells #[x,y,z] T)).heap.size->k ≠ g->w'.heap[k]?=(w.alloc (.cells #[x,y,z] T)).heap[k]?) (hg:g<w.heap.size) :
 w'.cell? ⟨w.heap.size,0,none⟩=some x/\w'.cell? ⟨w.heap.size,1,none⟩=some y/\w'.cell? ⟨w.heap.size,2,none⟩=some z:=by
 have e:∀ j,w'.cell? ⟨w.heap.size,j,none⟩=(w.alloc (.cells #[x,y,z] T)).cell? ⟨w.heap.size,j,none⟩:=fun j=>cB (w:=w.alloc (.cells #[x,y,z] T)) (hk w.heap.size (by simp) (by omega))
 refine ⟨?_,?_,?_⟩
 ·rw [e,World.cell?_alloc_mark];rfl
 ·rw [e,World.cell?_alloc_mark];rfl
 ·rw [e,World.cell?_alloc_mark];rfl
theorem MkAt.grown {w w':World} {B g n:Nat} {D M:Int} {L:Bool} {v:Value} {xs:List Value} {e:TypeId} (h:MkAt w B g D M L) (ho:w.ownsRow (g+1) e 3 v n xs) (hg:w.grownBy w' v.ownBlock):MkAt w' B g D M L:=by
 obtain ⟨a,b,c0,c1,c2,f1,f2⟩:=h;have hb:=hg.block g b (fun e=>by have:=(ho.lt g e.symm).1;omega);refine ⟨a,nT b hg.size,?_,?_,?_,?_,?_⟩
 ·rw [World.cell?_of_block (w:=w) (by exact hb)];exact c0
 ·rw [World.cell?_of_block (w:=w) (by exact hb)];exact c1
 ·rw [World.cell?_of_block (w:=w) (by exact hb)];exact c2
 ·rw [World.frozen?_of_block (w:=w) (by exact hb)];exact f1
 ·rw [World.frozen?_of_block (w:=w) (by exact hb)];exact f2
theorem ZmY {S:ByteArray} {t:Tk.T} {k:Nat} (h:Tk.one S=some (t,k)):t.lit.size<=S.size:=by
 unfold Tk.one at h
 cases hf:Nm.Zm S.data.toList with
 | none=>rw [hf] at h;simp at h
 | some x =>
  rw [hf] at h;simp only at h;split at h
  ·split at h
   ·simp at h
   ·simp only [Option.some.injEq,Prod.mk.injEq] at h;rw [<-h.1];exact Nat.zero_le _
  ·split at h
   ·simp at h
   ·simp only [Option.some.injEq,Prod.mk.injEq] at h;rw [<-h.1];exact Nm.Zcx (nl _)
theorem ZiA {dict s S:ByteArray} {l:List Tk.T} (h1:Tk.D s=(Tk.D S).map (l++·)) (h2:Tk.D S=none):Zz dict s=none:=by
 unfold Zz;rw [h1,h2];rfl
theorem ZkV {dict s S S2:ByteArray} {l:List Tk.T} {t:Tk.T} {k:Nat} {st:List UInt8} {p:Bool} (h1:Tk.D s=(Tk.D S).map (l++·)) (h2:Tk.one S=some (t,k)) (h3:S.extract k S.size=S2)
 (h4:∀ m,Tk.run dict.size dict.data.toList false (l++m)=Tk.run dict.size st p m) (h5:Tk.err dict.size st p t ≠ 0):Zz dict s=none:=by
 unfold Zz;rw [h1,Tk.Zhv h2,h3]
 cases Tk.D S2 with
 | none=>rfl
 | some m =>
  simp only [Option.map_some];rw [h4,Tk.Zaf h5,if_neg h5]
theorem ZkH {dict s S:ByteArray} {l:List Tk.T} {st:List UInt8} {p:Bool} (h1:Tk.D s=(Tk.D S).map (l++·)) (h2:S.size=0)
 (h4:∀ m,Tk.run dict.size dict.data.toList false (l++m)=Tk.run dict.size st p m):Zz dict s=some l:=by
 unfold Zz;rw [h1,Tk.Zpw h2];simp only [Option.map_some,List.append_nil];have:=h4 [];rw [List.append_nil] at this;rw [this];rfl
theorem ZkW (dict s:ByteArray) (w:World) (hd:dict.size<=256) (hs:s.size<=1024) :
 Calls Tryz.prog 150 #[.string dict,.string s] w fun e w'=>Below w.heap.size w w' ∧
  ((Zz dict s=none/\e=.returned (.tuple #[.slice none 0 0,.int .i64 1]))\/∃ l ad cap,Zz dict s=some l/\e=.returned (.tuple #[.slice ad l.length cap,.int .i64 0])/\SlAt w' ad l):=by
 have h:decide ((256:Int)<(dict.size:Int))=false:=by simp;omega
 have h':(dict.size:Int)<=256:=by omega
 have h2:decide ((1024:Int)<(s.size:Int))=false:=by simp;omega
 have h2':(s.size:Int)<=1024:=by omega
 obtain ⟨i0,hi,hz0,hz1,hz2⟩:=info_parts ZcK;generalize hRO:Zz dict s=RO at *;have HRO:Hid (Zz dict s=RO):=hRO;clear hRO;go_enter Tryz.func150,Tryz.ntmps150
 go_wp2_with fail
 go_step3
 go_wp2_with fail
 go_step3
 go_wp2_with fail
 go_loopw [1,6] (fun x v wr=>∃ (S:ByteArray) (l:List Tk.T) (st:List UInt8) (p:Bool),x=.string S/\wr.ownsRow (w.heap.size+1) 145 3 v l.length (tcs l)/\Hid (Tk.D s=(Tk.D S).map (l++·)) ∧
  Hid (∀ m,Tk.run dict.size dict.data.toList false (l++m)=Tk.run dict.size st p m)/\l.length+dict.size<=st.length/\st.length<=dict.size+512/\MkAt wr w.heap.size w.heap.size dict.size ((st.length:Int) - dict.size) p/\S.size<=1024/\Below w.heap.size w wr)
  (fun x _ _=>Ztd x)
 case atStart =>
  refine ⟨s,[],dict.data.toList,false,rfl,World.ownsRow_nil _ _ _ _,?_,fun m=>rfl,by simp,by simp,?_,hs,(bR _ _).alloc (nl _) _⟩
  ·show _=_
   cases Tk.D s <;> rfl
  ·have e:((dict.data.toList.length:Int) - dict.size)=0:=by simp
   rw [e];exact ⟨nl _,by simp,by rw [World.cell?_alloc_mark];rfl,by rw [World.cell?_alloc_mark];rfl,by rw [World.cell?_alloc_mark];rfl,by rw [World.frozen?_alloc_mark];simp,by rw [World.frozen?_alloc_mark];simp⟩
 case round =>
  obtain ⟨S,l,st,p,rfl,hown,hD,hrun,hs1,hs2,hm,hS,G⟩:=hrel;by_cases h0:S.size=0
  ·have hE0:=Zao h0
   have HX:Hid (RO=some l):=by
    show _=_;rw [<-HRO.out];exact ZkH hD.out h0 hrun.out
   clear hm;go_wp2_with fail
   try rw [Exit.noGoto_ret]
   go_ret2
   obtain ⟨ad,cap,hv,hsl⟩:=ZbJ hown;exact ⟨G,.inr ⟨l,ad,cap,HX.out,by rw [<-hv];rfl,hsl⟩⟩
  ·have hE0:=ZW h0;have hgs:=G.size;have hgm:=hm.2.1
   cases ho:Tk.one S with
   | none =>
    have HX:Hid (RO=none):=by
     show _=_;rw [<-HRO.out];exact ZiA hD.out (Tk.Zhp h0 ho)
    have hc:=fun w=>Zpt S w (by omega) ho
    clear hm hD hrun ho;go_wp2_with fail
    refine (hc _).mono ?_;rintro e w1 ⟨lit,far,len,r,rfl,hb1⟩;clear hc;go_wp2_with fail
    try rw [Exit.noGoto_ret]
    go_ret2
    exact ⟨(bch G hb1 (nl _)).alloc (nt hgs hb1.size) _,.inl ⟨HX.out,rfl⟩⟩
   | some x =>
    obtain ⟨t,kk⟩:=x;have hc:=fun w=>ZlX S w (by omega) t kk ho
    have hpos:=Tk.Zda ho
    obtain ⟨S2,hS2⟩:∃ S2,S.extract kk S.size=S2:=⟨_,rfl⟩
    rw [hS2] at hc;have hS2s:S2.size<S.size:=by rw [<-hS2,Tk.Zp];omega
    have hS2b:S2.size<=1024:=by omega
    have hlit:t.lit.size<=140737488355328:=by
     have:=ZmY ho;omega
    have HB:Hid (Tk.err dict.size st p t ≠ 0->RO=none):=by
     intro he;rw [<-HRO.out];exact ZkV hD.out ho hS2 hrun.out he
    have HD2:Hid (Tk.D s=(Tk.D S2).map ((l++[t])++·)):=by
     show _=_;rw [hD.out,Tk.Zhv ho,hS2]
     cases Tk.D S2 <;> simp
    have hef:=Zjg dict.size st p t _ rfl;have HE:Hid (Tk.err dict.size st p t=if fits dict.size ((st.length:Int) - dict.size) p t.lit t.far t.len=false then 1 else if 512<(st.length:Int) - dict.size+t.lit.size+t.len then 2 else 0):=hef;have Hm:Hid (MkAt wr w.heap.size w.heap.size dict.size ((st.length:Int) - dict.size) p):=hm;have HO:Hid (wr.ownsRow (w.heap.size+1) 145 3 u6 l.length (tcs l)):=hown;have hM0:0<=(st.length:Int) - dict.size:=by omega
    have hM1:(st.length:Int) - dict.size<=512:=by omega
    have hD0:(0:Int)<=(dict.size:Int):=by omega
    have HS:Hid (S2.size<S.size):=hS2s;clear hm hD ho hef hown hS2 hpos hS2s
    cases hF:fits dict.size ((st.length:Int) - dict.size) p t.lit t.far t.len with
    | false =>
     have HX:Hid (RO=none):=HB.out (by rw [HE.out,if_pos hF];omega);go_wp2_with fail
     refine (hc _).mono ?_;rintro e w1 ⟨rfl,hb1⟩;clear hc
     have Hm1:=(Hm.out.below hb1)
     have G1:=bch G hb1 (nl _);have hgs1:=G1.size;go_wp2_with (go_at_call 144;go_must (refine (Zjt w.heap.size w.heap.size dict.size ((st.length:Int) - dict.size) p t.lit t.far t.len _ (Hm1.alloc _) hD0 h' hM0 hM1 hF).mono ?_;rintro e w3 ⟨rfl,hb3⟩))
     try rw [Exit.noGoto_ret]
     go_ret2
     exact ⟨bch (G1.alloc hgs1 _) hb3 (nl _),.inl ⟨HX.out,rfl⟩⟩
    | true =>
     have hln:=ZiQ hF;by_cases hbig:512<(st.length:Int) - dict.size+t.lit.size+t.len
     ·have HX:Hid (RO=none):=HB.out (by rw [HE.out,if_neg (by rw [hF];simp),if_pos hbig];omega);go_wp2_with fail
      refine (hc _).mono ?_;rintro e w1 ⟨rfl,hb1⟩;clear hc
      have Hm1:=(Hm.out.below hb1)
      have G1:=bch G hb1 (nl _);have hgs1:=G1.size;go_wp2_with (go_at_call 144;go_must (refine (ZjD w.heap.size w.heap.size dict.size ((st.length:Int) - dict.size) p t.lit t.far t.len _ (Hm1.alloc _) hD0 h' hM0 hM1 hlit hln hF hbig).mono ?_;rintro e w3 ⟨rfl,hb3⟩))
      try rw [Exit.noGoto_ret]
      go_ret2
      exact ⟨bch (G1.alloc hgs1 _) hb3 (nl _),.inl ⟨HX.out,rfl⟩⟩
     ·have he:Tk.err dict.size st p t=0:=by rw [HE.out,if_neg (by rw [hF];simp),if_neg hbig]
      have hmk:=Tk.ZbZ he;have HK:Hid ((Tk.make st t).length=st.length+t.lit.size+t.len.toNat):=hmk.1
      have HL:Hid (1<=t.lit.size+t.len.toNat):=by
       show _<=_;by_cases h0:t.lit.size=0
       ·have:=hmk.2.2.1 h0;omega
       ·omega
      have HRn:Hid (∀ m,Tk.run dict.size dict.data.toList false ((l++[t])++m)=Tk.run dict.size (Tk.make st t) (decide (t.lit.size ≠ 0)) m):=by
       intro m;rw [List.append_assoc,hrun.out];exact Tk.Zai he
      have HD:Hid ((!t.lit.toList.isEmpty)=decide (t.lit.size ≠ 0)):=by
       show _=_;by_cases h0:t.lit.size=0
       ·rw [Zao h0];simp [h0]
       ·rw [ZW h0];simp [h0]
      have hl512:l.length<=512:=by omega
      clear he hmk;go_wp2_with fail
      refine (hc _).mono ?_;rintro e w1 ⟨rfl,hb1⟩;clear hc
      have Hm1:=(Hm.out.below hb1)
      have G1:=bch G hb1 (nl _);have hgs1:=G1.size;have hgm1:w.heap.size<w1.heap.size:=nT hgm hb1.size;have HO1:=Zj HO.out hb1;go_wp2_with (first | (go_at_call 144;go_must (refine (ZqQ w.heap.size w.heap.size dict.size ((st.length:Int) - dict.size) p t.lit t.far t.len _ (Hm1.alloc _) hD0 h' hM0 hM1 hln hF (by omega)).mono ?_;rintro e w3 ⟨rfl,hb3,hm3,hk3⟩;obtain ⟨q0,q1,q2⟩:=Zrj hk3.out hgm1;have HO3:=Zst (HO1.alloc _) hb3 hk3.out (Nat.lt_succ_self _);have hgs3:=hb3.size)) | (at_builtin;go_must (refine wpList_append_own _ rfl _ _ 118 rfl (w.heap.size+1) 145 i0 (.agg #[.string ⟨#[]⟩,.int .i64 0,.int .i64 0]) 3 32 U118 hi hz0 hz1 hz2 rfl (by decide) _ _ _ rfl (HO3.alloc _) ⟨w3.heap.size,0,none⟩ 1 1 [.string t.lit,.int .i64 t.far,.int .i64 t.len] rfl rfl (Zhr _ _ _ _ _) (one3 _ _ _ rfl rfl rfl) (ZaJ (by omega)) (by omega) (by simp at hgs3 |-;omega) ?_;intro v4 w4 hown4 hgrow4 _)))
      go_roundw
      case rel =>
       have hkl:=HK.out;have hl1:=HL.out;have htc:tcs (l++[t])=tcs l++[.string t.lit,.int .i64 t.far,.int .i64 t.len]:=Zal _ _;refine ⟨S2,l++[t],Tk.make st t,decide (t.lit.size ≠ 0),rfl,by rw [htc,List.length_append];exact hown4,HD2,HRn,by simp;omega,by omega,?_,hS2b,?_⟩
       ·rw [<-HD.out,show ((Tk.make st t).length:Int) - dict.size=(st.length:Int) - dict.size+t.lit.size+t.len by omega];exact (hm3.alloc _).grown (HO3.alloc _) hgrow4
       ·have hB3:=(G1.alloc hgs1 _).trans hb3;exact (hB3.alloc hB3.size _).grown hgrow4 (by have:=hB3.size;simp;omega) (fun k hk=>by have:=(HO3.lt k hk).1;omega)
      case measure=>exact HS.out
theorem Zos (dict s:ByteArray) (w:World) (hd:dict.size<=256) (hlong:1024<s.size->Zz dict s=none) :
 Calls Tryz.prog 150 #[.string dict,.string s] w fun e w'=>Below w.heap.size w w' ∧
  ((Zz dict s=none/\e=.returned (.tuple #[.slice none 0 0,.int .i64 1]))\/∃ l ad cap,Zz dict s=some l/\e=.returned (.tuple #[.slice ad l.length cap,.int .i64 0])/\SlAt w' ad l):=by
 by_cases hs:s.size<=1024
 ·exact ZkW dict s w hd hs
 ·exact (Zol dict s w hd (by omega)).mono fun e w' he=>⟨he.2,.inl ⟨hlong (by omega),he.1⟩⟩
end Go.Proofs.YtbjbjbpgmojcbacGreat
