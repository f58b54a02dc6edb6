/- A part of the proof: what it leans on. -/
import Derived.Lib.Strings
import Derived.Deep.DrawnRows
import Derived.OneCell
import Derived.BigRegion
import Derived.Test.YtbjbjbpgmojcbabGreatLsBook03
set_option maxRecDepth 4000
set_option maxHeartbeats 4000000
namespace Go.Proofs.YtbjbjbpgmojcbabGreat.Tk
open Go.Proofs.YtbjbjbpgmojcbabGreat
def one (s:ByteArray):Option (T × Nat) :=
 match Nm.Zl s.data.toList with
 | none=>none
 | some x =>
  if x.1 % 2=1 then
   match Nm.Zl (s.extract x.2 s.size).data.toList with
   | none=>none
   | some y=>some (⟨⟨#[]⟩,y.1,(x.1 / 2:Nat)⟩,x.2+y.2)
  else if s.size - x.2<x.1 / 2 then none else some (⟨s.extract x.2 (x.2+x.1 / 2),0,0⟩,x.2+x.1 / 2)
theorem Zab (s:ByteArray) (a b:Nat):(s.extract a b).data.toList=(s.data.toList.drop a).take (b - a):=Lib.extract_data s a b
theorem ZS (s:ByteArray) (a:Nat):(s.extract a s.size).data.toList=s.data.toList.drop a:=by
 rw [Zab,List.take_of_length_le];rw [List.length_drop];simp
theorem Zn (s:ByteArray) (a:Nat):(s.extract a s.size).size=s.size - a:=by simp
theorem Zdg {s:ByteArray} {t:T} {k:Nat} (h:one s=some (t,k)):1<=k/\k<=s.size:=by
 unfold one at h
 cases hf:Nm.Zl s.data.toList with
 | none=>rw [hf] at h;simp at h
 | some x =>
  rw [hf] at h;have hb:=Nm.Zai (n:=x.1) (k:=x.2) hf;have hk:x.2<=s.size:=by simpa using hb.2.2.1
  simp only at h;by_cases ho:x.1 % 2=1
  ·rw [if_pos ho] at h
   cases hg:Nm.Zl (s.extract x.2 s.size).data.toList with
   | none=>rw [hg] at h;simp at h
   | some y =>
    rw [hg] at h;have hb2:=Nm.Zai (n:=y.1) (k:=y.2) hg;rw [ZS] at hb2;simp only [Option.some.injEq,Prod.mk.injEq] at h;have h3:=hb2.2.2.1;rw [List.length_drop] at h3;have h4:s.data.toList.length=s.size:=by simp
    omega
  ·rw [if_neg ho] at h;by_cases hl:s.size - x.2<x.1 / 2
   ·rw [if_pos hl] at h;simp at h
   ·rw [if_neg hl] at h;simp only [Option.some.injEq,Prod.mk.injEq] at h;omega
def dec:Nat->ByteArray->Option (List T)
 | 0,s=>if s.size=0 then some [] else none
 | f+1,s=>if s.size=0 then some [] else
  match one s with
  | none=>none
  | some (t,k)=>(dec f (s.extract k s.size)).map (t :: ·)
theorem ZeG (f:Nat) {s:ByteArray} (h:s.size=0):dec f s=some []:=by cases f <;> simp [dec,h]
theorem Zqd:∀ (f g:Nat) (s:ByteArray),s.size<=f->s.size<=g->dec f s=dec g s:=by
 intro f
 induction f with
 | zero =>
  intro g s h1 h2;rw [ZeG _ (by omega),ZeG _ (by omega)]
 | succ f ih =>
  intro g s h1 h2;by_cases h0:s.size=0
  ·rw [ZeG _ h0,ZeG _ h0]
  ·cases g with
   | zero=>omega
   | succ g =>
    simp only [dec,h0,if_false]
    cases ho:one s with
    | none=>rfl
    | some x =>
     obtain ⟨t,k⟩:=x;have hp:=Zdg ho;simp only;rw [ih g (s.extract k s.size) (by rw [Zn];omega) (by rw [Zn];omega)]
def D (s:ByteArray):Option (List T):=dec s.size s
theorem Zqx {s:ByteArray} (h:s.size=0):D s=some []:=ZeG _ h
theorem Zhi {s:ByteArray} (h0:s.size ≠ 0) (h:one s=none):D s=none:=by
 unfold D
 obtain ⟨n,hn⟩:∃ n,s.size=n+1:=⟨s.size - 1,by omega⟩
 rw [hn,dec,if_neg (by omega),h]
theorem Zhq {s:ByteArray} {t:T} {k:Nat} (h:one s=some (t,k)):D s=(D (s.extract k s.size)).map (t :: ·):=by
 have hp:=Zdg h;unfold D
 obtain ⟨n,hn⟩:∃ n,s.size=n+1:=⟨s.size - 1,by omega⟩
 have e:dec s.size s=dec (n+1) s:=by rw [hn]
 rw [e,dec,if_neg (by omega),h];simp only;rw [Zqd n (s.extract k s.size).size (s.extract k s.size) (by rw [Zn];omega) (nl _)]
theorem Zij (d:Nat):∀ (l:List T) (s:List UInt8) (p:Bool) (s1:List UInt8),d<=s.length->s.length<=d+512->run d s p l=(0,s1)->s.length+l.length<=s1.length/\s1.length<=d+512:=by
 intro l
 induction l with
 | nil=>intro s p s1 h1 h2 h;simp [run] at h;subst h;simp;exact h2
 | cons t l ih =>
  intro s p s1 h1 h2 h
  have he:err d s p t=0:=by
   by_cases e:err d s p t=0
   ·exact e
   ·rw [Zaf e] at h;simp only [Prod.mk.injEq] at h;exact absurd h.1 e
  rw [Zal he] at h;have hm:=Zcs he;have h3:=hm.2.2.2.2
  have h5:1<=t.lit.size+t.len.toNat:=by
   by_cases h0:t.lit.size=0
   ·have:=hm.2.2.1 h0;omega
   ·omega
  have:=ih (make s t) _ s1 (by omega) (by omega) h;simp only [List.length_cons];omega
end Go.Proofs.YtbjbjbpgmojcbabGreat.Tk
namespace Go.Proofs.YtbjbjbpgmojcbabGreat
open Go.RowKit
attribute [local go_sem ↓] Go.wp_at_zero Go.wp_at_succ
theorem box6 {w w1:World} {x y z:Value} {T:TypeId} (hb:Below (w.alloc (.cells #[x,y,z] T)).heap.size (w.alloc (.cells #[x,y,z] T)) w1) :
 w1.cell? ⟨w.heap.size,0,none⟩=some x/\w1.cell? ⟨w.heap.size,1,none⟩=some y/\w1.cell? ⟨w.heap.size,2,none⟩=some z ∧
  w1.frozen? ⟨w.heap.size,0,none⟩=false/\w1.frozen? ⟨w.heap.size,1,none⟩=false/\w1.frozen? ⟨w.heap.size,2,none⟩=false:=by
 refine ⟨(hb.cell (by simp)).trans ?_,(hb.cell (by simp)).trans ?_,(hb.cell (by simp)).trans ?_,(hb.frozen (by simp)).trans ?_,(hb.frozen (by simp)).trans ?_,(hb.frozen (by simp)).trans ?_⟩
 ·rw [World.cell?_alloc_mark];rfl
 ·rw [World.cell?_alloc_mark];rfl
 ·rw [World.cell?_alloc_mark];rfl
 ·rw [World.frozen?_alloc_mark];simp
 ·rw [World.frozen?_alloc_mark];simp
 ·rw [World.frozen?_alloc_mark];simp
theorem set3 {B:Nat} {a w:World} (h:Below B a w) {g:Nat} (hg:B<=g) (x y z:Value):Below B a (((w.setCell ⟨g,0,none⟩ x).setCell ⟨g,1,none⟩ y).setCell ⟨g,2,none⟩ z) :=
 ((h.setCell (p:=⟨g,0,none⟩) hg _).setCell (p:=⟨g,1,none⟩) hg _).setCell (p:=⟨g,2,none⟩) hg _
theorem ZlM (s:ByteArray) (w:World) (hs:s.size<=281474976710656) (h:Nm.Zl s.data.toList=none) :
 Calls Tryz.prog 208 #[.string s] w fun e w'=>e=.returned (.tuple #[.agg #[.string ⟨#[]⟩,.int .i64 0,.int .i64 0],.string ⟨#[]⟩,.int .i64 1])/\Below w.heap.size w w':=by
 have hc:=fun w=>Zgg s w hs h
 clear h;go_enter Tryz.func208,Tryz.ntmps208
 go_wp2_with fail
 refine (hc _).mono ?_;rintro e w1 ⟨rfl,G⟩;clear hc;obtain ⟨q0,q1,q2,q3,q4,q5⟩:=box6 G;have G1:=bch ((bR _ _).alloc (nl _) _) G (nl _);go_wp2_with fail
 exact bodyPost_ret (v:=.tuple #[.agg #[.string ⟨#[]⟩,.int .i64 0,.int .i64 0],.string ⟨#[]⟩,.int .i64 1]) (by simp [results,Tryz.results208,go_sem,q0,q1,q2]) rfl ⟨rfl,set3 G1 (nl _) _ _ _⟩
theorem Zoh (s r:ByteArray) (w:World) (hs:s.size<=281474976710656) (n k f j:Nat) (h:Nm.Zl s.data.toList=some (n,k)) (hr:s.extract k s.size=r) (ho:n % 2=1) (hf:Nm.Zl r.data.toList=some (f,j)) :
 Calls Tryz.prog 208 #[.string s] w fun e w'=>e=.returned (.tuple #[.agg #[.string ⟨#[]⟩,.int .i64 f,.int .i64 (n / 2:Nat)],.string (r.extract j r.size),.int .i64 0])/\Below w.heap.size w w':=by
 have hc:=fun w=>Zbw s w n k hs h
 have hn:(n:Int)<=2147483647:=by have:=Nm.Zai h;omega
 rw [hr] at hc;have hc2:=fun w=>Zbw r w f j (by rw [<-hr];exact Nm.ZcM hs) hf
 have ho1:((n:Int) % 2 == 1)=true:=by simp;omega
 have ho2:(n:Int) % 2=1:=by omega
 have hq:((n / 2:Nat):Int)=(n:Int) / 2:=by omega
 rw [hq];clear h hf hr hq ho;go_enter Tryz.func208,Tryz.ntmps208
 go_wp2_with fail
 refine (hc _).mono ?_;rintro e w1 ⟨rfl,G⟩;clear hc;go_wp2_with fail
 refine (hc2 _).mono ?_;rintro e w2 ⟨rfl,G2⟩;clear hc2;have G3:=bch G G2 (nl _);obtain ⟨q0,q1,q2,q3,q4,q5⟩:=box6 G3;have G1:=bch ((bR _ _).alloc (nl _) _) G3 (nl _);clear G G2 G3;go_wp2_with fail
 exact bodyPost_ret (v:=.tuple #[.agg #[.string ⟨#[]⟩,.int .i64 f,.int .i64 ((n:Int) / 2)],.string (r.extract j r.size),.int .i64 0]) (by simp [results,Tryz.results208,go_sem,q0,q1,q2]) rfl ⟨rfl,set3 G1 (nl _) _ _ _⟩
theorem Zhw (s r:ByteArray) (w:World) (hs:s.size<=281474976710656) (n k:Nat) (h:Nm.Zl s.data.toList=some (n,k)) (hr:s.extract k s.size=r) (ho:n % 2=1) (hf:Nm.Zl r.data.toList=none) :
 Calls Tryz.prog 208 #[.string s] w fun e w'=>e=.returned (.tuple #[.agg #[.string ⟨#[]⟩,.int .i64 0,.int .i64 (n / 2:Nat)],.string ⟨#[]⟩,.int .i64 1])/\Below w.heap.size w w':=by
 have hc:=fun w=>Zbw s w n k hs h
 have hn:(n:Int)<=2147483647:=by have:=Nm.Zai h;omega
 rw [hr] at hc;have hc2:=fun w=>Zgg r w (by rw [<-hr];exact Nm.ZcM hs) hf
 have ho1:((n:Int) % 2 == 1)=true:=by simp;omega
 have ho2:(n:Int) % 2=1:=by omega
 have hq:((n / 2:Nat):Int)=(n:Int) / 2:=by omega
 rw [hq];clear h hf hr hq ho;go_enter Tryz.func208,Tryz.ntmps208
 go_wp2_with fail
 refine (hc _).mono ?_;rintro e w1 ⟨rfl,G⟩;clear hc;go_wp2_with fail
 refine (hc2 _).mono ?_;rintro e w2 ⟨rfl,G2⟩;clear hc2;have G3:=bch G G2 (nl _);obtain ⟨q0,q1,q2,q3,q4,q5⟩:=box6 G3;have G1:=bch ((bR _ _).alloc (nl _) _) G3 (nl _);clear G G2 G3;go_wp2_with fail
 exact bodyPost_ret (v:=.tuple #[.agg #[.string ⟨#[]⟩,.int .i64 0,.int .i64 ((n:Int) / 2)],.string ⟨#[]⟩,.int .i64 1]) (by simp [results,Tryz.results208,go_sem,q0,q1,q2]) rfl ⟨rfl,set3 G1 (nl _) _ _ _⟩
theorem ZfU (s r:ByteArray) (w:World) (hs:s.size<=281474976710656) (n k:Nat) (h:Nm.Zl s.data.toList=some (n,k)) (hr:s.extract k s.size=r) (ho:¬ n % 2=1) (hbig:r.size<n / 2) :
 Calls Tryz.prog 208 #[.string s] w fun e w'=>e=.returned (.tuple #[.agg #[.string ⟨#[]⟩,.int .i64 0,.int .i64 0],.string ⟨#[]⟩,.int .i64 1])/\Below w.heap.size w w':=by
 have hc:=fun w=>Zbw s w n k hs h
 have hn:(n:Int)<=2147483647:=by have:=Nm.Zai h;omega
 rw [hr] at hc;have ho1:((n:Int) % 2 == 1)=false:=by simp;omega
 have hb1:decide ((r.size:Int)<(n:Int) / 2)=true:=by simp;omega
 have hb2:(r.size:Int)<(n:Int) / 2:=by omega
 clear h hr hbig ho;go_enter Tryz.func208,Tryz.ntmps208
 go_wp2_with fail
 refine (hc _).mono ?_;rintro e w1 ⟨rfl,G⟩;clear hc;obtain ⟨q0,q1,q2,q3,q4,q5⟩:=box6 G;have G1:=bch ((bR _ _).alloc (nl _) _) G (nl _);go_wp2_with fail
 exact bodyPost_ret (v:=.tuple #[.agg #[.string ⟨#[]⟩,.int .i64 0,.int .i64 0],.string ⟨#[]⟩,.int .i64 1]) (by simp [results,Tryz.results208,go_sem,q0,q1,q2]) rfl ⟨rfl,set3 G1 (nl _) _ _ _⟩
theorem Zlq (s r:ByteArray) (w:World) (hs:s.size<=281474976710656) (n k m:Nat) (h:Nm.Zl s.data.toList=some (n,k)) (hr:s.extract k s.size=r) (ho:¬ n % 2=1) (hm:n / 2=m) (hbig:m<=r.size) :
 Calls Tryz.prog 208 #[.string s] w fun e w'=>e=.returned (.tuple #[.agg #[.string (r.extract 0 m),.int .i64 0,.int .i64 0],.string (r.extract m r.size),.int .i64 0])/\Below w.heap.size w w':=by
 have hc:=fun w=>Zbw s w n k hs h
 have hn:(n:Int)<=2147483647:=by have:=Nm.Zai h;omega
 rw [hr] at hc;have hrs:r.size<=281474976710656:=by rw [<-hr];exact Nm.ZcM hs
 have ho1:((n:Int) % 2 == 1)=false:=by simp;omega
 have hq:(n:Int) / 2=(m:Int):=by omega
 have hb1:decide ((r.size:Int)<(m:Int))=false:=by simp;omega
 have hb3:decide (r.size<m)=false:=by simp;omega
 have hi1:(0:Int)<=(m:Int):=by omega
 have hi2:(m:Int)<=(r.size:Int):=by omega
 clear h hr hbig ho hm;go_enter Tryz.func208,Tryz.ntmps208
 go_wp2_with fail
 refine (hc _).mono ?_;rintro e w1 ⟨rfl,G⟩;clear hc;go_wp2_with fail
 go_region_with (go_at_call 69;refine (ZP _ _ (Nm.ZcM hrs)).mono ?_;rintro e w2 ⟨rfl,hb⟩;have G3:=bch G.drew hb (nl _);obtain ⟨q0,q1,q2,q3,q4,q5⟩:=box6 G3)
 all_goals go_wp2_with fail
 all_goals exact bodyPost_ret (v:=.tuple #[.agg #[.string (r.extract 0 m),.int .i64 0,.int .i64 0],.string (r.extract m r.size),.int .i64 0]) (by simp [results,Tryz.results208,go_sem,q0,q1,q2]) rfl ⟨rfl,set3 (bch ((bR _ _).alloc (nl _) _) G3 (nl _)) (nl _) _ _ _⟩
theorem ZoZ (s:ByteArray) (w:World) (hs:s.size<=281474976710656) (h:Tk.one s=none) :
 Calls Tryz.prog 208 #[.string s] w fun e w'=>∃ lit far len r,e=.returned (.tuple #[.agg #[.string lit,.int .i64 far,.int .i64 len],.string r,.int .i64 1])/\Below w.heap.size w w':=by
 unfold Tk.one at h
 cases hf:Nm.Zl s.data.toList with
 | none=>exact (ZlM s w hs hf).mono fun e w' he=>⟨_,_,_,_,he.1,he.2⟩
 | some x =>
  rw [hf] at h;simp only at h;by_cases ho:x.1 % 2=1
  ·rw [if_pos ho] at h
   cases hg:Nm.Zl (s.extract x.2 s.size).data.toList with
   | none=>exact (Zhw s _ w hs x.1 x.2 hf rfl ho hg).mono fun e w' he=>⟨_,_,_,_,he.1,he.2⟩
   | some y=>rw [hg] at h;simp at h
  ·rw [if_neg ho] at h;by_cases hl:s.size - x.2<x.1 / 2
   ·exact (ZfU s _ w hs x.1 x.2 hf rfl ho (by rw [Tk.Zn];exact hl)).mono fun e w' he=>⟨_,_,_,_,he.1,he.2⟩
   ·rw [if_neg hl] at h;simp at h
theorem ZoG (s:ByteArray) (w:World) (hs:s.size<=281474976710656) (t:Tk.T) (k:Nat) (h:Tk.one s=some (t,k)) :
 Calls Tryz.prog 208 #[.string s] w fun e w'=>e=.returned (.tuple #[.agg #[.string t.lit,.int .i64 t.far,.int .i64 t.len],.string (s.extract k s.size),.int .i64 0])/\Below w.heap.size w w':=by
 unfold Tk.one at h
 cases hf:Nm.Zl s.data.toList with
 | none=>rw [hf] at h;simp at h
 | some x =>
  rw [hf] at h;simp only at h;by_cases ho:x.1 % 2=1
  ·rw [if_pos ho] at h
   cases hg:Nm.Zl (s.extract x.2 s.size).data.toList with
   | none=>rw [hg] at h;simp at h
   | some y =>
    rw [hg] at h;simp only [Option.some.injEq,Prod.mk.injEq] at h;obtain ⟨rfl,rfl⟩:=h;have hc:=Zoh s _ w hs x.1 x.2 y.1 y.2 hf rfl ho hg
    have e:(s.extract x.2 s.size).extract y.2 (s.extract x.2 s.size).size=s.extract (x.2+y.2) s.size:=by
     apply Nm.ZG;rw [Tk.ZS,Tk.ZS,Tk.ZS,List.drop_drop]
    rw [e] at hc;exact hc
  ·rw [if_neg ho] at h;by_cases hl:s.size - x.2<x.1 / 2
   ·rw [if_pos hl] at h;simp at h
   ·rw [if_neg hl] at h;simp only [Option.some.injEq,Prod.mk.injEq] at h;obtain ⟨rfl,rfl⟩:=h;have hc:=Zlq s _ w hs x.1 x.2 (x.1 / 2) hf rfl ho rfl (by rw [Tk.Zn];omega)
    have e1:(s.extract x.2 s.size).extract 0 (x.1 / 2)=s.extract x.2 (x.2+x.1 / 2):=by
     apply Nm.ZG;rw [Tk.Zab,Tk.ZS,Tk.Zab];simp
    have e2:(s.extract x.2 s.size).extract (x.1 / 2) (s.extract x.2 s.size).size=s.extract (x.2+x.1 / 2) s.size:=by
     apply Nm.ZG;rw [Tk.ZS,Tk.ZS,Tk.ZS,List.drop_drop]
    rw [e1,e2] at hc;exact hc
def tcs:List Tk.T->List Value
 | []=>[]
 | t :: l=>.string t.lit :: .int .i64 t.far :: .int .i64 t.len :: tcs l
theorem Zao (a b:List Tk.T):tcs (a++b)=tcs a++tcs b:=by
 induction a with
 | nil=>rfl
 | cons t a ih=>simp [tcs,ih]
theorem ZlG (a:List Tk.T):(tcs a).length=a.length*3:=by
 induction a with
 | nil=>rfl
 | cons t a ih=>simp [tcs,ih];omega
theorem ZuW:∀ (l:List Tk.T) (i:Nat) (h:i<l.length),(tcs l)[i*3]?=some (.string l[i].lit)/\(tcs l)[i*3+1]?=some (.int .i64 l[i].far)/\(tcs l)[i*3+2]?=some (.int .i64 l[i].len):=by
 intro l
 induction l with
 | nil=>intro i h;simp at h
 | cons t l ih =>
  intro i h
  cases i with
  | zero=>simp [tcs]
  | succ i =>
   have:=ih i (by simpa using h);rw [show (i+1)*3=i*3+3 by omega,show i*3+3+1=i*3+1+3 by omega,show i*3+3+2=i*3+2+3 by omega];simpa [tcs] using this
theorem ZcG:(Tryz.prog.info? 165).map (fun i=>(i.zero,i.size,i.bytes))=some (some (.agg #[.string ⟨#[]⟩,.int .i64 0,.int .i64 0]),3,32):=by kernel_rfl
theorem ZbN {w:World} {B n:Nat} {v:Value} {l:List Tk.T} (h:w.ownsRow B 165 3 v n (tcs l)):∃ ad cap,v=.slice ad l.length cap/\SlAt w ad l:=by
 have hlen:=h.1;rw [ZlG] at hlen;have hn:n=l.length:=by omega
 subst hn;rcases h.2 with ⟨rfl,h0⟩ | ⟨g,cap,cur,rfl,hb,hg,hnc,hcm,hcs,htk⟩
 ·have:l=[]:=List.eq_nil_of_length_eq_zero h0;subst this;exact ⟨none,0,rfl,.inl rfl⟩
 ·refine ⟨some ⟨g,0,none⟩,cap,rfl,.inr ⟨g,0,rfl,(aG.1 hg).1,fun i hi=>?_⟩⟩
  have hat:∀ j u,(tcs l)[j]?=some u->w.cell? ⟨g,0+j,none⟩=some u:=by
   intro j u hj;rw [Nat.zero_add,cell_of_row w g j cur _ _ hg];rw [<-htk,List.getElem?_take] at hj;split at hj
   ·simpa using hj
   ·simp at hj
  have:=ZuW l i hi;exact ⟨hat _ _ this.1,hat _ _ this.2.1,hat _ _ this.2.2⟩
theorem one3 (x y z:Value) (hx:x.oneCell'=true) (hy:y.oneCell'=true) (hz:z.oneCell'=true):∀ u ∈ [x,y,z],u.oneCell'=true:=by
 intro u hu;simp at hu;rcases hu with rfl | rfl | rfl <;> assumption
theorem ZgB (w:World) (x y z:Value) (T:TypeId):∀ j u,[x,y,z][j]?=some u->(w.alloc (.cells #[x,y,z] T)).cell? ((⟨w.heap.size,0,none⟩:Addr).add j)=some u:=by
 intro j u hj;rw [ZaZ,World.cell?_alloc_mark];simpa using hj
theorem ZnQ (dict s:ByteArray) (w:World) (hd:dict.size<=256) (hs:1024<s.size) :
 Calls Tryz.prog 187 #[.string dict,.string s] w fun e w'=>e=.returned (.tuple #[.slice none 0 0,.int .i64 1])/\Below w.heap.size w w':=by
 have h:decide ((256:Int)<(dict.size:Int))=false:=by simp;omega
 have h':(dict.size:Int)<=256:=by omega
 have h2:decide ((1024:Int)<(s.size:Int))=true:=by simp;omega
 have h2':(1024:Int)<(s.size:Int):=by omega
 go_enter Tryz.func187,Tryz.ntmps187
 go_wp2_with fail
 go_step3
 go_wp2_with fail
 rw [Exit.noGoto_ret];go_ret2
 exact ⟨rfl,bR _ _⟩
def ZC (dict s:ByteArray):Option (List Tk.T) :=
 match Tk.D s with
 | none=>none
 | some l=>if (Tk.run dict.size dict.data.toList false l).1=0 then some l else none
def ZuR:Value->Nat | .string s=>s.size | _=>0
theorem Zh {w w':World} {B n size:Nat} {e:TypeId} {v:Value} {xs:List Value} (h:w.ownsRow B e size v n xs) (hb:Below w.heap.size w w'):w'.ownsRow B e size v n xs :=
 h.kept (row:=none) ⟨hb.os,hb.tape,hb.output,hb.size,fun k hk _=>hb.block k hk⟩ (by cases v.ownBlock <;> simp)
theorem Ztw {w w':World} {B B' g n size:Nat} {e:TypeId} {v:Value} {xs:List Value} (h:w.ownsRow B e size v n xs) (hb:Below B' w w') (hk:∀ k,k<w.heap.size->k ≠ g->w'.heap[k]?=w.heap[k]?) (hg:g<B):w'.ownsRow B e size v n xs :=
 h.kept (row:=some g) ⟨hb.os,hb.tape,hb.output,hb.size,fun k hk1 hne=>hk k hk1 (fun e=>hne (by rw [e]))⟩ (.inr (fun e=>by have:=(h.lt g e).1;omega))
theorem Zss {w w':World} {g:Nat} {x y z:Value} {T:TypeId} (hk:∀ k,k<(w.alloc (.cells #[x,y,z] T)).heap.size->k ≠ g->w'.heap[k]?=(w.alloc (.cells #[x,y,z] T)).heap[k]?) (hg:g<w.heap.size) :
 w'.cell? ⟨w.heap.size,0,none⟩=some x/\w'.cell? ⟨w.heap.size,1,none⟩=some y/\w'.cell? ⟨w.heap.size,2,none⟩=some z:=by
 have e:∀ j,w'.cell? ⟨w.heap.size,j,none⟩=(w.alloc (.cells #[x,y,z] T)).cell? ⟨w.heap.size,j,none⟩:=fun j=>cB (w:=w.alloc (.cells #[x,y,z] T)) (hk w.heap.size (by simp) (by omega))
 refine ⟨?_,?_,?_⟩
 ·rw [e,World.cell?_alloc_mark];rfl
 ·rw [e,World.cell?_alloc_mark];rfl
 ·rw [e,World.cell?_alloc_mark];rfl
theorem MkAt.grown {w w':World} {B g n:Nat} {D M:Int} {L:Bool} {v:Value} {xs:List Value} {e:TypeId} (h:MkAt w B g D M L) (ho:w.ownsRow (g+1) e 3 v n xs) (hg:w.grownBy w' v.ownBlock):MkAt w' B g D M L:=by
 obtain ⟨a,b,c0,c1,c2,f1,f2⟩:=h;have hb:=hg.block g b (fun e=>by have:=(ho.lt g e.symm).1;omega);refine ⟨a,nT b hg.size,?_,?_,?_,?_,?_⟩
 ·rw [World.cell?_of_block (w:=w) (by exact hb)];exact c0
 ·rw [World.cell?_of_block (w:=w) (by exact hb)];exact c1
 ·rw [World.cell?_of_block (w:=w) (by exact hb)];exact c2
 ·rw [World.frozen?_of_block (w:=w) (by exact hb)];exact f1
 ·rw [World.frozen?_of_block (w:=w) (by exact hb)];exact f2
theorem Zmx {S:ByteArray} {t:Tk.T} {k:Nat} (h:Tk.one S=some (t,k)):t.lit.size<=S.size:=by
 unfold Tk.one at h
 cases hf:Nm.Zl S.data.toList with
 | none=>rw [hf] at h;simp at h
 | some x =>
  rw [hf] at h;simp only at h;split at h
  ·split at h
   ·simp at h
   ·simp only [Option.some.injEq,Prod.mk.injEq] at h;rw [<-h.1];exact Nat.zero_le _
  ·split at h
   ·simp at h
   ·simp only [Option.some.injEq,Prod.mk.injEq] at h;rw [<-h.1];exact Nm.ZcM (nl _)
theorem Zis {dict s S:ByteArray} {l:List Tk.T} (h1:Tk.D s=(Tk.D S).map (l++·)) (h2:Tk.D S=none):ZC dict s=none:=by
 unfold ZC;rw [h1,h2];rfl
theorem ZlS {dict s S S2:ByteArray} {l:List Tk.T} {t:Tk.T} {k:Nat} {st:List UInt8} {p:Bool} (h1:Tk.D s=(Tk.D S).map (l++·)) (h2:Tk.one S=some (t,k)) (h3:S.extract k S.size=S2)
 (h4:∀ m,Tk.run dict.size dict.data.toList false (l++m)=Tk.run dict.size st p m) (h5:Tk.err dict.size st p t ≠ 0):ZC dict s=none:=by
 unfold ZC;rw [h1,Tk.Zhq h2,h3]
 cases Tk.D S2 with
 | none=>rfl
 | some m =>
  simp only [Option.map_some];rw [h4,Tk.Zaf h5,if_neg h5]
theorem ZlO {dict s S:ByteArray} {l:List Tk.T} {st:List UInt8} {p:Bool} (h1:Tk.D s=(Tk.D S).map (l++·)) (h2:S.size=0)
 (h4:∀ m,Tk.run dict.size dict.data.toList false (l++m)=Tk.run dict.size st p m):ZC dict s=some l:=by
 unfold ZC;rw [h1,Tk.Zqx h2];simp only [Option.map_some,List.append_nil];have:=h4 [];rw [List.append_nil] at this;rw [this];rfl
theorem Zld (dict s:ByteArray) (w:World) (hd:dict.size<=256) (hs:s.size<=1024) :
 Calls Tryz.prog 187 #[.string dict,.string s] w fun e w'=>Below w.heap.size w w' ∧
  ((ZC dict s=none/\e=.returned (.tuple #[.slice none 0 0,.int .i64 1]))\/∃ l ad cap,ZC dict s=some l/\e=.returned (.tuple #[.slice ad l.length cap,.int .i64 0])/\SlAt w' ad l):=by
 have h:decide ((256:Int)<(dict.size:Int))=false:=by simp;omega
 have h':(dict.size:Int)<=256:=by omega
 have h2:decide ((1024:Int)<(s.size:Int))=false:=by simp;omega
 have h2':(s.size:Int)<=1024:=by omega
 obtain ⟨i0,hi,hz0,hz1,hz2⟩:=info_parts ZcG;generalize hRO:ZC dict s=RO at *;have HRO:Hid (ZC dict s=RO):=hRO;clear hRO;go_enter Tryz.func187,Tryz.ntmps187
 go_wp2_with fail
 go_step3
 go_wp2_with fail
 go_step3
 go_wp2_with fail
 go_loopw [1,6] (fun x v wr=>∃ (S:ByteArray) (l:List Tk.T) (st:List UInt8) (p:Bool),x=.string S/\wr.ownsRow (w.heap.size+1) 165 3 v l.length (tcs l)/\Hid (Tk.D s=(Tk.D S).map (l++·)) ∧
  Hid (∀ m,Tk.run dict.size dict.data.toList false (l++m)=Tk.run dict.size st p m)/\l.length+dict.size<=st.length/\st.length<=dict.size+512/\MkAt wr w.heap.size w.heap.size dict.size ((st.length:Int) - dict.size) p/\S.size<=1024/\Below w.heap.size w wr)
  (fun x _ _=>ZuR x)
 case atStart =>
  refine ⟨s,[],dict.data.toList,false,rfl,World.ownsRow_nil _ _ _ _,?_,fun m=>rfl,by simp,by simp,?_,hs,(bR _ _).alloc (nl _) _⟩
  ·show _=_
   cases Tk.D s <;> rfl
  ·have e:((dict.data.toList.length:Int) - dict.size)=0:=by simp
   rw [e];exact ⟨nl _,by simp,by rw [World.cell?_alloc_mark];rfl,by rw [World.cell?_alloc_mark];rfl,by rw [World.cell?_alloc_mark];rfl,by rw [World.frozen?_alloc_mark];simp,by rw [World.frozen?_alloc_mark];simp⟩
 case round =>
  obtain ⟨S,l,st,p,rfl,hown,hD,hrun,hs1,hs2,hm,hS,G⟩:=hrel;by_cases h0:S.size=0
  ·have hE0:=Zaq h0
   have HX:Hid (RO=some l):=by
    show _=_;rw [<-HRO.out];exact ZlO hD.out h0 hrun.out
   clear hm;go_wp2_with fail
   try rw [Exit.noGoto_ret]
   go_ret2
   obtain ⟨ad,cap,hv,hsl⟩:=ZbN hown;exact ⟨G,.inr ⟨l,ad,cap,HX.out,by rw [<-hv];rfl,hsl⟩⟩
  ·have hE0:=ZX h0;have hgs:=G.size;have hgm:=hm.2.1
   cases ho:Tk.one S with
   | none =>
    have HX:Hid (RO=none):=by
     show _=_;rw [<-HRO.out];exact Zis hD.out (Tk.Zhi h0 ho)
    have hc:=fun w=>ZoZ S w (by omega) ho
    clear hm hD hrun ho;go_wp2_with fail
    refine (hc _).mono ?_;rintro e w1 ⟨lit,far,len,r,rfl,hb1⟩;clear hc;go_wp2_with fail
    try rw [Exit.noGoto_ret]
    go_ret2
    exact ⟨(bch G hb1 (nl _)).alloc (nt hgs hb1.size) _,.inl ⟨HX.out,rfl⟩⟩
   | some x =>
    obtain ⟨t,kk⟩:=x;have hc:=fun w=>ZoG S w (by omega) t kk ho
    have hpos:=Tk.Zdg ho
    obtain ⟨S2,hS2⟩:∃ S2,S.extract kk S.size=S2:=⟨_,rfl⟩
    rw [hS2] at hc;have hS2s:S2.size<S.size:=by rw [<-hS2,Tk.Zn];omega
    have hS2b:S2.size<=1024:=by omega
    have hlit:t.lit.size<=140737488355328:=by
     have:=Zmx ho;omega
    have HB:Hid (Tk.err dict.size st p t ≠ 0->RO=none):=by
     intro he;rw [<-HRO.out];exact ZlS hD.out ho hS2 hrun.out he
    have HD2:Hid (Tk.D s=(Tk.D S2).map ((l++[t])++·)):=by
     show _=_;rw [hD.out,Tk.Zhq ho,hS2]
     cases Tk.D S2 <;> simp
    have hef:=ZjF dict.size st p t _ rfl;have HE:Hid (Tk.err dict.size st p t=if fits dict.size ((st.length:Int) - dict.size) p t.lit t.far t.len=false then 1 else if 512<(st.length:Int) - dict.size+t.lit.size+t.len then 2 else 0):=hef;have Hm:Hid (MkAt wr w.heap.size w.heap.size dict.size ((st.length:Int) - dict.size) p):=hm;have HO:Hid (wr.ownsRow (w.heap.size+1) 165 3 u6 l.length (tcs l)):=hown;have hM0:0<=(st.length:Int) - dict.size:=by omega
    have hM1:(st.length:Int) - dict.size<=512:=by omega
    have hD0:(0:Int)<=(dict.size:Int):=by omega
    have HS:Hid (S2.size<S.size):=hS2s;clear hm hD ho hef hown hS2 hpos hS2s
    cases hF:fits dict.size ((st.length:Int) - dict.size) p t.lit t.far t.len with
    | false =>
     have HX:Hid (RO=none):=HB.out (by rw [HE.out,if_pos hF];omega);go_wp2_with fail
     refine (hc _).mono ?_;rintro e w1 ⟨rfl,hb1⟩;clear hc
     have Hm1:=(Hm.out.below hb1)
     have G1:=bch G hb1 (nl _);have hgs1:=G1.size;go_wp2_with (go_at_call 178;go_must (refine (ZjC w.heap.size w.heap.size dict.size ((st.length:Int) - dict.size) p t.lit t.far t.len _ (Hm1.alloc _) hD0 h' hM0 hM1 hF).mono ?_;rintro e w3 ⟨rfl,hb3⟩))
     try rw [Exit.noGoto_ret]
     go_ret2
     exact ⟨bch (G1.alloc hgs1 _) hb3 (nl _),.inl ⟨HX.out,rfl⟩⟩
    | true =>
     have hln:=Zkw hF;by_cases hbig:512<(st.length:Int) - dict.size+t.lit.size+t.len
     ·have HX:Hid (RO=none):=HB.out (by rw [HE.out,if_neg (by rw [hF];simp),if_pos hbig];omega);go_wp2_with fail
      refine (hc _).mono ?_;rintro e w1 ⟨rfl,hb1⟩;clear hc
      have Hm1:=(Hm.out.below hb1)
      have G1:=bch G hb1 (nl _);have hgs1:=G1.size;go_wp2_with (go_at_call 178;go_must (refine (Zjx w.heap.size w.heap.size dict.size ((st.length:Int) - dict.size) p t.lit t.far t.len _ (Hm1.alloc _) hD0 h' hM0 hM1 hlit hln hF hbig).mono ?_;rintro e w3 ⟨rfl,hb3⟩))
      try rw [Exit.noGoto_ret]
      go_ret2
      exact ⟨bch (G1.alloc hgs1 _) hb3 (nl _),.inl ⟨HX.out,rfl⟩⟩
     ·have he:Tk.err dict.size st p t=0:=by rw [HE.out,if_neg (by rw [hF];simp),if_neg hbig]
      have hmk:=Tk.Zcs he;have HK:Hid ((Tk.make st t).length=st.length+t.lit.size+t.len.toNat):=hmk.1
      have HL:Hid (1<=t.lit.size+t.len.toNat):=by
       show _<=_;by_cases h0:t.lit.size=0
       ·have:=hmk.2.2.1 h0;omega
       ·omega
      have HRn:Hid (∀ m,Tk.run dict.size dict.data.toList false ((l++[t])++m)=Tk.run dict.size (Tk.make st t) (decide (t.lit.size ≠ 0)) m):=by
       intro m;rw [List.append_assoc,hrun.out];exact Tk.Zal he
      have HD:Hid ((!t.lit.toList.isEmpty)=decide (t.lit.size ≠ 0)):=by
       show _=_;by_cases h0:t.lit.size=0
       ·rw [Zaq h0];simp [h0]
       ·rw [ZX h0];simp [h0]
      have hl512:l.length<=512:=by omega
      clear he hmk;go_wp2_with fail
      refine (hc _).mono ?_;rintro e w1 ⟨rfl,hb1⟩;clear hc
      have Hm1:=(Hm.out.below hb1)
      have G1:=bch G hb1 (nl _);have hgs1:=G1.size;have hgm1:w.heap.size<w1.heap.size:=nT hgm hb1.size;have HO1:=Zh HO.out hb1;go_wp2_with (first | (go_at_call 178;go_must (refine (Zrv w.heap.size w.heap.size dict.size ((st.length:Int) - dict.size) p t.lit t.far t.len _ (Hm1.alloc _) hD0 h' hM0 hM1 hln hF (by omega)).mono ?_;rintro e w3 ⟨rfl,hb3,hm3,hk3⟩;obtain ⟨q0,q1,q2⟩:=Zss hk3.out hgm1;have HO3:=Ztw (HO1.alloc _) hb3 hk3.out (Nat.lt_succ_self _);have hgs3:=hb3.size)) | (at_builtin;go_must (refine wpList_append_own _ rfl _ _ 131 rfl (w.heap.size+1) 165 i0 (.agg #[.string ⟨#[]⟩,.int .i64 0,.int .i64 0]) 3 32 U131 hi hz0 hz1 hz2 rfl (by decide) _ _ _ rfl (HO3.alloc _) ⟨w3.heap.size,0,none⟩ 1 1 [.string t.lit,.int .i64 t.far,.int .i64 t.len] rfl rfl (ZgB _ _ _ _ _) (one3 _ _ _ rfl rfl rfl) (ZaK (by omega)) (by omega) (by simp at hgs3 |-;omega) ?_;intro v4 w4 hown4 hgrow4 _)))
      go_roundw
      case rel =>
       have hkl:=HK.out;have hl1:=HL.out;have htc:tcs (l++[t])=tcs l++[.string t.lit,.int .i64 t.far,.int .i64 t.len]:=Zao _ _;refine ⟨S2,l++[t],Tk.make st t,decide (t.lit.size ≠ 0),rfl,by rw [htc,List.length_append];exact hown4,HD2,HRn,by simp;omega,by omega,?_,hS2b,?_⟩
       ·rw [<-HD.out,show ((Tk.make st t).length:Int) - dict.size=(st.length:Int) - dict.size+t.lit.size+t.len by omega];exact (hm3.alloc _).grown (HO3.alloc _) hgrow4
       ·have hB3:=(G1.alloc hgs1 _).trans hb3;exact (hB3.alloc hB3.size _).grown hgrow4 (by have:=hB3.size;simp;omega) (fun k hk=>by have:=(HO3.lt k hk).1;omega)
      case measure=>exact HS.out
theorem Zpu (dict s:ByteArray) (w:World) (hd:dict.size<=256) (hlong:1024<s.size->ZC dict s=none) :
 Calls Tryz.prog 187 #[.string dict,.string s] w fun e w'=>Below w.heap.size w w' ∧
  ((ZC dict s=none/\e=.returned (.tuple #[.slice none 0 0,.int .i64 1]))\/∃ l ad cap,ZC dict s=some l/\e=.returned (.tuple #[.slice ad l.length cap,.int .i64 0])/\SlAt w' ad l):=by
 by_cases hs:s.size<=1024
 ·exact Zld dict s w hd hs
 ·exact (ZnQ dict s w hd (by omega)).mono fun e w' he=>⟨he.2,.inl ⟨hlong (by omega),he.1⟩⟩
open Go.Maps Go.ChangeShapes
theorem ZoU:(Tryz.prog.info? 3).map (fun i=>(i.zero,i.size,i.bytes))=some (some (.int .i64 0),1,8):=by kernel_rfl
theorem Zmy (s:ByteArray) (r:Nat):Tk.win s.data.toList r=(s.extract r (r+3)).data.toList:=by
 rw [Tk.Zab,show r+3 - r=3 by omega];rfl
theorem ZeP {w:World} {base gp bm r:Nat} {No:Nat->Prop} {s:ByteArray} (a:Nat) (h:PastAt w base gp bm No s r) (hr:a+3<=s.size->r=a) (ha:a<=s.size) (hs:s.size<=2000) :
 Calls Tryz.prog 157 #[.pointer (some ⟨gp,0,none⟩),.int .i64 a] w fun e w'=>e=.returned (.tuple #[.int .i64 ((Tk.lng s.data.toList a).1:Nat),.int .i64 ((Tk.lng s.data.toList a).2:Nat)])/\∃ n,w'=w.drewN n:=by
 have hl:s.data.toList.length=s.size:=by simp
 by_cases hm:a+3<=s.size
 ·obtain rfl:=hr hm;obtain ⟨ad,cap,hlk,hcl⟩:=ZnH h (by omega) (k:=s.extract r (r+3)) (nt (Nm.ZcM (nl _)) (by unfold maxLen;omega));rw [<-Zmy] at hlk hcl
  have hlng:Tk.lng s.data.toList r=(Tk.plc s.data.toList (Tk.win s.data.toList r) r).reverse.foldl (Tk.stp s.data.toList r (Tk.most s.data.toList r)) (0,0):=by
   unfold Tk.lng;rw [if_neg (by unfold Tk.most;omega)]
  rw [hlng];have hlen:=Tk.Ztq s.data.toList (Tk.win s.data.toList r) r;rcases hcl with h0 | ⟨g,rfl,hcell⟩
  ·exact ZdF gp bm 0 cap s r _ _ ad w h.c0 h.c1 hs hm (by show _=_;unfold Tk.most;rw [hl]) (by omega) hlk (.inl h0)
  ·exact ZdF gp bm g cap s r _ _ _ w h.c0 h.c1 hs hm (by show _=_;unfold Tk.most;rw [hl]) (by omega) hlk (.inr ⟨rfl,fun i p hp=>⟨Tk.ZuG (List.mem_of_getElem? hp),hcell i p hp⟩⟩)
 ·have hlng:Tk.lng s.data.toList a=(0,0):=by
   unfold Tk.lng;rw [if_pos (by unfold Tk.most;omega)]
  rw [hlng];exact Zgh gp s a w h.c0 hs (by omega) ha
def ZeT (w:World) (p:Addr):Nat:=match w.cell? p with | some v=>(intOf v).toNat | none=>0
theorem ZgU {w:World} {base gp bm r:Nat} {No:Nat->Prop} {s:ByteArray} (a:Nat) (h:PastAt w base gp bm No s r) (hno:∀ g,No g->g<w.heap.size) (hr:r<=a) (ha:a<=s.size) (hs:s.size<=2000) :
 Calls Tryz.prog 156 #[.pointer (some ⟨gp,0,none⟩),.int .i64 a] w fun e w'=>e=.returned (.tuple #[])/\Keeps w w' base gp bm No/\∃ r',r<=r'/\r'<=a/\(a+3<=s.size->r'=a)/\PastAt w' base gp bm No s r':=by
 obtain ⟨i0,hi,hz0,hz1,hz2⟩:=info_parts ZoU;go_enter Tryz.func156,Tryz.ntmps156
 go_wp2_with fail
 go_loopw [4] (fun _ wr=>∃ q:Nat,r<=q/\q<=a/\PastAt wr base gp bm No s q/\Keeps w wr base gp bm No) (fun _ wr=>a - ZeT wr ⟨gp,2,none⟩)
 case atStart=>exact ⟨r,nl _,hr,h,Keeps.refl _ _ _ _ _⟩
 case round =>
  obtain ⟨q,hq1,hq2,hp,G⟩:=hrel;have Hp:Hid (PastAt wr base gp bm No s q):=hp;obtain ⟨c0,c1,c2,f2,hgb,hne,hbs,-⟩:=hp;have hw3:IntKind.i64.wrap ((q:Int)+3)=(q:Int)+3:=IntWalk.i64_in _ ⟨by omega,by omega⟩;by_cases h1:q<a
  ·have d1:decide ((q:Int)<(a:Int))=true:=by simp;omega
   have d1':decide (q<a)=true:=by simp;omega
   by_cases h2:q+3<=s.size
   ·have d2:decide ((q:Int)+3<=(s.size:Int))=true:=by simp;omega
    have hsl:=Zee s (q:Int) ((q:Int)+3) q (q+3) rfl (by omega) (by omega) (by omega);go_wp2_with fail
    go_quiet (fail)
    go_wp2_with fail
    go_quiet (fail)
    go_wp2_with fail
    generalize hW:(wr.drewN _).drewN _=W;have hbel:Below wr.heap.size wr W:=by rw [<-hW];exact below_drewN (below_drewN (bR _ _) _) _
    have hpW:=Hp.out.below hbel;have hsz:wr.heap.size=W.heap.size:=by rw [<-hW];rfl
    clear hW;obtain ⟨v,zs,hlk,hoi,hzl,hback⟩:=ZlU hpW (by omega) (k:=s.extract q (q+3)) (nt (Nm.ZcM (nl _)) (by unfold maxLen;omega)) (Zmy s q)
    have hbmW:bm<W.heap.size:=by
     obtain ⟨D,_,ho,_⟩:=hpW.map;obtain ⟨es,clock,hb,_⟩:=ho;exact (aG.1 hb).1
    have hgpW:gp<W.heap.size:=nT hgb hpW.bs;have hbsW:=hpW.bs;have HpW:Hid (PastAt W base gp bm No s q):=hpW;have e0:=hpW.c0;have e1:=hpW.c1;have e2:=hpW.c2;have ef:=hpW.f2;have C2:Hid (wr.cell? ⟨gp,2,none⟩=some (.int .i64 (q:Nat))):=c2;clear hpW c0 c1 c2 f2;have hlk1:(Instr.lookup 173 (.map (some bm)) (.string (s.extract q (q+3))) false).run Tryz.prog W.drew=.ok v W.drew:=hlk _ rfl;have hlk2:∀ o,(Instr.lookup 173 (.map (some bm)) (.string (s.extract q (q+3))) false).run Tryz.prog (W.alloc o).drew=.ok v (W.alloc o).drew:=fun o=>hlk _ (Below.heap_alloc W o bm hbmW)
    clear hlk;have hoiD:∀ o,(W.drew.alloc o).ownsRow base 3 1 v zs.length (zs.map (Value.int .i64)):=fun o=>(Zh hoi (bR _ _).drew).alloc o
    have hnov:∀ g,v.ownBlock=some g->base<=g:=fun g hg=>(hoi.lt g hg).1
    have hnw:=World.new_ne W.drew ⟨gp,1,none⟩ e1;have hnw2:=World.new_ne W.drew ⟨gp,2,none⟩ e2;have hnoW:∀ g,No g->g<W.heap.size:=fun g hg=>by have:=hno g hg;have:=G.size;omega
    have HG:Hid (Keeps w W base gp bm No):=G.trans (Keeps.of_below hbel)
    have HL:Hid (∀ w1 g cp,W.grownBy w1 v.ownBlock->w1.ownsRow base 3 1 (.slice (some ⟨g,0,none⟩) (zs.length+1) cp) (zs.length+1) (zs.map (Value.int .i64)++[.int .i64 (q:Nat)])->(v.ownBlock=some g\/W.heap.size<=g) →
     ∃ w2,(Instr.mapUpdate 173 (.map (some bm)) (.string (s.extract q (q+3))) (.slice (some ⟨g,0,none⟩) (zs.length+1) cp)).run Tryz.prog w1=.ok () w2 ∧
      (w1.cell? ⟨gp,1,none⟩=some (.map (some bm))/\w1.cell? ⟨gp,2,none⟩=some (.int .i64 (q:Nat)))/\(w2.cell? ⟨gp,1,none⟩=some (.map (some bm))/\w2.cell? ⟨gp,2,none⟩=some (.int .i64 (q:Nat)))/\w2.frozen? ⟨gp,2,none⟩=false ∧
      Hid (PastAt (w2.setCell ⟨gp,2,none⟩ (.int .i64 ((q+1:Nat):Int))) base gp bm No s (q+1))/\Hid (Keeps w (w2.setCell ⟨gp,2,none⟩ (.int .i64 ((q+1:Nat):Int))) base gp bm No)):=by
     intro w1 g cp hg1 hown1 hloc;obtain ⟨w2,hrun2,hg2,hmap2,hk2⟩:=hback w1 _ hg1 hown1 (hloc.imp id (fun hge=>⟨g,rfl,hge,fun hN=>by have:=hnoW g hN;omega⟩));have hne1:some gp ≠ v.ownBlock:=fun e=>by have:=hnov gp e.symm;omega
     have x1:w1.cell? ⟨gp,1,none⟩=some (.map (some bm)):=(hg1.cell_far _ hgpW hne1).trans e1;have x2:w1.cell? ⟨gp,2,none⟩=some (.int .i64 (q:Nat)):=(hg1.cell_far _ hgpW hne1).trans e2;have hbk:gp ≠ bm:=hne;have y0:=(hk2.cell (p:=⟨gp,0,none⟩) hgpW hbk hbk (.inl hgb)).trans e0;have y1:=(hk2.cell (p:=⟨gp,1,none⟩) hgpW hbk hbk (.inl hgb)).trans e1;have y2:=(hk2.cell (p:=⟨gp,2,none⟩) hgpW hbk hbk (.inl hgb)).trans e2;have yf:=(hk2.frozen (p:=⟨gp,2,none⟩) hgpW hbk hbk (.inl hgb)).trans ef;exact ⟨w2,hrun2,⟨x1,x2⟩,⟨y1,y2⟩,yf,Znj y0 y1 y2 yf hgb hne (nt hbsW hk2.size) hmap2,(HG.out.trans (hk2.wide gp)).setCell _ _⟩
    clear hback HpW hnoW;go_region_held3 (fun w'=>w'.cell? ⟨gp,1,none⟩=some (.map (some bm))/\w'.cell? ⟨gp,2,none⟩=some (.int .i64 (q:Nat))) (first | go_keep | (constructor <;> assumption)) (first | (refine zsL _ rfl _ _ 191 rfl base 3 i0 (.int .i64 0) 1 8 U191 hi hz0 hz1 hz2 rfl (by decide) v _ _ rfl (hoiD _) ⟨W.drew.heap.size,0,none⟩ 1 1 [.int .i64 (q:Nat)] rfl rfl (cell_one_new _ _ _) (ints_oneCell .i64 [(q:Int)]) (by decide) (by unfold maxLen;omega) (by omega) (by simp;omega) _ rfl ?_;intro g cp w1 hown1 hgrow1 hat1 hlt1;obtain ⟨w2,hrun2,⟨k1,k2⟩,⟨k3,k4⟩,k5,HP2,HK2⟩:=HL.out w1 g cp ((World.grownBy_alloc W _ _).trans ⟨hgrow1.os,hgrow1.tape,hgrow1.output,hgrow1.size,hgrow1.block⟩) hown1 (hat1.imp id (fun e=>by rw [e];simp))))
    all_goals
     go_wp2_with fail
     go_roundw
     case rel=>exact ⟨q+1,by omega,by omega,HP2.out,HK2.out⟩
     case measure =>
      unfold ZeT;have hx:(w2.setCell ⟨gp,2,none⟩ (.int .i64 ((q:Int)+1))).cell? ⟨gp,2,none⟩=some (.int .i64 ((q+1:Nat):Int)):=HP2.out.c2;rw [hx,C2.out];simp [intOf];omega
   ·have d2:decide ((q:Int)+3<=(s.size:Int))=false:=by simp;omega
    go_wp2_with fail
    go_quiet (fail)
    go_wp2_with fail
    go_end0
    exact ⟨rfl,G.trans (Keeps.of_below (below_drewN (bR _ _) _)),q,hq1,hq2,fun _=>by omega,Hp.out.below (below_drewN (bR _ _) _)⟩
  ·have d1:decide ((q:Int)<(a:Int))=false:=by simp;omega
   have d1':decide (q<a)=false:=by simp;omega
   go_wp2_with fail
   go_quiet (fail)
   go_wp2_with fail
   go_end0
   exact ⟨rfl,G.trans (Keeps.of_below (below_drewN (bR _ _) _)),q,hq1,hq2,fun _=>by omega,Hp.out.below (below_drewN (bR _ _) _)⟩
structure Ord (B bm gp ga gf gl base:Nat):Prop where
 b:B<=bm
 p:bm<gp
 a:gp<ga
 f:ga<gf
 l:gf<gl
 s:gl<base
structure PS (w:World) (bm gp ga gf gl base:Nat) (s:ByteArray) (r a f:Nat) (v:Value) (l:List Tk.T):Prop where
 past:PastAt w base gp bm (fun g=>v.ownBlock=some g) s r
 ca:w.cell? ⟨ga,0,none⟩=some (.int .i64 (a:Nat))
 fa:w.frozen? ⟨ga,0,none⟩=false
 cf:w.cell? ⟨gf,0,none⟩=some (.int .i64 (f:Nat))
 ff:w.frozen? ⟨gf,0,none⟩=false
 cl:w.cell? ⟨gl,0,none⟩=some v
 fl:w.frozen? ⟨gl,0,none⟩=false
 own:w.ownsRow base 165 3 v l.length (tcs l)
section
variable {w w':World} {B bm gp ga gf gl base:Nat} {s:ByteArray} {r a f:Nat} {v:Value} {l:List Tk.T}
theorem PS.bs (h:PS w bm gp ga gf gl base s r a f v l):base<=w.heap.size:=h.past.bs
theorem PS.below (h:PS w bm gp ga gf gl base s r a f v l) (O:Ord B bm gp ga gf gl base) (hb:Below w.heap.size w w'):PS w' bm gp ga gf gl base s r a f v l:=by
 have hs:=h.bs;obtain ⟨o1,o2,o3,o4,o5,o6⟩:=O;refine ⟨h.past.below hb,?_,?_,?_,?_,?_,?_,Zh h.own hb⟩
 ·exact (hb.cell (by show ga<_;omega)).trans h.ca
 ·exact (hb.frozen (by show ga<_;omega)).trans h.fa
 ·exact (hb.cell (by show gf<_;omega)).trans h.cf
 ·exact (hb.frozen (by show gf<_;omega)).trans h.ff
 ·exact (hb.cell (by show gl<_;omega)).trans h.cl
 ·exact (hb.frozen (by show gl<_;omega)).trans h.fl
theorem PS.reach {r':Nat} (h:PS w bm gp ga gf gl base s r a f v l) (O:Ord B bm gp ga gf gl base) (hk:Keeps w w' base gp bm (fun g=>v.ownBlock=some g)) (hp:PastAt w' base gp bm (fun g=>v.ownBlock=some g) s r'):PS w' bm gp ga gf gl base s r' a f v l:=by
 have hs:=h.bs;obtain ⟨o1,o2,o3,o4,o5,o6⟩:=O;refine ⟨hp,?_,?_,?_,?_,?_,?_,?_⟩
 ·exact (hk.cell (by show ga<_;omega) (by show ga ≠ _;omega) (by show ga ≠ _;omega) (.inl (by show ga<_;omega))).trans h.ca
 ·exact (hk.frozen (by show ga<_;omega) (by show ga ≠ _;omega) (by show ga ≠ _;omega) (.inl (by show ga<_;omega))).trans h.fa
 ·exact (hk.cell (by show gf<_;omega) (by show gf ≠ _;omega) (by show gf ≠ _;omega) (.inl (by show gf<_;omega))).trans h.cf
 ·exact (hk.frozen (by show gf<_;omega) (by show gf ≠ _;omega) (by show gf ≠ _;omega) (.inl (by show gf<_;omega))).trans h.ff
 ·exact (hk.cell (by show gl<_;omega) (by show gl ≠ _;omega) (by show gl ≠ _;omega) (.inl (by show gl<_;omega))).trans h.cl
 ·exact (hk.frozen (by show gl<_;omega) (by show gl ≠ _;omega) (by show gl ≠ _;omega) (.inl (by show gl<_;omega))).trans h.fl
 ·rcases h.own.2 with ⟨e1,e2⟩ | ⟨g,cap,cur,rfl,hg,hh,hrest⟩
  ·exact ⟨h.own.1,.inl ⟨e1,e2⟩⟩
  ·have hlt:=(aG.1 hh).1;exact ⟨h.own.1,.inr ⟨g,cap,cur,rfl,hg,(hk.block g hlt (by omega) (by omega) (.inr rfl)).trans hh,hrest⟩⟩
theorem PastAt.other {No:Nat->Prop} {g:Nat} (h:PastAt w base gp bm No s r) (hg:w.grownBy w' (some g)) (h1:g ≠ gp) (h2:g ≠ bm) (h3:g<base):PastAt w' base gp bm No s r:=by
 obtain ⟨D,hm,ho,hsh,hr⟩:=h.map;have hlt:gp<w.heap.size:=nT h.gb h.bs;have hbm:bm<w.heap.size:=by obtain ⟨es,clock,hb,_⟩:=ho;exact (aG.1 hb).1
 have hne:some gp ≠ some g:=by simp;exact fun e=>h1 e.symm
 have hne2:some bm ≠ some g:=by simp;exact fun e=>h2 e.symm
 exact ⟨(hg.cell_far ⟨gp,0,none⟩ hlt hne).trans h.c0,(hg.cell_far ⟨gp,1,none⟩ hlt hne).trans h.c1,(hg.cell_far ⟨gp,2,none⟩ hlt hne).trans h.c2,(hg.frozen_far ⟨gp,2,none⟩ hlt hne).trans h.f2,h.gb,h.ne,nt h.bs hg.size,D,hm,
  ho.kept hg hne2 (ho.rowsAbove (fun j hj=>by cases hj;exact h3)),hsh.kept hg hbm hne2,hr⟩
theorem ZeM (w:World) (g o:Nat) (u:Value):w.grownBy (w.setCell ⟨g,o,none⟩ u) (some g):=⟨rfl,rfl,rfl,by simp,fun k _ h2=>Below.heap_setCell _ _ _ _ (fun e=>h2 (by rw [e]))⟩
theorem ZbG (w:World) (p q:Addr) (u:Value) (h:p.block ≠ q.block):(w.setCell p u).cell? q=w.cell? q:=World.cell?_setCell_other w p q u (fun e=>h (by rw [e]))
theorem PS.setAt (h:PS w bm gp ga gf gl base s r a f v l) (O:Ord B bm gp ga gf gl base) (a':Nat):PS (w.setCell ⟨ga,0,none⟩ (.int .i64 (a':Nat))) bm gp ga gf gl base s r a' f v l:=by
 obtain ⟨o1,o2,o3,o4,o5,o6⟩:=O;have hg:=ZeM w ga 0 (.int .i64 (a':Nat));refine ⟨h.past.other hg (by omega) (by omega) (by omega),cS w _ _ h.ca,?_,?_,?_,?_,?_,h.own.kept hg (.inr (fun e=>by have:=(h.own.lt ga e).1;omega))⟩
 ·rw [World.frozen?_setCell];exact h.fa
 ·rw [ZbG _ _ _ _ (by show ga ≠ gf;omega)];exact h.cf
 ·rw [World.frozen?_setCell];exact h.ff
 ·rw [ZbG _ _ _ _ (by show ga ≠ gl;omega)];exact h.cl
 ·rw [World.frozen?_setCell];exact h.fl
theorem PS.setFrom (h:PS w bm gp ga gf gl base s r a f v l) (O:Ord B bm gp ga gf gl base) (f':Nat):PS (w.setCell ⟨gf,0,none⟩ (.int .i64 (f':Nat))) bm gp ga gf gl base s r a f' v l:=by
 obtain ⟨o1,o2,o3,o4,o5,o6⟩:=O;have hg:=ZeM w gf 0 (.int .i64 (f':Nat));refine ⟨h.past.other hg (by omega) (by omega) (by omega),?_,?_,cS w _ _ h.cf,?_,?_,?_,h.own.kept hg (.inr (fun e=>by have:=(h.own.lt gf e).1;omega))⟩
 ·rw [ZbG _ _ _ _ (by show gf ≠ ga;omega)];exact h.ca
 ·rw [World.frozen?_setCell];exact h.fa
 ·rw [World.frozen?_setCell];exact h.ff
 ·rw [ZbG _ _ _ _ (by show gf ≠ gl;omega)];exact h.cl
 ·rw [World.frozen?_setCell];exact h.fl
theorem PS.laid {g cp:Nat} {t:Tk.T} (h:PS w bm gp ga gf gl base s r a f v l) (O:Ord B bm gp ga gf gl base)
 (hown:w'.ownsRow base 165 3 (.slice (some ⟨g,0,none⟩) (l.length+1) cp) (l.length+1) (tcs l++[.string t.lit,.int .i64 t.far,.int .i64 t.len])) (hg:w.grownBy w' v.ownBlock) (hat:v.ownBlock=some g\/w.heap.size<=g) :
 PS (w'.setCell ⟨gl,0,none⟩ (.slice (some ⟨g,0,none⟩) (l.length+1) cp)) bm gp ga gf gl base s r a f (.slice (some ⟨g,0,none⟩) (l.length+1) cp) (l++[t])/\w'.cell? ⟨gl,0,none⟩=some v/\w'.frozen? ⟨gl,0,none⟩=false:=by
 have hs:=h.bs;obtain ⟨o1,o2,o3,o4,o5,o6⟩:=O;have hnv:∀ k,k<base->some k ≠ v.ownBlock:=fun k hk e=>by have:=(h.own.lt k e.symm).1;omega
 have hlt:∀ k,k<base->k<w.heap.size:=fun k hk=>by omega
 have hc:∀ k o,k<base->w'.cell? ⟨k,o,none⟩=w.cell? ⟨k,o,none⟩:=fun k o hk=>hg.cell_far _ (hlt k hk) (hnv k hk)
 have hf:∀ k o,k<base->w'.frozen? ⟨k,o,none⟩=w.frozen? ⟨k,o,none⟩:=fun k o hk=>hg.frozen_far _ (hlt k hk) (hnv k hk)
 obtain ⟨D,hm,ho,hsh,hr⟩:=h.past.map
 have hsh2:w.Shuns bm (fun k=>(Value.slice (some ⟨g,0,none⟩) (l.length+1) cp).ownBlock=some k):=hsh.reno ho (fun k hk=>by
  have e:g=k:=by simpa [Value.ownBlock] using hk
  subst e
  exact hat)
 have hp':PastAt w' base gp bm (fun k=>(Value.slice (some ⟨g,0,none⟩) (l.length+1) cp).ownBlock=some k) s r :=
  ⟨(hc gp 0 h.past.gb).trans h.past.c0,(hc gp 1 h.past.gb).trans h.past.c1,(hc gp 2 h.past.gb).trans h.past.c2,(hf gp 2 h.past.gb).trans h.past.f2,h.past.gb,h.past.ne,nt hs hg.size,D,hm,
   ho.kept hg (hnv bm (by omega)) (hsh.rowsOff (fun j hj=>hj)),hsh2.kept hg (hlt bm (by omega)) (hnv bm (by omega)),hr⟩
 have hg2:=ZeM w' gl 0 (.slice (some ⟨g,0,none⟩) (l.length+1) cp);have hcl:w'.cell? ⟨gl,0,none⟩=some v:=(hc gl 0 o6).trans h.cl;refine ⟨⟨hp'.other hg2 (by omega) (by omega) o6,?_,?_,?_,?_,cS w' _ _ hcl,?_,?_⟩,hcl,(hf gl 0 o6).trans h.fl⟩
 ·rw [ZbG _ _ _ _ (by show gl ≠ ga;omega)];exact (hc ga 0 (by omega)).trans h.ca
 ·rw [World.frozen?_setCell];exact (hf ga 0 (by omega)).trans h.fa
 ·rw [ZbG _ _ _ _ (by show gl ≠ gf;omega)];exact (hc gf 0 (by omega)).trans h.cf
 ·rw [World.frozen?_setCell];exact (hf gf 0 (by omega)).trans h.ff
 ·rw [World.frozen?_setCell];exact (hf gl 0 o6).trans h.fl
 ·rw [Zao,List.length_append];exact hown.kept hg2 (.inr (fun e=>by have:=(hown.lt gl e).1;omega))
end
theorem Zda {w:World} {g k:Nat} {c:Array Value} {t:TypeId} {fz:Nat × Nat} (h:w.heap[g]?=some (.cells c t fz)) (x:Value):(w.setCell ⟨g,k,none⟩ x).heap[g]?=some (.cells (c.setIfInBounds k x) t fz):=by
 show (w.heap.modify g _)[g]?=_;rw [Array.getElem?_modify,if_pos rfl,h];rfl
theorem ZcW {w:World} {g q k:Nat} (h:q ≠ g) (x:Value):(w.setCell ⟨q,k,none⟩ x).heap[g]?=w.heap[g]?:=by
 show (w.heap.modify q _)[g]?=_;rw [Array.getElem?_modify,if_neg h]
theorem BitsAt.laid {w:World} {gb g cap:Nat} {bs:List Bool} {b:Bool} {t:Int} (hgb:gb<w.heap.size) (hc:w.heap[gb]?=some (.cells #[.slice (some ⟨g,0,none⟩) (Cd.pk1 bs).length cap,.int .i64 (bs.length:Nat)] 200 (0,0)))
 (hg:gb+1<=g) (ho:(w.setCell ⟨g,bs.length / 8,none⟩ (.int .u8 t)).ownsRow (gb+1) 5 1 (.slice (some ⟨g,0,none⟩) (Cd.pk1 bs).length cap) (Cd.pk (bs++[b])).length (bcs (Cd.pk (bs++[b])))) :
 BitsAt (((w.setCell ⟨g,bs.length / 8,none⟩ (.int .u8 t)).drew).setCell ⟨gb,1,none⟩ (.int .i64 ((bs.length:Nat)+1:Int))) gb (bs++[b]):=by
 refine ⟨by simpa [World.setCell] using hgb,.slice (some ⟨g,0,none⟩) (Cd.pk1 bs).length cap,?_,?_⟩
 ·have h1:((w.setCell ⟨g,bs.length / 8,none⟩ (.int .u8 t)).drew).heap[gb]?=some (.cells #[.slice (some ⟨g,0,none⟩) (Cd.pk1 bs).length cap,.int .i64 (bs.length:Nat)] 200 (0,0)):=by
   show (w.setCell ⟨g,bs.length / 8,none⟩ (.int .u8 t)).heap[gb]?=_;rw [ZcW (by omega)];exact hc
  have h2:=Zda (k:=1) h1 (.int .i64 ((bs.length:Nat)+1:Int));rw [h2];simp
 ·have ho2:((w.setCell ⟨g,bs.length / 8,none⟩ (.int .u8 t)).drew).ownsRow (gb+1) 5 1 (.slice (some ⟨g,0,none⟩) (Cd.pk1 bs).length cap) (Cd.pk (bs++[b])).length (bcs (Cd.pk (bs++[b]))):=ho;exact ownsRow_setCell_below ho2 (a:=⟨gb,1,none⟩) (by show gb<gb+1;omega) _
theorem ZgP {w:World} {gb:Nat} {bs:List Bool} {v:Value} (hgb:gb<w.heap.size) (hc:w.heap[gb]?=some (.cells #[v,.int .i64 (bs.length:Nat)] 200 (0,0)))
 (ho:w.ownsRow (gb+1) 5 1 v (Cd.pk1 bs).length (bcs (Cd.pk1 bs))) (b:Bool) :
 ∃ (g cap:Nat) (t x:Int),v=.slice (some ⟨g,0,none⟩) (bs.length / 8+1) cap/\g ≠ gb/\w.cell? ⟨gb,0,none⟩=some (.slice (some ⟨g,0,none⟩) (bs.length / 8+1) cap)/\w.cell? ⟨gb,1,none⟩=some (.int .i64 (bs.length:Nat)) ∧
  w.cell? ⟨g,bs.length / 8,none⟩=some (.int .u8 x)/\w.frozen? ⟨g,bs.length / 8,none⟩=false/\w.frozen? ⟨gb,1,none⟩=false/\0<=x/\x<=255 ∧
  Hid (bits BinOp.or IntKind.u8 x ((Cd.bv b:Nat)*2 ^ (7 - bs.length % 8) % 256)=t) ∧
  Hid (BitsAt (((w.setCell ⟨g,bs.length / 8,none⟩ (.int .u8 t)).drew).setCell ⟨gb,1,none⟩ (.int .i64 ((bs.length:Nat)+1:Int))) gb (bs++[b])) ∧
  Hid (∀ a:World,Below gb a w->Below gb a (((w.setCell ⟨g,bs.length / 8,none⟩ (.int .u8 t)).drew).setCell ⟨gb,1,none⟩ (.int .i64 ((bs.length:Nat)+1:Int)))):=by
 have hl:=Cd.ZiA bs;obtain ⟨g,cap,rfl,hg,hgl,hcell,hfz,hset⟩:=ZjU ho (by intro e;rw [e] at hl;simp at hl);have hn:bs.length=8*(bs.length / 8)+bs.length % 8:=by omega
 have hb:=Cd.Ziv bs b (bs.length / 8) (bs.length % 8) (by omega) hn;have hlt:=Cd.Zrt bs (bs.length / 8);obtain ⟨hf1,hf2⟩:=Zmu (b:=b) (show bs.length % 8<8 by omega) hlt hb.2;have hx:=hcell (bs.length / 8) _ (Cd.ZrI bs (by omega));have e8:∀ n,n<256->(UInt8.ofNat n).toNat=n:=fun n h=>by simp;omega
 rw [e8 _ hlt] at hx;have hs:=hset (bs.length / 8) (UInt8.ofNat (Cd.byt bs (bs.length / 8)+Cd.bv b*2 ^ (7 - bs.length % 8))) (by omega);rw [<-Cd.Zte bs b,e8 _ hf2] at hs;have hc':w.heap[gb]?=some (.cells #[.slice (some ⟨g,0,none⟩) (Cd.pk1 bs).length cap,.int .i64 (bs.length:Nat)] 200 (0,0)):=hc;refine ⟨g,cap,_,_,by rw [hl],by omega,?_,?_,hx,hfz _,by simp [World.frozen?,hc],by omega,by omega,hf1,BitsAt.laid hgb hc' hg hs,fun a ha=>?_⟩
 ·rw [cell_of_row w gb 0 _ _ _ hc,<-hl];rfl
 ·rw [cell_of_row w gb 1 _ _ _ hc];rfl
 ·exact ((ha.setCell (p:=⟨g,bs.length / 8,none⟩) (by show gb<=g;omega) _).drew).setCell (p:=⟨gb,1,none⟩) (nl _) _
theorem ZmI {a wr w1:World} {gb:Nat} {b2:List Bool} {v v':Value} {o:Obj} (hgb:gb<wr.heap.size) (hc:wr.heap[gb]?=some (.cells #[v,.int .i64 (b2.length:Nat)] 200 (0,0)))
 (ho:wr.ownsRow (gb+1) 5 1 v (Cd.pk b2).length (bcs (Cd.pk b2))) (hr:b2.length % 8=0) (hown:w1.ownsRow (gb+1) 5 1 v' ((Cd.pk b2).length+1) (bcs (Cd.pk b2)++[.int .u8 0])) (hg:(wr.alloc o).grownBy w1 v.ownBlock)
 (G:Below gb a wr) (b:Bool) :
 w1.cell? ⟨gb,0,none⟩=some v/\w1.frozen? ⟨gb,0,none⟩=false/\Hid (Below gb a (w1.setCell ⟨gb,0,none⟩ v'))/\∃ (g cap:Nat) (t x:Int),v'=.slice (some ⟨g,0,none⟩) (b2.length / 8+1) cap/\g ≠ gb/\(w1.setCell ⟨gb,0,none⟩ v').cell? ⟨gb,0,none⟩=some (.slice (some ⟨g,0,none⟩) (b2.length / 8+1) cap)/\(w1.setCell ⟨gb,0,none⟩ v').cell? ⟨gb,1,none⟩=some (.int .i64 (b2.length:Nat)) ∧
  (w1.setCell ⟨gb,0,none⟩ v').cell? ⟨g,b2.length / 8,none⟩=some (.int .u8 x)/\(w1.setCell ⟨gb,0,none⟩ v').frozen? ⟨g,b2.length / 8,none⟩=false/\(w1.setCell ⟨gb,0,none⟩ v').frozen? ⟨gb,1,none⟩=false/\0<=x/\x<=255 ∧
  Hid (bits BinOp.or IntKind.u8 x ((Cd.bv b:Nat)*2 ^ (7 - b2.length % 8) % 256)=t) ∧
  Hid (BitsAt ((((w1.setCell ⟨gb,0,none⟩ v').setCell ⟨g,b2.length / 8,none⟩ (.int .u8 t)).drew).setCell ⟨gb,1,none⟩ (.int .i64 ((b2.length:Nat)+1:Int))) gb (b2++[b])) ∧
  Hid (∀ a:World,Below gb a (w1.setCell ⟨gb,0,none⟩ v')->Below gb a ((((w1.setCell ⟨gb,0,none⟩ v').setCell ⟨g,b2.length / 8,none⟩ (.int .u8 t)).drew).setCell ⟨gb,1,none⟩ (.int .i64 ((b2.length:Nat)+1:Int)))):=by
 have hne:some gb ≠ v.ownBlock:=fun e=>by have:=(ho.lt gb e.symm).1;omega
 have hblk:w1.heap[gb]?=wr.heap[gb]?:=by
  rw [hg.block gb (by simp;omega) hne];exact ((bR wr.heap.size wr).alloc (nl _) o).block gb hgb
 have hc1:w1.heap[gb]?=some (.cells #[v,.int .i64 (b2.length:Nat)] 200 (0,0)):=hblk.trans hc;have hB1:Below gb a w1:=(G.alloc (nL hgb) o).grown hg (by simp;omega) (fun k hk=>by have:=(ho.lt k hk).1;omega);have hgb1:gb<w1.heap.size:=(aG.1 hc1).1;refine ⟨by rw [cell_of_row w1 gb 0 _ _ _ hc1];rfl,by simp [World.frozen?,hc1],hB1.setCell (p:=⟨gb,0,none⟩) (nl _) _,?_⟩;have hp1:Cd.pk1 b2=Cd.pk b2++[0]:=by unfold Cd.pk1;rw [if_pos hr]
 have hc2:=Zda (k:=0) hc1 v';refine ZgP (w:=w1.setCell ⟨gb,0,none⟩ v') (v:=v') (by simpa [World.setCell] using hgb1) (by rw [hc2];rfl) ?_ b;refine ownsRow_setCell_below (a:=⟨gb,0,none⟩) ?_ (by show gb<gb+1;omega) _;rw [hp1,List.length_append,ZbV];exact hown
theorem Zei (gb:Nat) (bs:List Bool) (word:Int) (n:Nat) (w:World) (hB:BitsAt w gb bs) (h0:0<=word) (h1:word<=1048576) (hn:n<=15) (hl:bs.length<=40000) :
 Calls Tryz.prog 183 #[.pointer (some ⟨gb,0,none⟩),.int .i64 word,.int .i64 (n:Int)] w fun e w'=>e=.returned (.tuple #[])/\Below gb w w'/\BitsAt w' gb (bs++Cd.wb word n):=by
 obtain ⟨i0,hi,hz0,hz1,hz2⟩:=info_parts Zct;have hn':(n:Int)<=15:=by omega
 go_enter Tryz.func183,Tryz.ntmps183
 go_wp2_with fail
 go_loopw [6] (fun i wr=>∃ (k:Nat) (K:Int) (b2:List Bool),i=.int .i64 K/\Hid (K=(k:Int) - 1)/\k<=n/\Hid (b2++Cd.wb word k=bs++Cd.wb word n)/\b2.length<=40015/\BitsAt wr gb b2/\Below gb w wr) (fun i _=>(intOf i+1).toNat)
 case atStart=>exact ⟨n,(n:Int) - 1,bs,by go_num,rfl,nl _,rfl,by omega,hB,bR _ _⟩
 case round =>
  clear hB;obtain ⟨k,K,b2,rfl,HK,hk,hE,hb2,hB,G⟩:=hrel
  cases k with
  | zero =>
   obtain rfl:K=-1:=by have:=HK.out;omega
   have hE':b2=bs++Cd.wb word n:=by have:=hE.out;rwa [Cd.wb,List.append_nil] at this
   subst hE';go_wp2_with fail
   go_end0
   exact ⟨rfl,G,hB⟩
  | succ k =>
   have hKk:K=k:=by have:=HK.out;omega
   have hK0:0<=K:=by omega
   have hK1:K<=14:=by omega
   have dK:decide (0<=K)=true:=by simpa using hK0
   have HE2:Hid ((b2++[decide (word / 2 ^ k % 2=1)])++Cd.wb word k=bs++Cd.wb word n):=by
    have:=hE.out;rw [Cd.wb] at this;show _=_;rw [<-this,List.append_assoc];rfl
   have HBF:bits BinOp.and IntKind.i64 (word / 2 ^ K.toNat) 1 % 256=(Cd.bv (decide (word / 2 ^ k % 2=1)):Nat):=Zqq h0 h1 hKk;obtain ⟨hgb,v,hc,ho⟩:=hB;have HK1:Hid (K=(k:Nat)):=hKk;have Hk:Hid (k<=n):=by show _<=_;omega
   obtain ⟨N,hN⟩:∃ N:Nat,b2.length=N:=⟨_,rfl⟩
   have hN8:(N:Int).tmod 8=(N % 8:Nat):=by rw [Int.tmod_eq_emod_of_nonneg (by omega)];omega
   have hN9:(N:Int).tdiv 8=(N / 8:Nat):=by rw [Int.tdiv_eq_ediv_of_nonneg (by omega)];omega
   clear hKk HK hE;by_cases hr:b2.length % 8=0
   ·have d0:(((N % 8:Nat):Int) == 0)=true:=by simp;omega
    have hlen:(Cd.pk b2).length<=6000:=by rw [Cd.ZbY];omega
    have HNl:Hid (b2.length=N):=hN;have hNb:N<=40015:=by omega
    have hv0:wr.cell? ⟨gb,0,none⟩=some v:=by rw [cell_of_row wr gb 0 _ _ _ hc];rfl
    have hv1:wr.cell? ⟨gb,1,none⟩=some (.int .i64 (N:Nat)):=by rw [cell_of_row wr gb 1 _ _ _ hc,<-hN];rfl
    have hle:gb+1<=(wr.alloc (.cells #[.int .u8 0] 5)).heap.size:=by simp;omega
    have Hc:Hid (wr.heap[gb]?=some (.cells #[v,.int .i64 (b2.length:Nat)] 200 (0,0))):=hc;have Hr:Hid (b2.length % 8=0):=hr;clear hN hr hc;go_wp2_with (at_builtin;go_must (refine wpList_append_own _ rfl _ _ 93 rfl (gb+1) 5 i0 (.int .u8 0) 1 1 U93 hi hz0 hz1 hz2 rfl (by decide) _ _ _ rfl (ho.alloc _) ⟨wr.heap.size,0,none⟩ 1 1 [.int .u8 0] rfl rfl (cell_one_new _ _ _) (ZdO _) (ZaK (by omega)) (by omega) hle ?_;intro v' w1 hown' hgrow _;obtain ⟨y1,y2,y3,g,cap,t,x,rfl,q1,q2,q3,q4,q5,q6,q7,q8,Q1,Q2,Q3⟩:=ZmI hgb Hc.out ho Hr.out hown' hgrow G (decide (word / 2 ^ k % 2=1));have HB3:=Q3.out w y3.out;rw [HNl.out] at q2 q3 q4 q5 q6 Q1 Q2 HB3))
    rw [HNl.out];have HQ2:=Q2;have HQ1:=Q1.out;generalize w1.setCell ⟨gb,0,none⟩ (.slice (some ⟨g,0,none⟩) (N / 8+1) cap)=wq at *
    have z1:((wq.setCell ⟨g,N / 8,none⟩ (.int .u8 t)).drew).cell? ⟨gb,1,none⟩=some (.int .i64 (N:Nat)):=by
     show (wq.setCell ⟨g,N / 8,none⟩ (.int .u8 t)).cell? ⟨gb,1,none⟩=_;rw [ZbG _ _ _ _ (by exact q1)];exact q3
    have z2:((wq.setCell ⟨g,N / 8,none⟩ (.int .u8 t)).drew).frozen? ⟨gb,1,none⟩=false:=by
     show (wq.setCell ⟨g,N / 8,none⟩ (.int .u8 t)).frozen? ⟨gb,1,none⟩=_;rw [World.frozen?_setCell];exact q6
    have HLn:Hid (b2.length+1<=40015):=by
     have:=congrArg List.length HE2.out;simp [Cd.ZdB] at this;show _<=_;omega
    generalize Cd.bv (decide (word / 2 ^ k % 2=1))=bb at *;clear Q1 Q2 Q3 y1 y2 y3 hv0 hv1 ho hown' hgrow hlen hle;go_wp2_with fail
    go_region
    go_wp2_with fail
    go_roundw
    case rel=>exact ⟨k,K - 1,b2++[decide (word / 2 ^ k % 2=1)],by go_num,by have:=HK1.out;show _=_;omega,Hk.out,HE2,by have:=HLn.out;simp;omega,HQ2.out,HB3⟩
    case measure=>simp [intOf];omega
   ·have hp1:Cd.pk1 b2=Cd.pk b2:=by unfold Cd.pk1;rw [if_neg hr]
    rw [<-hp1] at ho;obtain ⟨g,cap,t,x,rfl,q1,q2,q3,q4,q5,q6,q7,q8,Q1,Q2,Q3⟩:=ZgP hgb hc ho (decide (word / 2 ^ k % 2=1));clear hp1 ho hc;have HB3:=Q3.out w G;rw [hN] at q2 q3 q4 q5 Q1 Q2 HB3;have HQ2:Hid (BitsAt (((wr.setCell ⟨g,N / 8,none⟩ (.int .u8 t)).drew).setCell ⟨gb,1,none⟩ (.int .i64 ((N:Nat)+1:Int))) gb (b2++[decide (word / 2 ^ k % 2=1)])):=Q2.out;have d0:(((N % 8:Nat):Int) == 0)=false:=by simp;omega
    have HLn:Hid (b2.length+1<=40015):=by
     have:=congrArg List.length HE2.out;simp [Cd.ZdB] at this;show _<=_;omega
    have HQ1:=Q1.out;generalize Cd.bv (decide (word / 2 ^ k % 2=1))=bb at *;clear Q1 Q2 Q3;have hNb:N<=40015:=by omega
    have HNl:Hid (b2.length=N):=hN;clear hN hr
    have z1:((wr.setCell ⟨g,N / 8,none⟩ (.int .u8 t)).drew).cell? ⟨gb,1,none⟩=some (.int .i64 (N:Nat)):=by
     show (wr.setCell ⟨g,N / 8,none⟩ (.int .u8 t)).cell? ⟨gb,1,none⟩=_;rw [ZbG _ _ _ _ (by exact q1)];exact q3
    have z2:((wr.setCell ⟨g,N / 8,none⟩ (.int .u8 t)).drew).frozen? ⟨gb,1,none⟩=false:=by
     show (wr.setCell ⟨g,N / 8,none⟩ (.int .u8 t)).frozen? ⟨gb,1,none⟩=_;rw [World.frozen?_setCell];exact q6
    go_wp2_with fail
    go_region
    go_wp2_with fail
    go_roundw
    case rel=>exact ⟨k,K - 1,b2++[decide (word / 2 ^ k % 2=1)],by go_num,by have:=HK1.out;show _=_;omega,Hk.out,HE2,by have:=HLn.out;simp;omega,HQ2.out,HB3⟩
    case measure=>simp [intOf];omega
namespace Cd
theorem wI_v (f:Nat->Int) (n:Int) (x:Int × (Nat->Int)) (M:Int) (h0:0<=x.1) (h1:x.1+16<=M) (hx:∀ i,0<=x.2 i/\x.2 i<=M):∀ k,k<=16->∀ i,0<=(wI f n x k).2 i/\(wI f n x k).2 i<=M:=by
 intro k
 induction k with
 | zero=>intro _;exact hx
 | succ k ih =>
  intro hk i;have hb:=wI_b f n x k;have:=ih (by omega) i;rw [wI];split
  ·simp only;unfold upd;split
   ·omega
   ·exact this
  ·exact this
theorem wO_v (f:Nat->Int):∀ n,n<=15->∀ i,0<=(wO f n).2 i/\(wO f n).2 i<=1048576:=by
 intro n
 induction n with
 | zero=>intro _ i;simp [wO]
 | succ n ih =>
  intro hn;have hb:=wO_b f n;have h2:(2:Int) ^ n<=2 ^ 14:=ZbE (by omega);rw [wO];exact wI_v f _ ((wO f n).1*2,(wO f n).2) 1048576 (show 0<=(wO f n).1*2 by omega) (show (wO f n).1*2+16<=1048576 by omega) (ih (by omega)) 16 (nl _)
theorem Zom (f:Nat->Int) (i:Nat):0<=wds f i/\wds f i<=1048576:=wO_v f 15 (Nat.le_refl _) i
def cw (f:Nat->Int) (s:Nat):List Bool:=wb (wds f s) (f s).toNat
def at8 (s:ByteArray) (k:Nat):Nat:=(s.data.toList[k]?.getD 0).toNat
theorem ZaC (s:ByteArray) (k:Nat):at8 s k<256:=(s.data.toList[k]?.getD 0).toNat_lt
def wrK (f:Nat->Int) (s:ByteArray):Nat->Option (List Bool)
 | 0=>some []
 | k+1=>match wrK f s k with
  | none=>none
  | some bs=>if f (at8 s k / 16)=0\/f (at8 s k % 16)=0 then none else some (bs++cw f (at8 s k / 16)++cw f (at8 s k % 16))
theorem Zqt {f:Nat->Int} {s:ByteArray} {k:Nat} (h:wrK f s k=none):∀ j,wrK f s (k+j)=none:=by
 intro j
 induction j with
 | zero=>exact h
 | succ j ih=>rw [<-Nat.add_assoc,wrK,ih]
theorem ZfW {f:Nat->Int} {s:ByteArray} {k:Nat} {bs:List Bool} (h:wrK f s k=some bs) (h1:¬ (f (at8 s k / 16)=0\/f (at8 s k % 16)=0)):wrK f s (k+1)=some (bs++cw f (at8 s k / 16)++cw f (at8 s k % 16)):=by
 rw [wrK,h];simp only;rw [if_neg h1]
theorem Zjg {f:Nat->Int} {s:ByteArray} {k n:Nat} {bs:List Bool} (hk:k<n) (h:wrK f s k=some bs) (h1:f (at8 s k / 16)=0\/f (at8 s k % 16)=0):wrK f s n=none:=by
 have:wrK f s (k+1)=none:=by rw [wrK,h];simp only;rw [if_pos h1]
 have h2:=Zqt this (n - (k+1))
 rwa [show k+1+(n - (k+1))=n by omega] at h2
theorem Zht {f:Nat->Int} (h:InR f 15 16) {i:Nat} (hi:i<16):(cw f i).length<=15:=by
 rw [cw,ZdB];have:=h i hi;omega
theorem Zdj {f:Nat->Int} {s:ByteArray} (h:InR f 15 16):∀ k bs,wrK f s k=some bs->bs.length<=30*k:=by
 intro k
 induction k with
 | zero=>intro bs h;simp [wrK] at h;subst h;simp
 | succ k ih =>
  intro bs hb;rw [wrK] at hb;have hlt:=ZaC s k
  cases hq:wrK f s k with
  | none=>rw [hq] at hb;simp at hb
  | some b2 =>
   rw [hq] at hb;simp only at hb;split at hb
   ·simp at hb
   ·simp only [Option.some.injEq] at hb;subst hb;have h1:=ih b2 hq;have h2:=Zht h (i:=at8 s k / 16) (by omega);have h3:=Zht h (i:=at8 s k % 16) (by omega);simp only [List.length_append];omega
def wrt (f:Nat->Int) (s:ByteArray):ByteArray × Int :=
 if chk f ≠ 0 then (⟨#[]⟩,chk f) else if 1024<s.size then (⟨#[]⟩,2) else match wrK f s s.size with | none=>(⟨#[]⟩,5) | some bs=>(⟨(pk bs).toArray⟩,0)
end Cd
theorem BitsAt.below {w w':World} {gb:Nat} {bs:List Bool} (h:BitsAt w gb bs) (hb:Below w.heap.size w w'):BitsAt w' gb bs:=by
 obtain ⟨h1,v,h2,h3⟩:=h;refine ⟨nT h1 hb.size,v,by rw [hb.block gb h1];exact h2,?_⟩;refine ⟨h3.1,?_⟩;rcases h3.2 with h | ⟨g,cap,cur,rfl,e1,e2,e3⟩
 ·exact .inl h
 ·exact .inr ⟨g,cap,cur,rfl,e1,by rw [hb.block g (Array.getElem?_eq_some_iff.1 e2).1];exact e2,e3⟩
theorem Zpe (w:World):BitsAt (w.alloc (.cells #[.slice none 0 0,.int .i64 0] 200)) w.heap.size [] :=
 ⟨by simp,.slice none 0 0,heap_alloc_last w _,World.ownsRow_nil _ _ _ _⟩
theorem RowAt.keep {B g:Nat} {w w':World} {f:Nat->Int} (h:RowAt w g f) (hb:Below B w w') (hg:g<B):RowAt w' g f:=⟨Nat.lt_of_lt_of_le h.1 hb.size,by rw [hb.block g hg];exact h.2⟩
theorem ZgY (f:Nat->Int) (s:ByteArray) (w:World) (h0:Cd.chk f=0) (hs:s.size<=1024) :
 Calls Tryz.prog 162 #[.agg (arr f),.string s] w fun e w'=>e=.returned (.tuple #[.string (Cd.wrt f s).1,.int .i64 (Cd.wrt f s).2])/\Below w.heap.size w w':=by
 have hck:=fun w=>Zaa f w
 rw [h0] at hck;have hwd:=fun w=>ZcQ f w
 have hin:=Zc f;have hinw:=Zc (Cd.wds f);have hR:Hid (Cd.InR f 15 16):=(Cd.Zd h0).1;have h0':Hid (Cd.chk f=0):=h0;have hs':(s.size:Int)<=1024:=by omega
 have ds:decide (1024<(s.size:Int))=false:=by simp;omega
 have R1:=RowAt.new w f;have HB:Below w.heap.size w (w.alloc (.cells (arr f) 127)):=(bR _ _).alloc (nl _) _
 obtain ⟨r1,r2,hr⟩:∃ r1 r2,Cd.wrt f s=(r1,r2):=⟨_,_,rfl⟩
 rw [hr];have Hr:Hid (Cd.wrt f s=(r1,r2)):=hr;clear hr h0;go_enter Tryz.func162,Tryz.ntmps162
 go_wp2_with (refine wpList_load_row rfl 127 _ rfl w.heap.size rfl 127 (arr f) (0,0) _ R1.2 U127 rfl hin ?_)
 refine (hck _).mono ?_;rintro e w1 ⟨rfl,G1⟩;have S1:=R1.below G1;have B1:=bch HB G1 (nl _);clear R1 HB G1 hck;go_wp2_with (refine wpList_load_row rfl 127 _ rfl w.heap.size rfl 127 (arr f) (0,0) _ S1.2 U127 rfl hin ?_)
 refine (hwd _).mono ?_;rintro e w2 ⟨rfl,G2⟩;have T1:=S1.below G2;have B2:=bch B1 G2 (nl _);clear S1 B1 G2 hwd;go_wp2_with (refine wpList_store_row rfl 127 _ _ rfl w2.heap.size (arr (Cd.wds f)) rfl rfl 127 _ (heap_alloc_last w2 _) hinw rfl (ZW _) ?_;rw [World.setRow_alloc_new])
 have T7:=(RowAt.new w2 (Cd.wds f)).alloc (.cells #[.slice none 0 0,.int .i64 0] 200);have T2:=(T1.alloc (.cells (arr (Cd.wds f)) 127)).alloc (.cells #[.slice none 0 0,.int .i64 0] 200);have TB:=Zpe (w2.alloc (.cells (arr (Cd.wds f)) 127));have B3:Below w.heap.size w ((w2.alloc (.cells (arr (Cd.wds f)) 127)).alloc (.cells #[.slice none 0 0,.int .i64 0] 200)):=(B2.alloc (nL T1.1) _).alloc (by have:=T1.1;simp;omega) _;have hsz9:(w2.alloc (.cells (arr (Cd.wds f)) 127)).heap.size=w2.heap.size+1:=by simp
 rw [hsz9] at TB
 have hq:Hid (w.heap.size<w2.heap.size/\w2.heap.size<w2.heap.size+1):=⟨T1.1,by omega⟩
 clear hsz9 T1 B2;generalize (w2.alloc (.cells (arr (Cd.wds f)) 127)).alloc (.cells #[.slice none 0 0,.int .i64 0] 200)=w3 at *;generalize w2.heap.size+1=gb at *;generalize w2.heap.size=g7 at *;go_loopw [24] (fun i wr=>∃ (k:Nat) (bs:List Bool),k<=s.size/\i=.int .i64 k/\Hid (Cd.wrK f s k=some bs)/\RowAt wr w.heap.size f/\RowAt wr g7 (Cd.wds f)/\BitsAt wr gb bs/\Below w.heap.size w wr) (fun i _=>s.size - (intOf i).toNat)
 case atStart=>exact ⟨0,[],by omega,rfl,rfl,T2,T7,TB,B3⟩
 case round =>
  clear T2 T7 TB B3;obtain ⟨k,bs,hk,rfl,hW,T2,T7,TB,B3⟩:=hrel;by_cases hlt:k<s.size
  ·have hk1:decide ((k:Int)<(s.size:Int))=true:=by simp;omega
   have hk2:decide (k<s.size)=true:=by simp;omega
   obtain ⟨x,hx⟩:∃ x:Int,(s[k].toNat:Int)=x:=⟨_,rfl⟩
   have hA:Cd.at8 s k=s[k].toNat:=by unfold Cd.at8;rw [Nm.ZN s k hlt];rfl
   have hA2:=Cd.ZaC s k;have hx0:0<=x:=by omega
   have hx1:x<=255:=by omega
   obtain ⟨H,hH⟩:∃ H,Cd.at8 s k / 16=H:=⟨_,rfl⟩
   obtain ⟨L,hL⟩:∃ L,Cd.at8 s k % 16=L:=⟨_,rfl⟩
   have e1:x / 16=(H:Int):=by omega
   have e2:x % 16=(L:Int):=by omega
   have e3:x.tdiv 16=(H:Int):=by rw [Int.tdiv_eq_ediv_of_nonneg hx0];exact e1
   have e4:x.tmod 16=(L:Int):=by rw [Int.tmod_eq_emod_of_nonneg hx0];exact e2
   have hH1:H<16:=by omega
   have hL1:L<16:=by omega
   have hH2:(H:Int)<16:=by omega
   have hL2:(L:Int)<16:=by omega
   have HN:Hid (¬ (f H=0\/f L=0)->Cd.wrK f s (k+1)=some (bs++Cd.cw f H++Cd.cw f L)):=fun h=>by have:=Cd.ZfW hW.out (by rw [hH,hL];exact h);rw [hH,hL] at this;exact this
   have HS:Hid (f H=0\/f L=0->r1=⟨#[]⟩/\r2=5):=fun h=>by
    have h9:Cd.wrt f s=(⟨#[]⟩,5):=by
     rw [Cd.wrt,if_neg (fun h=>h h0'.out),if_neg (by omega),Cd.Zjg hlt hW.out (by rw [hH,hL];exact h)]
    have h8:=Hr.out.symm.trans h9;simpa using h8
   have Hlen:Hid (bs.length<=30720):=by have:=Cd.Zdj hR.out k bs hW.out;show _<=_;omega
   clear hA hA2 hH hL e1 e2;have c1:=T2.cell H hH1;have c2:=T2.cell L hL1;have c3:=T7.cell H hH1;have c4:=T7.cell L hL1;have hfH:=hR.out H hH1;have hfL:=hR.out L hL1;have hwH:=Cd.Zom f H;have hwL:=Cd.Zom f L;by_cases hz:f H=0
   ·obtain ⟨rfl,rfl⟩:=HS.out (.inl hz);rw [hz] at c1;clear hz c2 c3 c4 hfH hfL hwH hwL;go_wp2_with fail
    go_quiet (fail)
    go_wp2_with fail
    go_ret2
    exact ⟨rfl,below_drewN B3 _⟩
   ·have d1:(f H == 0)=false:=by simpa using hz
    by_cases hy:f L=0
    ·obtain ⟨rfl,rfl⟩:=HS.out (.inr hy);rw [hy] at c2;clear hz hy c3 c4 hfH hfL hwH hwL;go_wp2_with fail
     go_quiet (fail)
     go_wp2_with fail
     go_ret2
     exact ⟨rfl,below_drewN B3 _⟩
    ·have d2:(f L == 0)=false:=by simpa using hy
     have HNN:Hid (Cd.wrK f s (k+1)=some (bs++Cd.cw f H++Cd.cw f L)):=HN.out (fun h=>h.elim hz hy);clear hz hy HS HN;go_wp2_with fail
     go_quiet (fail)
     go_wp2_with fail
     have U2:=T2.below (below_drewN (bR wr.heap.size wr) nq);have U7:=T7.below (below_drewN (bR wr.heap.size wr) nq);have UB:=TB.below (below_drewN (bR wr.heap.size wr) nq);have B4:=below_drewN B3 nq;clear T2 T7 TB B3 c1 c2 c3 c4;generalize wr.drewN nq=wq at *;have c1:=U2.cell H hH1;have c3:=U7.cell H hH1
     have hpH:∀ w,BitsAt w gb bs->Calls Tryz.prog 183 #[.pointer (some ⟨gb,0,none⟩),.int .i64 (Cd.wds f H),.int .i64 (f H)] w fun e w'=>e=.returned (.tuple #[])/\Below gb w w'/\BitsAt w' gb (bs++Cd.cw f H):=fun w h=>by
      have h9:=Zei gb bs (Cd.wds f H) (f H).toNat w h hwH.1 hwH.2 (by omega) (by have:=Hlen.out;omega);rw [Int.toNat_of_nonneg hfH.1] at h9;exact h9
     have hpL:∀ w,BitsAt w gb (bs++Cd.cw f H)->Calls Tryz.prog 183 #[.pointer (some ⟨gb,0,none⟩),.int .i64 (Cd.wds f L),.int .i64 (f L)] w fun e w'=>e=.returned (.tuple #[])/\Below gb w w'/\BitsAt w' gb (bs++Cd.cw f H++Cd.cw f L):=fun w h=>by
      have h9:=Zei gb (bs++Cd.cw f H) (Cd.wds f L) (f L).toNat w h hwL.1 hwL.2 (by omega) (by have:=Hlen.out;have:=Cd.Zht hR.out hH1;simp;omega);rw [Int.toNat_of_nonneg hfL.1] at h9;exact h9
     generalize Cd.cw f H=CH at *;generalize Cd.cw f L=CL at *;generalize f H=fH at *
     have hcL:∀ w',RowAt w' w.heap.size f->RowAt w' g7 (Cd.wds f)->w'.cell? ⟨w.heap.size,L,none⟩=some (.int .i64 (f L))/\w'.cell? ⟨g7,L,none⟩=some (.int .i64 (Cd.wds f L)):=fun w' r1 r2=>⟨r1.cell L hL1,r2.cell L hL1⟩
     generalize Cd.wds f H=wH at *;have HhL:Hid (∀ w',RowAt w' w.heap.size f->RowAt w' g7 (Cd.wds f)->w'.cell? ⟨w.heap.size,L,none⟩=some (.int .i64 (f L))/\w'.cell? ⟨g7,L,none⟩=some (.int .i64 (Cd.wds f L))):=hcL;clear hcL hwH hfH hwL hfL;have hq7:g7<gb:=hq.out.2;have hqN:w.heap.size<gb:=Nat.lt_trans hq.out.1 hq.out.2;go_region_held3 (fun w'=>w'.cell? ⟨g7,H,none⟩=some (.int .i64 wH)/\w'.cell? ⟨w.heap.size,H,none⟩=some (.int .i64 fH)) (first | (go_keep;done) | (exact ⟨(G4.cell (by exact hq7)).trans c3,(G4.cell (by exact hqN)).trans c1⟩) | (exact ⟨by assumption,by assumption⟩)) (first | (go_at_call 183;refine (hpH _ (by exact UB)).mono ?_;rintro e w4 ⟨rfl,G4,Z4⟩))
     have G4':Below gb wq w4:=((bR gb wq).drew).trans G4;have V2:=U2.keep G4' hqN;have V7:=U7.keep G4' hq7;have B5:=B4.trans (G4'.mono (nL hqN));clear U2 U7 UB B4 G4 G4' c1 c3 hpH;obtain ⟨c2,c4⟩:=HhL.out w4 V2 V7;generalize f L=fL at *;generalize Cd.wds f L=wL at *;go_wp2_with fail
     go_region_held3 (fun w'=>w'.cell? ⟨g7,L,none⟩=some (.int .i64 wL)/\w'.cell? ⟨w.heap.size,L,none⟩=some (.int .i64 fL)) (first | (go_keep;done) | (exact ⟨(G6.cell (by exact hq7)).trans c4,(G6.cell (by exact hqN)).trans c2⟩) | (exact ⟨by assumption,by assumption⟩)) (first | (go_at_call 183;refine (hpL _ (by exact Z4)).mono ?_;rintro e w6 ⟨rfl,G6,Z6⟩))
     have G6':Below gb w4 w6:=((bR gb w4).drew).trans G6;have X2:=V2.keep G6' hqN;have X7:=V7.keep G6' hq7;have B6:=B5.trans (G6'.mono (nL hqN));clear V2 V7 B5 G6 G6' c2 c4 hpL;go_wp2_with fail
     go_roundw
     case rel=>exact ⟨k+1,_,by omega,by go_num,HNN,X2,X7,Z6,B6⟩
     case measure=>simp [intOf];omega
  ·obtain rfl:k=s.size:=by omega
   have h9:Cd.wrt f s=(⟨(Cd.pk bs).toArray⟩,0):=by
    rw [Cd.wrt,if_neg (fun h=>h h0'.out),if_neg (by omega),hW.out]
   have h8:=Hr.out.symm.trans h9;simp only [Prod.mk.injEq] at h8;obtain ⟨rfl,rfl⟩:=h8;obtain ⟨hgb,v,hc,ho⟩:=TB;have hcv:=ZbQ (l:=Cd.pk bs) ho;have hv0:wr.cell? ⟨gb,0,none⟩=some v:=by rw [cell_of_row wr gb 0 _ _ _ hc];rfl
   clear h9 ho hc;go_wp2_with fail
   go_ret2
   exact ⟨rfl,B3⟩
theorem Zge (f:Nat->Int) (s:ByteArray) (w:World) (hs0:s.size<=140737488355328) :
 Calls Tryz.prog 162 #[.agg (arr f),.string s] w fun e w'=>e=.returned (.tuple #[.string (Cd.wrt f s).1,.int .i64 (Cd.wrt f s).2])/\Below w.heap.size w w':=by
 by_cases h0:Cd.chk f=0
 ·by_cases hs:s.size<=1024
  ·exact ZgY f s w h0 hs
  ·have h9:Cd.wrt f s=(⟨#[]⟩,2):=by rw [Cd.wrt,if_neg (fun h=>h h0),if_pos (by omega)]
   rw [h9];have hck:=fun w=>Zaa f w
   rw [h0] at hck;have hin:=Zc f;have hs':1024<(s.size:Int):=by omega
   have ds:decide (1024<(s.size:Int))=true:=by simp;omega
   have R1:=RowAt.new w f;have HB:Below w.heap.size w (w.alloc (.cells (arr f) 127)):=(bR _ _).alloc (nl _) _;clear h9 hs h0;go_enter Tryz.func162,Tryz.ntmps162
   go_wp2_with (refine wpList_load_row rfl 127 _ rfl w.heap.size rfl 127 (arr f) (0,0) _ R1.2 U127 rfl hin ?_)
   refine (hck _).mono ?_;rintro e w1 ⟨rfl,G1⟩;have B1:=bch HB G1 (nl _);clear R1 HB G1 hck;go_wp2_with fail
   go_ret2
   exact ⟨rfl,B1⟩
 ·have h9:Cd.wrt f s=(⟨#[]⟩,Cd.chk f):=by rw [Cd.wrt,if_pos h0]
  rw [h9];have hck:=fun w=>Zaa f w
  have hin:=Zc f;have R1:=RowAt.new w f;have HB:Below w.heap.size w (w.alloc (.cells (arr f) 127)):=(bR _ _).alloc (nl _) _;generalize Cd.chk f=E at *;have d0:(E != 0)=true:=by simpa using h0
  clear h9 h0;go_enter Tryz.func162,Tryz.ntmps162
  go_wp2_with (refine wpList_load_row rfl 127 _ rfl w.heap.size rfl 127 (arr f) (0,0) _ R1.2 U127 rfl hin ?_)
  refine (hck _).mono ?_;rintro e w1 ⟨rfl,G1⟩;have B1:=bch HB G1 (nl _);clear R1 HB G1 hck;go_wp2_with fail
  go_ret2
  exact ⟨rfl,B1⟩
namespace Cd
def find (f ws:Nat->Int) (n word:Int):Nat->Option Nat
 | 0=>none
 | k+1=>match find f ws n word k with
  | some s=>some s
  | none=>if f k=n/\ws k=word then some k else none
theorem ZhP {f ws:Nat->Int} {n word:Int} {k:Nat} (h:find f ws n word k=none) (h1:¬ (f k=n/\ws k=word)):find f ws n word (k+1)=none:=by rw [find,h];simp only;rw [if_neg h1]
theorem Zok {f ws:Nat->Int} {n word:Int} {k:Nat} (h:find f ws n word k=none) (h1:f k=n/\ws k=word):∀ j,find f ws n word (k+1+j)=some k:=by
 intro j
 induction j with
 | zero=>rw [Nat.add_zero,find,h];simp only;rw [if_pos h1]
 | succ j ih=>rw [<-Nat.add_assoc,find,ih]
def ZI (b:ByteArray) (a:Nat):Nat:=at8 b (a / 8) / 2 ^ (7 - a % 8) % 2
def fnd (f ws:Nat->Int) (n word:Int):Option Nat:=find f ws n word 16
def sgn (f ws:Nat->Int) (b:ByteArray):Nat->Int->Int->Nat->Int × Nat
 | 0,_,_,a=>(-1,a)
 | m+1,n,word,a=>if 8*b.size<=a then (-1,a) else if (fnd f ws n (2*word+ZI b a)).isSome=true then (((fnd f ws n (2*word+ZI b a)).getD 0:Nat),a+1)
  else sgn f ws b m (n+1) (2*word+ZI b a) (a+1)
theorem ZiQ {f ws:Nat->Int} {b:ByteArray} {m:Nat} {n word:Int} {a:Nat} (h:8*b.size<=a):sgn f ws b m n word a=(-1,a):=by
 cases m with
 | zero=>rfl
 | succ m=>rw [sgn,if_pos h]
theorem ZdT {f ws:Nat->Int} {b:ByteArray} {m:Nat} {n word:Int} {a s:Nat} (h:¬ 8*b.size<=a) (h1:fnd f ws n (2*word+ZI b a)=some s):sgn f ws b (m+1) n word a=((s:Int),a+1):=by
 rw [sgn,if_neg h,h1,if_pos (by rfl)];rfl
theorem ZdV {f ws:Nat->Int} {b:ByteArray} {m:Nat} {n word:Int} {a:Nat} (h:¬ 8*b.size<=a) (h1:fnd f ws n (2*word+ZI b a)=none):sgn f ws b (m+1) n word a=sgn f ws b m (n+1) (2*word+ZI b a) (a+1):=by
 rw [sgn,if_neg h,h1,if_neg (by simp)]
theorem ZdY (b:ByteArray) (a:Nat):ZI b a<=1:=by unfold ZI;omega
end Cd
def rdc (f ws:Nat->Int) (b:ByteArray) (a:Nat):Array Value:=arr f++arr ws++#[.string b,.int .i64 (a:Nat)]
def RdAt (w:World) (gr:Nat) (f ws:Nat->Int) (b:ByteArray) (a:Nat):Prop:=gr<w.heap.size/\w.heap[gr]?=some (.cells (rdc f ws b a) 228 (0,0))
theorem RdAt.below {w w':World} {gr:Nat} {f ws:Nat->Int} {b:ByteArray} {a:Nat} (h:RdAt w gr f ws b a) (hb:Below w.heap.size w w'):RdAt w' gr f ws b a:=⟨Nat.lt_of_lt_of_le h.1 hb.size,by rw [hb.block gr h.1];exact h.2⟩
theorem RdAt.l {w:World} {gr:Nat} {f ws:Nat->Int} {b:ByteArray} {a:Nat} (h:RdAt w gr f ws b a) (k:Nat) (hk:k<16):w.cell? ⟨gr,k,none⟩=some (.int .i64 (f k)):=by
 rw [cell_of_row w gr k _ _ _ h.2,rdc,Array.getElem?_append_left (by simp [Zi];omega),Array.getElem?_append_left (by rw [Zi];exact hk),Zcc f k hk]
theorem RdAt.w {w:World} {gr:Nat} {f ws:Nat->Int} {b:ByteArray} {a:Nat} (h:RdAt w gr f ws b a) (k:Nat) (hk:k<16):w.cell? ⟨gr,16+k,none⟩=some (.int .i64 (ws k)):=by
 rw [cell_of_row w gr _ _ _ _ h.2,rdc,Array.getElem?_append_left (by simp [Zi];omega),Array.getElem?_append_right (by rw [Zi];omega),Zi,show 16+k - 16=k by omega,Zcc ws k hk]
theorem RdAt.b {w:World} {gr:Nat} {f ws:Nat->Int} {b:ByteArray} {a:Nat} (h:RdAt w gr f ws b a):w.cell? ⟨gr,32,none⟩=some (.string b):=by
 rw [cell_of_row w gr _ _ _ _ h.2,rdc,Array.getElem?_append_right (by simp [Zi])];simp [Zi]
theorem RdAt.at_ {w:World} {gr:Nat} {f ws:Nat->Int} {b:ByteArray} {a:Nat} (h:RdAt w gr f ws b a):w.cell? ⟨gr,33,none⟩=some (.int .i64 (a:Nat)):=by
 rw [cell_of_row w gr _ _ _ _ h.2,rdc,Array.getElem?_append_right (by simp [Zi])];simp [Zi]
theorem RdAt.frozen {w:World} {gr:Nat} {f ws:Nat->Int} {b:ByteArray} {a:Nat} (h:RdAt w gr f ws b a) (k:Nat):w.frozen? ⟨gr,k,none⟩=false:=by simp [World.frozen?,h.2]
theorem Ztk (f ws:Nat->Int) (b:ByteArray) (a a':Nat):(rdc f ws b a).setIfInBounds 33 (.int .i64 (a':Nat))=rdc f ws b a':=by
 unfold rdc;have hs:(arr f++arr ws).size=32:=by rw [Array.size_append,Zi,Zi]
 generalize arr f++arr ws=c at *;apply Array.ext_getElem?;intro i;rw [Array.getElem?_setIfInBounds];by_cases hi:i<32
 ·rw [if_neg (by omega),Array.getElem?_append_left (by omega),Array.getElem?_append_left (by omega)]
 ·rw [Array.getElem?_append_right (by omega),Array.getElem?_append_right (by omega),hs];by_cases h1:i=32
  ·subst h1;simp
  ·by_cases h2:i=33
   ·subst h2;simp [hs]
   ·obtain ⟨j,rfl⟩:∃ j,i=j+34:=⟨i - 34,by omega⟩
    rw [if_neg (by omega)];simp [show j+34 - 32=j+2 by omega]
theorem RdAt.set {w:World} {gr:Nat} {f ws:Nat->Int} {b:ByteArray} {a:Nat} (h:RdAt w gr f ws b a) (a':Nat):RdAt (w.setCell ⟨gr,33,none⟩ (.int .i64 (a':Nat))) gr f ws b a':=by
 refine ⟨by have:=h.1;simpa [World.setCell] using this,?_⟩;rw [Zda h.2,Ztk]
theorem Zor (b:ByteArray) (a:Nat):bits BinOp.and IntKind.u8 ((Cd.at8 b (a / 8):Int) / 2 ^ (7 - a % 8)) 1=(Cd.ZI b a:Nat):=by
 have h1:=Cd.ZaC b (a / 8);have e0:((Cd.at8 b (a / 8):Int) / 2 ^ (7 - a % 8))=((Cd.at8 b (a / 8) / 2 ^ (7 - a % 8):Nat):Int):=by push_cast;rfl
 have h2:Cd.at8 b (a / 8) / 2 ^ (7 - a % 8)<=Cd.at8 b (a / 8):=Nat.div_le_self _ _;unfold Cd.ZI;rw [e0];generalize Cd.at8 b (a / 8) / 2 ^ (7 - a % 8)=q at *;have h3:=bits_mask .u8 8 (by decide) wraps_u8 1 (by decide) (q:Int) (by omega) (by omega);have e:((2:Int) ^ 1 - 1)=1:=by decide
 have e2:((2:Int) ^ 1)=2:=by decide
 rw [e,e2] at h3;rw [h3];omega
def Only (g:Nat) (a w:World):Prop:=Below g a w/\w.heap.size=a.heap.size/\∀ k,k ≠ g->w.heap[k]?=a.heap[k]?
theorem Only.refl (g:Nat) (a:World):Only g a a:=⟨Below.refl _ _,rfl,fun _ _=>rfl⟩
theorem Only.drewN {g:Nat} {a w:World} (h:Only g a w) (n:Nat):Only g a (w.drewN n):=⟨below_drewN h.1 n,h.2.1,h.2.2⟩
theorem Only.set {g:Nat} {a w:World} (h:Only g a w) (k:Nat) (v:Value):Only g a (w.setCell ⟨g,k,none⟩ v):=by
 refine ⟨h.1.setCell (p:=⟨g,k,none⟩) (nl _) _,by have:=h.2.1;simpa [World.setCell] using this,fun j hj=>?_⟩;rw [ZcW (fun e=>hj e.symm)];exact h.2.2 j hj
theorem Only.trans {g:Nat} {a b c:World} (h:Only g a b) (h':Only g b c):Only g a c:=⟨h.1.trans h'.1,h'.2.1.trans h.2.1,fun k hk=>(h'.2.2 k hk).trans (h.2.2 k hk)⟩
theorem Only.own {g:Nat} {a w:World} (h:Only g a w) {t:TypeId} {sz n:Nat} {v:Value} {cs:List Value} (ho:a.ownsRow (g+1) t sz v n cs):w.ownsRow (g+1) t sz v n cs:=by
 refine ⟨ho.1,?_⟩;rcases ho.2 with h0 | ⟨q,cap,cur,rfl,e1,e2,e3⟩
 ·exact .inl h0
 ·exact .inr ⟨q,cap,cur,rfl,e1,by rw [h.2.2 q (by omega)];exact e2,e3⟩
theorem ZpZ (gr:Nat) (f ws:Nat->Int) (b:ByteArray) (a:Nat) (w:World) (hB:RdAt w gr f ws b a) (hs:b.size<=140737488355328) (ha:a<=8*b.size) :
 Calls Tryz.prog 209 #[.pointer (some ⟨gr,0,none⟩)] w fun e w'=>e=.returned (.int .i64 (Cd.sgn f ws b 15 1 0 a).1)/\Only gr w w'/\RdAt w' gr f ws b (Cd.sgn f ws b 15 1 0 a).2:=by
 obtain ⟨r1,r2,hr⟩:∃ r1 r2,Cd.sgn f ws b 15 1 0 a=(r1,r2):=⟨_,_,rfl⟩
 rw [hr];have Hr:Hid (Cd.sgn f ws b 15 1 0 a=(r1,r2)):=hr;have hs':(b.size:Int)<=140737488355328:=by omega
 clear hr;go_enter Tryz.func209,Tryz.ntmps209
 go_wp2_with fail
 go_loopw [3,4] (fun x i wr=>∃ (m:Nat) (n word:Int) (A:Nat),m<=15/\i=.int .i64 n/\Hid (n=16 - (m:Int))/\x=.int .i64 word/\0<=word/\word<2 ^ (15 - m)/\A<=8*b.size/\Hid (Cd.sgn f ws b m n word A=(r1,r2))/\RdAt wr gr f ws b A/\Only gr w wr) (fun _ i _=>20 - (intOf i).toNat)
 case atStart=>exact ⟨15,1,0,a,by omega,rfl,by show _=_;omega,rfl,by omega,by decide,ha,Hr,hB,Only.refl _ _⟩
 case round =>
  clear hB Hr;obtain ⟨m,n,word,A,hm,rfl,Hn,rfl,hw0,hw1,hA,Hr,hB,G⟩:=hrel;have c32:=hB.b;have c33:=hB.at_;by_cases hend:m=0\/8*b.size<=A
  ·have h9:Cd.sgn f ws b m n word A=(-1,A):=by
    rcases hend with h | h
    ·subst h;rfl
    ·exact Cd.ZiQ h
   have h8:=Hr.out.symm.trans h9;simp only [Prod.mk.injEq] at h8;obtain ⟨rfl,rfl⟩:=h8;by_cases hm0:m=0
   ·have d1:decide (n<=15)=false:=by have:=Hn.out;simp;omega
    clear hend h9 hw1;go_wp2_with fail
    go_quiet (fail)
    go_wp2_with fail
    go_ret
    exact ⟨rfl,G.drewN _,hB.below (below_drewN (bR _ _) _)⟩
   ·have d1:decide (n<=15)=true:=by have:=Hn.out;simp;omega
    have d2:decide ((r2:Int)<8*(b.size:Int))=false:=by simp;omega
    have d3:decide (r2<8*b.size)=false:=by simp;omega
    clear hend h9 hw1;go_wp2_with fail
    go_quiet (fail)
    go_wp2_with fail
    go_ret
    exact ⟨rfl,G.drewN _,hB.below (below_drewN (bR _ _) _)⟩
  ·have hA1:A<8*b.size:=by omega
   obtain ⟨m,rfl⟩:∃ j,m=j+1:=⟨m - 1,by omega⟩
   have d1:decide (n<=15)=true:=by have:=Hn.out;simp;omega
   have d2:decide ((A:Int)<8*(b.size:Int))=true:=by simp;omega
   have d3:decide (A<8*b.size)=true:=by simp;omega
   obtain ⟨q,hq⟩:∃ q,A / 8=q:=⟨_,rfl⟩
   obtain ⟨r,hr⟩:∃ r,A % 8=r:=⟨_,rfl⟩
   have hql:q<b.size:=by omega
   have e3:(A:Int).tmod 8=(r:Int):=by rw [Int.tmod_eq_emod_of_nonneg (by omega)];omega
   have e4:(A:Int).tdiv 8=(q:Int):=by rw [Int.tdiv_eq_ediv_of_nonneg (by omega)];omega
   have e5:(A:Int) % 8=(r:Int):=by omega
   have e6:(A:Int) / 8=(q:Int):=by omega
   have hA8:Cd.at8 b q=b[q].toNat:=by unfold Cd.at8;rw [Nm.ZN b q hql];rfl
   obtain ⟨x,hx⟩:∃ x:Int,(b[q].toNat:Int)=x:=⟨_,rfl⟩
   have hbf:=Zor b A;rw [hq,hr,hA8,hx] at hbf;have hx0:0<=x:=by omega
   have hx1:x<=255:=by have:=b[q].toNat_lt;omega
   have hr8:r<8:=by omega
   have hw2:word<=32768:=by have h9:(2:Int) ^ (15 - (m+1))<=2 ^ 15:=Cd.ZbE (by omega);omega
   have HW1:Hid (2*word+(Cd.ZI b A:Nat)<2 ^ (15 - m)):=by
    have h9:(2:Int) ^ (15 - m)=2*2 ^ (15 - (m+1)):=by rw [show 15 - m=(15 - (m+1))+1 by omega,Int.pow_succ];omega
    have:=Cd.ZdY b A;show _<_;omega
   have hbl:=Cd.ZdY b A;have HS0:Hid (∀ k,Cd.fnd f ws n (2*word+(Cd.ZI b A:Nat))=some k->(r1,r2)=((k:Int),A+1)):=fun k h=>Hr.out.symm.trans (Cd.ZdT (by omega) h)
   have HS1:Hid (Cd.fnd f ws n (2*word+(Cd.ZI b A:Nat))=none->Cd.sgn f ws b m (n+1) (2*word+(Cd.ZI b A:Nat)) (A+1)=(r1,r2)):=fun h=>(Cd.ZdV (by omega) h).symm.trans Hr.out
   have HFN:Hid (Cd.fnd f ws n (2*word+(Cd.ZI b A:Nat))=Cd.find f ws n (2*word+(Cd.ZI b A:Nat)) 16):=rfl;have Hm:Hid (m<=15):=by show _<=_;omega
   have hn1:1<=n/\n<=15:=by have:=Hn.out;omega
   have Hn2:Hid (n+1=16 - (m:Int)):=by have:=Hn.out;show _=_;omega
   have HA2:Hid (A+1<=8*b.size):=hA1;generalize Cd.ZI b A=y at *;clear hend Hr hw1 Hn hA8 hm
   have HQR:Hid (A / 8=q/\A % 8=r):=⟨hq,hr⟩
   have hAb:A<=1125899906842624:=by omega
   clear hq hr hA;go_wp2_with fail
   go_quiet (fail)
   go_wp2_with fail
   have hB2:=hB.below (below_drewN (bR wr.heap.size wr) nq);have G2:=G.drewN nq;clear hB G c32 c33;generalize wr.drewN nq=wq at *;have c32:=hB2.b;have c33:=hB2.at_;have hf33:=hB2.frozen 33;go_quiet (fail)
   have hB3:=hB2.below (below_drewN (bR wq.heap.size wq) nq);have G3:=G2.drewN nq;clear hB2 G2 c32 c33 hf33;generalize wq.drewN nq=wy at *;have c33:=hB3.at_;have hf33:=hB3.frozen 33;have hB4:RdAt (wy.setCell ⟨gr,33,none⟩ (.int .i64 ((A:Int)+1))) gr f ws b (A+1):=hB3.set (A+1);have G4:Only gr w (wy.setCell ⟨gr,33,none⟩ (.int .i64 ((A:Int)+1))):=G3.set 33 _;go_wp2_with fail
   clear hB3 G3 c33 hf33;generalize wy.setCell ⟨gr,33,none⟩ (.int .i64 ((A:Int)+1))=wz at *
   obtain ⟨WD,hWD⟩:∃ WD:Int,2*word+(y:Int)=WD:=⟨_,rfl⟩
   rw [hWD] at HW1 HS0 HS1 HFN;have hWD0:0<=WD:=by omega
   rw [hWD];clear hWD;go_loop [52] (fun i=>∃ k:Nat,k<=16/\i=.int .i64 k/\Hid (Cd.find f ws n WD k=none)) (fun i=>16 - (intOf i).toNat)
   case atStart=>exact ⟨0,by omega,rfl,rfl⟩
   case round =>
    obtain ⟨k,hk,rfl,hF⟩:=hrel;by_cases hlt:k<16
    ·have hk1:decide ((k:Int)<16)=true:=by simp;omega
     have hk2:decide (k<16)=true:=by simp;omega
     have cl:=hB4.l k hlt;have cw:=hB4.w k hlt
     have HF0:Hid (f k=n/\ws k=WD->r1=(k:Int)/\r2=A+1):=fun h=>by
      have h9:=Cd.Zok hF.out h (15 - k);rw [show k+1+(15 - k)=16 by omega,<-HFN.out] at h9;have h8:=HS0.out k h9;simpa using h8
     have HF1:Hid (¬ (f k=n/\ws k=WD)->Cd.find f ws n WD (k+1)=none):=fun h=>Cd.ZhP hF.out h
     by_cases h1:f k=n
     ·by_cases h2:ws k=WD
      ·obtain ⟨rfl,rfl⟩:=HF0.out ⟨h1,h2⟩;have dd1:(f k == n)=true:=by simpa using h1
       have dd2:(ws k == WD)=true:=by simpa using h2
       generalize f k=z1 at *;generalize ws k=z2 at *;clear h1 h2 HF0 HF1;go_wp2_with fail
       go_ret
       exact ⟨rfl,G4,hB4⟩
      ·have HFF:Hid (Cd.find f ws n WD (k+1)=none):=HF1.out (fun h=>h2 h.2);have dd1:(f k == n)=true:=by simpa using h1
       have dd2:(ws k == WD)=false:=by simpa using h2
       generalize f k=z1 at *;generalize ws k=z2 at *;clear h1 h2 HF0 HF1;go_wp2_with fail
       exact ⟨⟨k+1,by omega,by go_num,HFF⟩,by simp [intOf];omega⟩
     ·have HFF:Hid (Cd.find f ws n WD (k+1)=none):=HF1.out (fun h=>h1 h.1);have dd1:(f k == n)=false:=by simpa using h1
      generalize f k=z1 at *;clear h1 HF0 HF1;go_wp2_with fail
      exact ⟨⟨k+1,by omega,by go_num,HFF⟩,by simp [intOf];omega⟩
    ·obtain rfl:k=16:=by omega
     have HZ:Hid (Cd.sgn f ws b m (n+1) WD (A+1)=(r1,r2)):=HS1.out (HFN.out.trans hF.out);have HW2:=HW1.out;go_wp2_with fail
     go_roundw
     case rel=>exact ⟨m,n+1,WD,A+1,Hm.out,by go_num,Hn2,rfl,hWD0,HW2,HA2.out,HZ,hB4,G4⟩
     case measure=>simp [intOf];omega
end Go.Proofs.YtbjbjbpgmojcbabGreat
