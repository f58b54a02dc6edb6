/- A part of the proof: what it leans on. -/
import Derived.Shelf.Small.Strs
import Derived.Shelf.LaysM
import Derived.Shelf.Strings.Search3
import Derived.Shelf.Strings.Shaped
import Derived.Shelf.SlSortCmp.NoneTotal
import Derived.Maps.OwnSet
import Derived.Maps.OwnOps
import Derived.Maps.RangeWalk
import Derived.Sort.OwnSorted
import Derived.Sort.KeysCollected
import Derived.OwnWalk
import Derived.Test.YtbjbjbpgmojcbabGreatBookT01
import Derived.Test.YtbjbjbpgmojcbabGreatBookT05
import Derived.Test.YtbjbjbpgmojcbabGreatBookT06
import Derived.Test.YtbjbjbpgmojcbabGreatBookT07
import Derived.Test.YtbjbjbpgmojcbabGreatBookT08
set_option maxRecDepth 4000
set_option maxHeartbeats 2000000
namespace Go.Proofs.YtbjbjbpgmojcbabGreat
open Go.RowKit
namespace Cd
theorem wI_same {f g:Nat->Int} {n:Int} {x:Int × (Nat->Int)}:∀ k,(∀ i,i<k->f i=g i)->wI f n x k=wI g n x k:=by
 intro k
 induction k with
 | zero=>intro _;rfl
 | succ k ih=>intro h;rw [wI,wI,ih (fun i hi=>h i (by omega)),h k (by omega)]
theorem wO_same {f g:Nat->Int} (h:∀ i,i<16->f i=g i):∀ n,wO f n=wO g n:=by
 intro n
 induction n with
 | zero=>rfl
 | succ n ih=>rw [wO,wO,ih,wI_same 16 h]
theorem wds_same {f g:Nat->Int} (h:∀ i,i<16->f i=g i):wds f=wds g:=by rw [wds,wds,wO_same h]
theorem find_same {f g ws:Nat->Int} {n word:Int}:∀ k,(∀ i,i<k->f i=g i)->find f ws n word k=find g ws n word k:=by
 intro k
 induction k with
 | zero=>intro _;rfl
 | succ k ih=>intro h;rw [find,find,ih (fun i hi=>h i (by omega)),h k (by omega)]
theorem sgn_same {f g ws:Nat->Int} {b:ByteArray} (h:∀ i,i<16->f i=g i):∀ m n word a,sgn f ws b m n word a=sgn g ws b m n word a:=by
 intro m
 induction m with
 | zero=>intro _ _ _;rfl
 | succ m ih=>intro n word a;rw [sgn,sgn,ih,fnd,fnd,find_same 16 h]
theorem s15_same {f g:Nat->Int} {b:ByteArray} (h:∀ i,i<16->f i=g i) (a:Nat):s15 f b a=s15 g b a:=by rw [s15,s15,wds_same h,sgn_same h]
theorem rdK_same {f g:Nat->Int} {b:ByteArray} (h:∀ i,i<16->f i=g i):∀ k,rdK f b k=rdK g b k:=by
 intro k
 induction k with
 | zero=>rfl
 | succ k ih=>rw [rdK,rdK,ih];simp only [s15_same h]
theorem sm_same {f g:Nat->Int}:∀ k,(∀ i,i<k->f i=g i)->sm f k=sm g k:=by
 intro k
 induction k with
 | zero=>intro _;rfl
 | succ k ih=>intro h;rw [sm,sm,ih (fun i hi=>h i (by omega)),h k (by omega)]
theorem chk_same {f g:Nat->Int} (h:∀ i,i<16->f i=g i):chk f=chk g:=by
 have e:InR f 15 16 ↔ InR g 15 16:=⟨fun h9 i hi=>by rw [<-h i hi];exact h9 i hi,fun h9 i hi=>by rw [h i hi];exact h9 i hi⟩
 rw [chk,chk,sm_same 16 h]
 by_cases h1:InR f 15 16
 · rw [if_pos h1,if_pos (e.1 h1)]
 · rw [if_neg h1,if_neg (fun h9=>h1 (e.2 h9))]
theorem rd_same {f g:Nat->Int} {b:ByteArray} {n:Int} (h:∀ i,i<16->f i=g i):rd f b n=rd g b n:=by
 rw [rd,rd,chk_same h,rdK_same h]
theorem wrK_all {f:Nat->Int} {s:ByteArray}:∀ k,(∀ i,i<k->f (at8 s i / 16) ≠ 0/\f (at8 s i % 16) ≠ 0)->∃ bs,wrK f s k=some bs:=by
 intro k
 induction k with
 | zero=>intro _;exact ⟨[],rfl⟩
 | succ k ih =>
  intro h
  obtain ⟨bs,e⟩:=ih (fun i hi=>h i (by omega))
  have h1:=h k (by omega)
  exact ⟨_,wrK_next e (fun h9=>h9.elim h1.1 h1.2)⟩
end Cd
namespace Bk
theorem hvK_mono (s:ByteArray):∀ k i,hvK s k i<=hvK s (k+1) i:=by
 intro k i
 rw [hvK]
 unfold upd
 split
 · rename_i h
   split
   · rename_i h2;rw [<-h2,h];omega
   · rw [h];omega
 · split
   · rename_i h2;rw [h2];omega
   · exact Int.le_refl _
theorem hvK_le (s:ByteArray) (k i:Nat):∀ j,hvK s k i<=hvK s (k+j) i:=by
 intro j
 induction j with
 | zero=>exact Int.le_refl _
 | succ j ih=>exact Int.le_trans ih (hvK_mono s (k+j) i)
theorem hvK_here (s:ByteArray) (k:Nat):1<=hvK s (k+1) (Cd.at8 s k / 16)/\1<=hvK s (k+1) (Cd.at8 s k % 16):=by
 have h1:=(hvK_b s k (Cd.at8 s k / 16)).1
 have h2:=(hvK_b s k (Cd.at8 s k % 16)).1
 rw [hvK]
 unfold upd
 refine ⟨?_,?_⟩
 · split
   · split <;> omega
   · rw [if_pos rfl];omega
 · rw [if_pos rfl]
   split <;> omega
theorem hv_here {s:ByteArray} {k:Nat} (h:k<s.size):1<=hv s (Cd.at8 s k / 16)/\1<=hv s (Cd.at8 s k % 16):=by
 have h1:=hvK_here s k
 have h2:=hvK_le s (k+1) (Cd.at8 s k / 16) (s.size - (k+1))
 have h3:=hvK_le s (k+1) (Cd.at8 s k % 16) (s.size - (k+1))
 rw [show k+1+(s.size - (k+1))=s.size by omega] at h2 h3
 unfold hv
 omega
theorem bld_fine {s:ByteArray} (h0:s.size ≠ 0) (h:s.size<=1024):(Cd.bld (hv s)).2=0:=by
 unfold Cd.bld
 rw [if_neg (fun h9=>h9 (hv_in s h))]
 have h1:=(hv_here (s:=s) (k:=0) (by omega)).1
 have h2:=((Cd.lt2_min (hv s) 16).1 (Cd.at8 s 0 / 16) (by have:=Cd.at8_lt s 0;omega) (by omega)).1
 rw [if_neg h2]
 split <;> rfl
theorem wrt_fine {s:ByteArray} (h0:s.size ≠ 0) (h:s.size<=1024):(Cd.wrt (Cd.bld (hv s)).1 s).2=0:=by
 obtain ⟨hc,hz,_⟩:=Cd.bld_best (hv s) (bld_fine h0 h)
 have hn:∀ i,i<16->¬ (0<hv s i/\(Cd.bld (hv s)).1 i=0):=by
  cases hq:Cd.cst (Cd.bld (hv s)).1 (hv s) 16 with
  | none=>rw [cost_none hc (hv_in s h) hq] at hz;exact absurd hz (by decide)
  | some n=>exact (Cd.cst_inv 16 n hq).1
 obtain ⟨bs,e⟩:=Cd.wrK_all (f:=(Cd.bld (hv s)).1) (s:=s) s.size (fun i hi=>by
  have h1:=hv_here hi
  have h2:=Cd.at8_lt s i
  exact ⟨fun h9=>hn _ (by omega) ⟨by omega,h9⟩,fun h9=>hn _ (by omega) ⟨by omega,h9⟩⟩)
 rw [Cd.wrt,if_neg (fun h9=>h9 hc),if_neg (by omega),e]
theorem at8_jn (f:Nat->Int) (h:Cd.InR f 15 16) (j:Nat) (hj:j<8):(Cd.at8 ⟨(jn f).toArray⟩ j:Int)=f (2*j)*16+f (2*j+1):=by
 have h1:=h (2*j) (by omega)
 have h2:=h (2*j+1) (by omega)
 unfold Cd.at8 jn jnK
 simp only [List.getElem?_map,List.getElem?_range hj,Option.map_some,Option.getD_some]
 rw [UInt8.toNat_ofNat']
 omega
theorem pt_jn (f:Nat->Int) (h:Cd.InR f 15 16):∀ i,i<16->pt ⟨(jn f).toArray⟩ i=f i:=by
 intro i hi
 have h1:=at8_jn f h (i / 2) (by omega)
 have h2:=h (2*(i / 2)) (by omega)
 have h3:=h (2*(i / 2)+1) (by omega)
 unfold pt ptK
 rw [if_pos (by omega)]
 split
 · rename_i h4
   rw [show 2*(i / 2)=i by omega] at *
   omega
 · rename_i h4
   rw [show 2*(i / 2)+1=i by omega] at *
   omega
theorem ext_front (a b:ByteArray):(a++b).extract 0 a.size=a:=by
 apply Nm.ba_ext
 simp [ByteArray.data_extract,ByteArray.data_append,Array.toList_extract]
 rw [List.take_of_length_le (by rw [Cd.size_list];exact Nat.le_refl _)]
theorem ext_back (a b:ByteArray):(a++b).extract a.size (a++b).size=b:=by
 apply Nm.ba_ext
 simp [ByteArray.data_extract,ByteArray.data_append,Array.toList_extract]
 rw [List.drop_of_length_le (by rw [Cd.size_list];exact Nat.le_refl _),List.take_nil,List.nil_append,List.take_of_length_le (by rw [Cd.size_list];exact Nat.le_refl _)]
theorem jn_size (f:Nat->Int):(⟨(jn f).toArray⟩:ByteArray).size=8:=by
 show (jn _).toArray.size=_
 simp [jn,jnK_len]
theorem dec_enc {s:ByteArray} (h0:s.size ≠ 0) (h:s.size<=1024):dec (enc s)=(s,0):=by
 have hL:=bld_in (hv_in s h)
 have hw:=wrt_fine h0 h
 unfold enc
 generalize (Cd.bld (hv s)).1=L at *
 rw [ByteArray.append_assoc]
 have e8:=jn_size L
 have x1:=ext_front ⟨(jn L).toArray⟩ ((⟨(Nm.nb s.size).toArray⟩:ByteArray)++(Cd.wrt L s).1)
 have x2:=ext_back ⟨(jn L).toArray⟩ ((⟨(Nm.nb s.size).toArray⟩:ByteArray)++(Cd.wrt L s).1)
 have x3:=ext_back ⟨(Nm.nb s.size).toArray⟩ (Cd.wrt L s).1
 rw [e8] at x1 x2
 have hf:Nm.from_ ((⟨(Nm.nb s.size).toArray⟩:ByteArray)++(Cd.wrt L s).1).data.toList=some (s.size,(Nm.nb s.size).length):=by
  rw [Nm.appd]
  exact Nm.from_nb s.size _ (by omega)
 have e9:(⟨(Nm.nb s.size).toArray⟩:ByteArray).size=(Nm.nb s.size).length:=by
  show (Nm.nb s.size).toArray.size=_
  simp
 rw [e9] at x3
 rw [dec_some (n:=s.size) (k:=(Nm.nb s.size).length) (by rw [ByteArray.size_append,e8];omega) (by rw [x2];exact hf),x1,x2,x3,Cd.rd_same (pt_jn L hL),Cd.rd_wrt hw,if_pos rfl]
theorem mnK_first (xs:List ByteArray):∀ n,(mnK xs n).size<=(xa xs 0).size:=by
 intro n
 induction n with
 | zero=>exact Nat.le_refl _
 | succ n ih =>
  rw [mnK]
  split <;> omega
theorem mnK_mem (xs:List ByteArray) (h:xs ≠ []):∀ n,n<=xs.length->mnK xs n ∈ xs:=by
 intro n
 induction n with
 | zero =>
  intro _
  cases xs with
  | nil=>exact absurd rfl h
  | cons x xs=>exact List.mem_cons_self
 | succ n ih =>
  intro hn
  rw [mnK]
  split
  · have e:xa xs n=xs[n]'(by omega):=by rw [xa,List.getD_eq_getElem?_getD,List.getElem?_eq_getElem (by omega)];rfl
    rw [e]
    exact List.getElem_mem _
  · exact ih (by omega)
theorem at_one (x:UInt8) (b:ByteArray):Cd.at8 ((⟨#[x]⟩:ByteArray)++b) 0=x.toNat:=by
 unfold Cd.at8
 rw [Nm.appd]
 rfl
theorem ext_one (x:UInt8) (b:ByteArray):((⟨#[x]⟩:ByteArray)++b).extract 1 ((⟨#[x]⟩:ByteArray)++b).size=b:=ext_back ⟨#[x]⟩ b
theorem one_size (x:UInt8) (b:ByteArray):((⟨#[x]⟩:ByteArray)++b).size=b.size+1:=by
 rw [ByteArray.size_append]
 show 1+_=_
 omega
theorem ply_tk {dict text:ByteArray} (hd:dict.size<=256) (ht:text.size<=512):ply dict (tk dict text)=(text,0):=by
 obtain ⟨h1,h2⟩:=parse_plays dict text hd ht
 unfold ply
 rw [tk,read_write h1]
 simp only [h2]
theorem unp_pak {dict text:ByteArray} (hd:dict.size<=256) (ht:text.size<=512):(pak dict text).2=0/\unp dict (pak dict text).1=(text,0)/\(pak dict text).1.size<=text.size+1:=by
 have e:pak dict text=(mnK (bks text (tk dict text)) (bks text (tk dict text)).length,0):=if_neg (by omega)
 rw [e]
 have hp:=ply_tk hd ht
 have hz:=tk_size hd ht
 generalize tk dict text=s at *
 have hne:bks text s ≠ []:=by unfold bks;split <;> simp
 have hx:xa (bks text s) 0=(⟨#[0]⟩:ByteArray)++text:=by unfold bks;split <;> rfl
 have hf:=mnK_first (bks text s) (bks text s).length
 rw [hx,one_size] at hf
 refine ⟨rfl,?_,hf⟩
 have hm:=mnK_mem (bks text s) hne _ (Nat.le_refl _)
 simp only
 generalize mnK (bks text s) (bks text s).length=b at *
 have u0:unp dict ((⟨#[0]⟩:ByteArray)++text)=(text,0):=by
  rw [unp,if_neg (by omega),if_neg (by rw [one_size];omega),at_one,if_pos (by decide),ext_one,whl,if_neg (by omega)]
 have u1:unp dict ((⟨#[1]⟩:ByteArray)++s)=(text,0):=by
  rw [unp,if_neg (by omega),if_neg (by rw [one_size];omega),at_one,if_neg (by decide),if_pos (by decide),ext_one,hp]
 have u2:s.size ≠ 0->unp dict ((⟨#[2]⟩:ByteArray)++enc s)=(text,0):=by
  intro h0
  rw [unp,if_neg (by omega),if_neg (by rw [one_size];omega),at_one,if_neg (by decide),if_neg (by decide),if_pos (by decide),ext_one,dec_enc h0 hz,if_pos rfl,hp]
 unfold bks at hm
 by_cases h0:s.size=0
 · rw [if_pos h0] at hm
   simp only [List.mem_cons,List.not_mem_nil,or_false] at hm
   rcases hm with rfl | rfl
   · exact u0
   · exact u1
 · rw [if_neg h0] at hm
   simp only [List.mem_cons,List.not_mem_nil,or_false] at hm
   rcases hm with rfl | rfl | rfl
   · exact u0
   · exact u1
   · exact u2 h0
end Bk
end Go.Proofs.YtbjbjbpgmojcbabGreat
namespace Go.Proofs.YtbjbjbpgmojcbabGreat
namespace Ar
def SrtP (fs:List F):Prop:=fs.Pairwise fun f g=>Tr.bl f.name g.name=true
theorem srt_iff {fs:List F}:Srt fs ↔ SrtP fs:=by
 unfold Srt SrtP
 rw [List.pairwise_iff_getElem]
 constructor
 · intro h i j hi hj hij
   have:=h i j hij hj
   rwa [fa_get hi,fa_get hj] at this
 · intro h i j hij hj
   rw [fa_get (by omega),fa_get hj]
   exact h i j (by omega) hj hij
theorem gdK_iff {a:A}:gdK a a.files.length=true ↔ (∀ f ∈ a.files,isNm f.name=true/\okf a.dicts f=true)/\SrtP a.files:=by
 constructor
 · intro h
   refine ⟨fun f hf=>?_,srt_iff.1 (srt_of h)⟩
   obtain ⟨i,hi,rfl⟩:=List.mem_iff_getElem.1 hf
   have:=okAt_parts (gdK_at h hi)
   rw [fa_get hi] at this
   exact ⟨this.1,this.2.2⟩
 · rintro ⟨h1,h2⟩
   refine gdK_of fun i hi=>?_
   have h3:=h1 _ (List.getElem_mem hi)
   simp only [okAt,Bool.and_eq_true,Bool.or_eq_true,decide_eq_true_iff]
   refine ⟨⟨by rw [fa_get hi];exact h3.1,?_⟩,by rw [fa_get hi];exact h3.2⟩
   by_cases e:i=0
   · exact .inl e
   · exact .inr (srt_iff.2 h2 (i - 1) i (by omega) hi)
theorem chk_zero {a:A}:chk a=0 ↔ many a=false/\gdK a a.files.length=true:=by
 unfold chk
 cases many a <;> cases gdK a a.files.length <;> simp
theorem chk_srt {a:A} (h:chk a=0):Srt a.files:=srt_of (chk_zero.1 h).2
theorem lgK_none {xs:List ByteArray}:∀ {k:Nat},lgK xs k=none ↔ ∀ i,i<k->(Tr.xa xs i).size<=256
 | 0=>by simp [lgK]
 | k+1=>by
  rw [lgK]
  have ih:=lgK_none (xs:=xs) (k:=k)
  cases h:lgK xs k with
  | some i =>
   simp only [reduceCtorEq,false_iff]
   intro h2
   rw [ih.2 (fun i hi=>h2 i (by omega))] at h;cases h
  | none =>
   have h1:=ih.1 h
   simp only
   by_cases hs:256<(Tr.xa xs k).size
   · rw [if_pos hs]
     simp only [reduceCtorEq,false_iff]
     intro h2
     have:=h2 k (by omega);omega
   · rw [if_neg hs]
     simp only [true_iff]
     intro i hi
     by_cases e:i=k
     · subst e;omega
     · exact h1 i (by omega)
theorem lg_mem {xs:List ByteArray}:lgK xs xs.length=none ↔ ∀ d ∈ xs,d.size<=256:=by
 rw [lgK_none]
 constructor
 · intro h d hd
   obtain ⟨i,hi,rfl⟩:=List.mem_iff_getElem.1 hd
   have:=h i hi
   rwa [show Tr.xa xs i=xs[i] by simp [Tr.xa,hi]] at this
 · intro h i hi
   rw [show Tr.xa xs i=xs[i] by simp [Tr.xa,hi]]
   exact h _ (List.getElem_mem hi)
theorem many_iff {a:A}:many a=false ↔ a.dicts.length<=4/\a.files.length<=12/\∀ d ∈ a.dicts,d.size<=256:=by
 rw [<-lg_mem,many,Bool.or_eq_false_iff,decide_eq_false_iff_not]
 cases h:lgK a.dicts a.dicts.length <;> simp <;> omega
theorem dct_size {a:A} (h:many a=false) (n:Int):(dct a.dicts n).size<=256:=by
 have h3:=(many_iff.1 h).2.2
 unfold dct
 split
 · show 0<=_;omega
 · generalize (n - 1).toNat=m
   by_cases hi:m<a.dicts.length
   · rw [show Tr.xa a.dicts m=a.dicts[m] by simp [Tr.xa,hi]]
     exact h3 _ (List.getElem_mem hi)
   · rw [show Tr.xa a.dicts m=⟨#[]⟩ by simp [Tr.xa,show a.dicts.length<=m by omega]]
     show 0<=_;omega
def lk (fs:List F) (o:ByteArray):Option F:=if there fs o=true then some (fa fs (pos fs o)) else none
theorem lk_iff {fs:List F} (hs:Srt fs) {o:ByteArray} {g:F}:lk fs o=some g ↔ g ∈ fs/\g.name=o:=by
 unfold lk
 constructor
 · intro h
   split at h
   · rename_i ht
     obtain ⟨h1,h2⟩:=there_parts ht
     cases h
     exact ⟨by rw [fa_get h1];exact List.getElem_mem h1,h2⟩
   · cases h
 · rintro ⟨h1,rfl⟩
   obtain ⟨i,hi,rfl⟩:=List.mem_iff_getElem.1 h1
   have e:fs[i]=fa fs i:=(fa_get hi).symm
   rw [e,if_pos (there_name hs hi),pos_name hs hi]
theorem lk_same {fs gs:List F} (h1:Srt fs) (h2:Srt gs) {o:ByteArray} (h:∀ g:F,g.name=o->(g ∈ fs ↔ g ∈ gs)):lk fs o=lk gs o:=by
 apply Option.ext
 intro g
 rw [lk_iff h1,lk_iff h2]
 constructor
 · rintro ⟨h3,h4⟩;exact ⟨(h g h4).1 h3,h4⟩
 · rintro ⟨h3,h4⟩;exact ⟨(h g h4).2 h3,h4⟩
theorem getE_lk (a:A) (h:chk a=0) (o:ByteArray):getE a o=if (lk a.files o).isSome=true then 0 else 5:=by
 unfold getE lk
 rw [if_neg (fun h9=>h9 h)]
 cases there a.files o <;> rfl
theorem getT_lk (a:A) (h:chk a=0) (o:ByteArray):getT a o=match lk a.files o with | some g=>tx a.dicts g | none=>⟨#[]⟩:=by
 unfold getT
 rw [getE_lk a h]
 unfold lk
 cases there a.files o <;> rfl
theorem mem_put {fs:List F} (hs:Srt fs) {f g:F}:g ∈ putF fs f ↔ g=f\/(g ∈ fs/\g.name ≠ f.name):=by
 unfold putF
 rw [List.mem_append,List.mem_cons]
 constructor
 · rintro (h | h | h)
   · right
     obtain ⟨i,hi,rfl⟩:=List.mem_iff_getElem.1 h
     rw [List.length_take] at hi
     rw [List.getElem_take]
     refine ⟨List.getElem_mem _,fun e=>?_⟩
     have:=pos_lt (fs:=fs) (name:=f.name) (i:=i) (by omega)
     rw [fa_get (by omega),e,Tr.bl_irr] at this;cases this
   · exact .inl h
   · right
     obtain ⟨i,hi,rfl⟩:=List.mem_iff_getElem.1 h
     rw [List.length_drop] at hi
     rw [List.getElem_drop]
     refine ⟨List.getElem_mem _,fun e=>?_⟩
     cases ht:there fs f.name with
     | false =>
      have:=not_there hs ht (i:=pos fs f.name+(if there fs f.name=true then 1 else 0)+i) (by omega)
      rw [fa_get (by omega)] at this
      exact this e
     | true =>
      rw [ht] at hi
      simp only [if_true] at hi
      have:=behind hs (name:=f.name) (i:=pos fs f.name+1+i) (by omega) (by omega)
      rw [fa_get (by omega)] at this
      simp only [ht,if_true] at e
      rw [e,Tr.bl_irr] at this;cases this
 · rintro (h | ⟨h,hne⟩)
   · exact .inr (.inl h)
   · obtain ⟨i,hi,rfl⟩:=List.mem_iff_getElem.1 h
     by_cases h1:i<pos fs f.name
     · left
       exact List.mem_iff_getElem.2 ⟨i,by rw [List.length_take];omega,by rw [List.getElem_take]⟩
     · right;right
       have hth:(if there fs f.name=true then 1 else 0)<=i - pos fs f.name:=by
        cases ht:there fs f.name with
        | false=>simp
        | true =>
         simp only [if_true]
         have h2:=(there_parts ht).2
         by_cases e:i=pos fs f.name
         · subst e;rw [fa_get hi] at h2;exact absurd h2 hne
         · omega
       refine List.mem_iff_getElem.2 ⟨i - pos fs f.name - (if there fs f.name=true then 1 else 0),by rw [List.length_drop];omega,?_⟩
       rw [List.getElem_drop]
       congr 1
       omega
theorem srt_put {fs:List F} (hs:Srt fs) (f:F):Srt (putF fs f):=by
 rw [srt_iff]
 have hp:=srt_iff.1 hs
 unfold putF SrtP
 rw [List.pairwise_append]
 have hlow:∀ g ∈ fs.take (pos fs f.name),Tr.bl g.name f.name=true:=by
  intro g hg
  obtain ⟨i,hi,rfl⟩:=List.mem_iff_getElem.1 hg
  rw [List.length_take] at hi
  rw [List.getElem_take,<-fa_get]
  exact pos_lt (by omega)
 have hhigh:∀ g ∈ fs.drop (pos fs f.name+if there fs f.name=true then 1 else 0),Tr.bl f.name g.name=true:=by
  intro g hg
  obtain ⟨i,hi,rfl⟩:=List.mem_iff_getElem.1 hg
  rw [List.length_drop] at hi
  rw [List.getElem_drop,<-fa_get]
  cases ht:there fs f.name with
  | true =>
   rw [ht] at hi
   simp only [if_true] at hi |-
   exact behind hs (by omega) (by omega)
  | false =>
   rw [ht] at hi
   simp only [Bool.false_eq_true,if_false,Nat.add_zero] at hi |-
   by_cases e:i=0
   · subst e;exact at_or (by omega) ht
   · exact behind hs (by omega) (by omega)
 refine ⟨hp.sublist (List.take_sublist _ _),List.pairwise_cons.2 ⟨hhigh,hp.sublist (List.drop_sublist _ _)⟩,?_⟩
 intro g hg k hk
 rcases List.mem_cons.1 hk with rfl | hk
 · exact hlow g hg
 · exact Tr.bl_trans (hlow g hg) (hhigh k hk)
theorem len_put (fs:List F) (f:F):(putF fs f).length=if there fs f.name=true then fs.length else fs.length+1:=by
 unfold putF
 have:=pos_le fs f.name
 rw [List.length_append,List.length_cons,List.length_take,List.length_drop]
 cases ht:there fs f.name with
 | true=>have:=(there_parts ht).1;simp;omega
 | false=>simp;omega
theorem up_pk {a:A} (h:many a=false) (name text:ByteArray) (dict:Int) (ht:text.size<=512):up a.dicts (pk a.dicts name text dict)=(text,0):=(Bk.unp_pak (dct_size h dict) ht).2.1
theorem okf_pk {a:A} (h:many a=false) (name text:ByteArray) (dict:Int) (ht:text.size<=512) (hd:has a.dicts dict=true):okf a.dicts (pk a.dicts name text dict)=true:=by
 unfold okf
 rw [up_pk h name text dict ht]
 simp only [Bool.and_eq_true]
 exact ⟨hd,decide_eq_true ⟨by trivial,rfl,rfl⟩⟩
theorem putE_zero {a:A} {name text:ByteArray} {dict:Int} (h:putE a name text dict=0) :
 chk a=0/\isNm name=true/\has a.dicts dict=true/\text.size<=512/\(there a.files name=true\/a.files.length ≠ 12):=by
 unfold putE at h
 by_cases h1:chk a=0
 · rw [if_neg (fun h9=>h9 h1)] at h
   cases h2:isNm name with
   | false=>rw [h2] at h;simp at h
   | true =>
    cases h3:has a.dicts dict with
    | false=>rw [h2,h3] at h;simp at h
    | true =>
     rw [h2,h3] at h
     simp only [Bool.true_eq_false,if_false] at h
     split at h
     · cases h
     · rename_i h4
       refine ⟨h1,by simp,by simp,by omega,?_⟩
       cases h5:there a.files name with
       | true=>exact .inl rfl
       | false=>right;intro e;exact h4 (.inr ⟨h5,e⟩)
 · rw [if_pos h1] at h;exact absurd h h1
theorem putA_is {a:A} {name text:ByteArray} {dict:Int} (h:putE a name text dict=0):putA a name text dict=⟨a.dicts,putF a.files (pk a.dicts name text dict)⟩:=if_pos h
theorem chk_put {a:A} {name text:ByteArray} {dict:Int} (h:putE a name text dict=0):chk (putA a name text dict)=0:=by
 obtain ⟨h1,h2,h3,h4,h5⟩:=putE_zero h
 obtain ⟨hm,hg⟩:=chk_zero.1 h1
 have hs:=srt_of hg
 rw [putA_is h,chk_zero]
 obtain ⟨m1,m2,m3⟩:=many_iff.1 hm
 have hp:=gdK_iff.1 hg
 refine ⟨many_iff.2 ⟨m1,?_,m3⟩,gdK_iff.2 ⟨?_,srt_iff.1 (srt_put hs _)⟩⟩
 · show (putF a.files (pk a.dicts name text dict)).length<=12
   rw [len_put]
   show (if there a.files name=true then a.files.length else a.files.length+1)<=12
   split <;> rcases h5 with h5 | h5 <;> first | omega | simp_all
 · intro f hf
   rcases (mem_put hs).1 hf with rfl | ⟨hf,_⟩
   · exact ⟨h2,okf_pk hm name text dict h4 h3⟩
   · exact hp.1 f hf
theorem get_put {a:A} {name text:ByteArray} {dict:Int} (h:putE a name text dict=0):getE (putA a name text dict) name=0/\getT (putA a name text dict) name=text:=by
 obtain ⟨h1,h2,h3,h4,h5⟩:=putE_zero h
 have hc:=chk_put h
 have hs:=chk_srt hc
 obtain ⟨hm,hg⟩:=chk_zero.1 h1
 have hl:lk (putA a name text dict).files name=some (pk a.dicts name text dict):=by
  rw [lk_iff hs]
  rw [putA_is h]
  exact ⟨(mem_put (srt_of hg)).2 (.inl rfl),rfl⟩
 rw [getE_lk _ hc,getT_lk _ hc,hl]
 refine ⟨rfl,?_⟩
 rw [putA_is h]
 show (up a.dicts (pk a.dicts name text dict)).1=text
 rw [up_pk hm name text dict h4]
theorem get_put_other {a:A} {name text o:ByteArray} {dict:Int} (h:putE a name text dict=0) (ho:o ≠ name):getE (putA a name text dict) o=getE a o/\getT (putA a name text dict) o=getT a o:=by
 obtain ⟨h1,_⟩:=putE_zero h
 have hc:=chk_put h
 have hs:=chk_srt hc
 have hs1:=chk_srt h1
 have hl:lk (putA a name text dict).files o=lk a.files o:=by
  refine lk_same hs hs1 fun g hg=>?_
  rw [putA_is h]
  show g ∈ putF _ _ ↔ _
  rw [mem_put hs1]
  constructor
  · rintro (rfl | h3)
    · exact absurd hg.symm ho
    · exact h3.1
  · intro h3;exact .inr ⟨h3,by rw [hg];exact ho⟩
 rw [getE_lk _ hc,getT_lk _ hc,getE_lk _ h1,getT_lk _ h1,hl,putA_is h]
 exact ⟨rfl,rfl⟩
theorem mem_drop {fs:List F} (hs:Srt fs) {name:ByteArray} (ht:there fs name=true) {g:F}:g ∈ fs.take (pos fs name)++fs.drop (pos fs name+1) ↔ g ∈ fs/\g.name ≠ name:=by
 have h:=mem_put (fs:=fs) hs (f:=⟨name,0,0,0,⟨#[]⟩⟩) (g:=g)
 unfold putF at h
 simp only [ht,if_true,List.mem_append,List.mem_cons] at h
 rw [List.mem_append]
 constructor
 · intro h9
   have:(g ∈ fs.take (pos fs name)\/g=⟨name,0,0,0,⟨#[]⟩⟩\/g ∈ fs.drop (pos fs name+1)):=by rcases h9 with h9 | h9 <;> simp [h9]
   rcases h.1 this with rfl | h8
   · exfalso
     have hlow:∀ k ∈ fs.take (pos fs name),k.name ≠ name:=by
      intro k hk
      obtain ⟨i,hi,rfl⟩:=List.mem_iff_getElem.1 hk
      rw [List.length_take] at hi
      rw [List.getElem_take,<-fa_get]
      intro e
      have:=pos_lt (fs:=fs) (name:=name) (i:=i) (by omega)
      rw [e,Tr.bl_irr] at this;cases this
     have hhigh:∀ k ∈ fs.drop (pos fs name+1),k.name ≠ name:=by
      intro k hk
      obtain ⟨i,hi,rfl⟩:=List.mem_iff_getElem.1 hk
      rw [List.length_drop] at hi
      rw [List.getElem_drop,<-fa_get]
      intro e
      have:=behind hs (name:=name) (i:=pos fs name+1+i) (by omega) (by omega)
      rw [e,Tr.bl_irr] at this;cases this
     rcases h9 with h9 | h9
     · exact hlow _ h9 rfl
     · exact hhigh _ h9 rfl
   · exact h8
 · rintro ⟨h1,h2⟩
   rcases h.2 (.inr ⟨h1,h2⟩) with h3 | h3 | h3
   · exact .inl h3
   · subst h3;exact absurd rfl h2
   · exact .inr h3
theorem getE_zero {a:A} {name:ByteArray} (h:getE a name=0):chk a=0/\there a.files name=true:=by
 unfold getE at h
 by_cases h1:chk a=0
 · rw [if_neg (fun h9=>h9 h1)] at h
   cases h2:there a.files name with
   | true=>exact ⟨h1,rfl⟩
   | false=>rw [h2] at h;simp at h
 · rw [if_pos h1] at h;exact absurd h h1
theorem dropA_is {a:A} {name:ByteArray} (h:getE a name=0):dropA a name=⟨a.dicts,a.files.take (pos a.files name)++a.files.drop (pos a.files name+1)⟩:=if_pos h
theorem chk_drop {a:A} {name:ByteArray} (h:getE a name=0):chk (dropA a name)=0:=by
 obtain ⟨h1,ht⟩:=getE_zero h
 obtain ⟨hm,hg⟩:=chk_zero.1 h1
 have hs:=srt_of hg
 obtain ⟨m1,m2,m3⟩:=many_iff.1 hm
 have hp:=gdK_iff.1 hg
 rw [dropA_is h,chk_zero]
 refine ⟨many_iff.2 ⟨m1,?_,m3⟩,gdK_iff.2 ⟨fun f hf=>hp.1 f ((mem_drop hs ht).1 hf).1,?_⟩⟩
 · show (List.take _ _++List.drop _ _).length<=12
   rw [List.length_append,List.length_take,List.length_drop];omega
 · refine hp.2.sublist ?_
   conv=>rhs;rw [<-List.take_append_drop (pos a.files name) a.files]
   refine List.Sublist.append (List.Sublist.refl _) ?_
   rw [<-List.drop_drop]
   exact List.drop_sublist _ _
theorem get_drop {a:A} {name:ByteArray} (h:getE a name=0):getE (dropA a name) name=5:=by
 obtain ⟨h1,ht⟩:=getE_zero h
 have hc:=chk_drop h
 have hs:=chk_srt h1
 rw [getE_lk _ hc]
 cases hl:lk (dropA a name).files name with
 | none=>rfl
 | some g =>
  obtain ⟨h3,h4⟩:=(lk_iff (chk_srt hc)).1 hl
  rw [dropA_is h] at h3
  exact absurd h4 ((mem_drop hs ht).1 h3).2
end Ar
end Go.Proofs.YtbjbjbpgmojcbabGreat
namespace Go.Proofs.YtbjbjbpgmojcbabGreat
open Go.RowKit
theorem toList_inj {a b:ByteArray} (h:a.toList=b.toList):a=b:=by
 rw [ByteArray.toList_eq,ByteArray.toList_eq] at h
 cases a;cases b
 simpa using h
theorem beq_same (a b:ByteArray):(a.toList == b.toList)=decide (a=b):=by
 by_cases h:a=b
 · subst h;simp
 · rw [decide_eq_false h,Bool.eq_false_iff]
   intro e
   exact h (toList_inj (by simpa using e))
theorem stands_any (p t:ByteArray) (w:World) (hp:p.size<=140737488355328) (ht:t.size<=140737488355328) :
 Calls Tryz.prog 110 #[.string p,.string t] w fun e w'=>e=.returned (.bool (Tr.st p t))/\Below w.heap.size w w':=by
 obtain ⟨r,hr⟩:∃ r,Tr.st p t=r:=⟨_,rfl⟩
 rw [hr]
 have Hr:Hid (Tr.stK p t (t.size+1)=r):=hr
 clear hr
 go_enter Tryz.func110,Tryz.ntmps110
 go_wp2_with fail
 go_loopw [5] (fun i wr=>∃ k:Nat,k<=t.size+1/\i=.int .i64 k/\Hid (Tr.stK p t k=false)/\Below w.heap.size w wr) (fun i _=>t.size+1 - (intOf i).toNat)
 case atStart=>exact ⟨0,by omega,rfl,rfl,Below.refl _ _⟩
 case round =>
  obtain ⟨k,hk2,rfl,HL,B1⟩:=hrel
  obtain ⟨J,hJ⟩:∃ J,k+p.size=J:=⟨_,rfl⟩
  have m1:(k:Int)+(p.size:Int)=(J:Int):=by omega
  have w1:IntKind.i64.wrap (J:Int)=(J:Int):=IntWalk.i64_in _ ⟨by omega,by omega⟩
  by_cases hlt:J<=t.size
  · have d1:decide ((J:Int)<=(t.size:Int))=true:=by simp;omega
    have hJi:(J:Int)<=(t.size:Int):=by omega
    have hkJ:(k:Int)<=(J:Int):=by omega
    have hkJn:k<=J:=by omega
    have hkt:k<t.size+1:=by omega
    have HS:=beq_same (t.extract k J) p
    obtain ⟨S,hS⟩:∃ S,t.extract k J=S:=⟨_,rfl⟩
    rw [hS] at HS
    by_cases he:S=p
    · have HN:Hid (Tr.stK p t (k+1)=true):=by show _=_;rw [Tr.stK,hJ,hS,decide_eq_true ⟨hlt,he⟩,Bool.or_true]
      have HR:Hid (true=r):=by
       have h9:=Tr.stK_true HN.out (t.size+1 - (k+1))
       rw [show k+1+(t.size+1 - (k+1))=t.size+1 by omega] at h9
       exact h9.symm.trans Hr.out
      rw [decide_eq_true he] at HS
      clear HN he hJ Hr HL
      go_wp2_with fail
      go_ret
      exact ⟨congrArg (fun x=>Ending.returned (Value.bool x)) HR.out,B1⟩
    · have HN:Hid (Tr.stK p t (k+1)=false):=by show _=_;rw [Tr.stK,hJ,hS,HL.out,decide_eq_false (fun h9=>he h9.2),Bool.or_false]
      rw [decide_eq_false he] at HS
      clear he hJ HL
      go_wp2_with fail
      go_roundw
      case rel=>exact ⟨k+1,by omega,by go_num,HN,B1⟩
      case measure=>simp [intOf];omega
  · have d1:decide ((J:Int)<=(t.size:Int))=false:=by simp;omega
    have hJi:(t.size:Int)<(J:Int):=by omega
    have HR:Hid (false=r):=by
     have h9:=Tr.stK_end (p:=p) (t:=t) (k:=k) (by omega) (t.size+1 - k)
     rw [show k+(t.size+1 - k)=t.size+1 by omega] at h9
     exact (HL.out.symm.trans h9.symm).trans Hr.out
    clear Hr HL hJ
    go_wp2_with fail
    go_ret
    exact ⟨congrArg (fun x=>Ending.returned (Value.bool x)) HR.out,B1⟩
end Go.Proofs.YtbjbjbpgmojcbabGreat
namespace Go.Proofs.YtbjbjbpgmojcbabGreat
namespace Tr
theorem occ_iff (t p:ByteArray) (hp:0<p.size) (j:Nat):Lib.occAt t.data.toList p.data.toList j=true ↔ j+p.size<=t.size/\t.extract j (j+p.size)=p:=by
 have hl:p.data.toList.length=p.size:=by simp
 have ht:t.data.toList.length=t.size:=by simp
 have he:(t.extract j (j+p.size)).data.toList=(t.data.toList.drop j).take p.size:=by
  rw [ByteArray.data_extract,Array.toList_extract,List.extract_eq_take_drop];congr 1;omega
 rw [Lib.occAt,List.isPrefixOf_iff_prefix,List.prefix_iff_eq_take,hl]
 constructor
 · intro h
   have h2:=congrArg List.length h
   rw [List.length_take,List.length_drop,hl,ht] at h2
   refine ⟨by omega,?_⟩
   apply toList_same
   rw [ByteArray.toList_eq,ByteArray.toList_eq,he];exact h.symm
 · rintro ⟨_,h⟩
   rw [<-he,h]
theorem index_iff (t p:ByteArray) (hp:0<p.size) (i:Nat) (hi:i+p.size<=t.size) (h:t.extract i (i+p.size)=p):decide (Lib.index t.data.toList p.data.toList=(i:Int))=!stK p t i:=by
 have ht:t.data.toList.length=t.size:=by simp
 have ho:=(occ_iff t p hp i).2 ⟨hi,h⟩
 rcases Lib.index_spec t.data.toList p.data.toList with ⟨h1,h2⟩ | ⟨k,h1,h2,h3,h4⟩
 · have:=h2 i (by omega);rw [ho] at this;cases this
 · cases hs:stK p t i with
   | true =>
    obtain ⟨j,hj,hj2⟩:=stK_iff.1 hs
    have hk:k<=j:=by
     apply Nat.le_of_not_lt;intro hlt
     have:=h4 j hlt;rw [(occ_iff t p hp j).2 hj2] at this;cases this
    rw [h1];exact decide_eq_false (by omega)
   | false =>
    have hk:¬ k<i:=fun hlt=>by
     have:=stK_iff.2 ⟨k,hlt,(occ_iff t p hp k).1 h3⟩
     rw [hs] at this;cases this
    have hk2:¬ i<k:=fun hlt=>by have:=h4 i hlt;rw [ho] at this;cases this
    rw [h1];exact decide_eq_true (by omega)
theorem contains_is (t p:ByteArray) (hp:0<p.size):Lib.contains t.data.toList p.data.toList=st p t:=by
 have ht:t.data.toList.length=t.size:=by simp
 unfold Lib.contains
 rcases Lib.index_spec t.data.toList p.data.toList with ⟨h1,h2⟩ | ⟨k,h1,h2,h3,h4⟩
 · rw [h1]
   cases hs:st p t with
   | false=>rfl
   | true =>
    obtain ⟨j,hj,hj2⟩:=st_iff.1 hs
    have:=h2 j (by omega);rw [(occ_iff t p hp j).2 ⟨hj,hj2⟩] at this;cases this
 · rw [h1,st_iff.2 ⟨k,(occ_iff t p hp k).1 h3⟩];exact decide_eq_true (by omega)
def cn (xs:List ByteArray) (k i:Nat) (q:ByteArray):Nat:=ctK xs q k+(if stK q (xa xs k) i=true then 1 else 0)
theorem cn_zero (xs:List ByteArray) (k:Nat) (q:ByteArray):cn xs k 0 q=ctK xs q k:=by simp [cn,stK]
theorem cn_end {xs:List ByteArray} {k i:Nat} {q:ByteArray} (hq:q.size=4) (hi:(xa xs k).size<=i+3):cn xs k i q=ctK xs q (k+1):=by
 rw [cn,ctK,st]
 by_cases h:i<=(xa xs k).size+1
 · have:=stK_end (p:=q) (t:=xa xs k) (k:=i) (by omega) ((xa xs k).size+1 - i)
   rw [show i+((xa xs k).size+1 - i)=(xa xs k).size+1 by omega] at this
   rw [this]
 · have:=stK_end (p:=q) (t:=xa xs k) (k:=(xa xs k).size+1) (by omega) (i - ((xa xs k).size+1))
   rw [show (xa xs k).size+1+(i - ((xa xs k).size+1))=i by omega] at this
   rw [this]
theorem stK_same {q t:ByteArray} {i:Nat} (hq:q.size=4) (hne:q ≠ pc t i):stK q t (i+1)=stK q t i:=by
 rw [stK,decide_eq_false,Bool.or_false]
 rintro ⟨_,h⟩
 rw [hq] at h
 exact hne h.symm
theorem cn_other {xs:List ByteArray} {k i:Nat} {q:ByteArray} (hq:q.size=4) (hne:q ≠ pc (xa xs k) i):cn xs k (i+1) q=cn xs k i q:=by
 rw [cn,cn,stK_same hq hne]
theorem cn_old {xs:List ByteArray} {k i:Nat} (h:stK (pc (xa xs k) i) (xa xs k) i=true) {q:ByteArray} (hq:q.size=4):cn xs k (i+1) q=cn xs k i q:=by
 by_cases hne:q=pc (xa xs k) i
 · subst hne;rw [cn,cn,h,stK,h,Bool.true_or]
 · exact cn_other hq hne
theorem cn_new {xs:List ByteArray} {k i:Nat} (hi:i<(xa xs k).size - 3) (h:stK (pc (xa xs k) i) (xa xs k) i=false):cn xs k (i+1) (pc (xa xs k) i)=cn xs k i (pc (xa xs k) i)+1:=by
 have h4:=pc_size hi
 have:stK (pc (xa xs k) i) (xa xs k) (i+1)=true:=stK_iff.2 ⟨i,by omega,by omega,by rw [h4];rfl⟩
 rw [cn,cn,h,this];simp
theorem cn_le (xs:List ByteArray) (k i:Nat) (q:ByteArray):cn xs k i q<=k+1:=by
 have:=ctK_le xs q k
 rw [cn];split <;> omega
end Tr
end Go.Proofs.YtbjbjbpgmojcbabGreat
namespace Go.Proofs
open Go.Shelf
def Tryz.lays106_ren:Go.Shelf.Ren:=⟨fun | 106=>90 | 213=>126 | 265=>154 | n=>n,fun | 9=>9 | 3=>3 | n=>n,fun | n=>n⟩
theorem Tryz.lays106:Go.Proofs.Lays.n106 Tryz.prog Tryz.lays106_ren:={
 mixed:=by kernel_rfl
 f106:=Tryz.func90.trans (congrArg some (by kernel_rfl))
 f213:=Tryz.func126.trans (congrArg some (by kernel_rfl))
 f265:=Tryz.func154.trans (congrArg some (by kernel_rfl))
 t3:=Tryz.underlying3
 a3:=Tryz.isAgg3
 z3:=Tryz.sizeOf3
 v3:=Tryz.zeroValue3
 t9:=Tryz.underlying9
 a9:=Tryz.isAgg9
 z9:=Tryz.sizeOf9
 v9:=Tryz.zeroValue9 }
open Go.RowKit in
theorem Tryz.strings_Compare (a b:ByteArray) (w:World) :
 Calls Tryz.prog 90 #[.string a,.string b] w fun e w'=>e=.returned (.int .i64 (Lib.compareBytes a.data.toList b.data.toList))/\w'=w:=Any.strings_Compare Tryz.lays106 a b w
def Tryz.lays143_ren:Go.Shelf.Ren:=⟨fun | 143=>149 | 219=>173 | 217=>201 | 225=>202 | 224=>203 | 267=>204 | 266=>216 | 314=>217 | n=>n,fun | 9=>9 | 3=>3 | 4=>4 | 5=>5 | 46=>150 | 146=>235 | 51=>217 | n=>n,fun | 1=>0 | n=>n⟩
theorem Tryz.lays143:Go.Proofs.Lays.n143 Tryz.prog Tryz.lays143_ren:={
 mixed:=by kernel_rfl
 f143:=Tryz.func149.trans (congrArg some (by kernel_rfl))
 f217:=Tryz.func201.trans (congrArg some (by kernel_rfl))
 f219:=Tryz.func173.trans (congrArg some (by kernel_rfl))
 f224:=Tryz.func203.trans (congrArg some (by kernel_rfl))
 f225:=Tryz.func202.trans (congrArg some (by kernel_rfl))
 f266:=Tryz.func216.trans (congrArg some (by kernel_rfl))
 f267:=Tryz.func204.trans (congrArg some (by kernel_rfl))
 f314:=Tryz.func217.trans (congrArg some (by kernel_rfl))
 t3:=Tryz.underlying3
 a3:=Tryz.isAgg3
 z3:=Tryz.sizeOf3
 v3:=Tryz.zeroValue3
 t4:=Tryz.underlying4
 a4:=Tryz.isAgg4
 z4:=Tryz.sizeOf4
 v4:=Tryz.zeroValue4
 t5:=Tryz.underlying5
 a5:=Tryz.isAgg5
 z5:=Tryz.sizeOf5
 v5:=Tryz.zeroValue5
 t9:=Tryz.underlying9
 a9:=Tryz.isAgg9
 z9:=Tryz.sizeOf9
 v9:=Tryz.zeroValue9
 t46:=Tryz.underlying150
 a46:=Tryz.isAgg150
 z46:=Tryz.sizeOf150
 v46:=Tryz.zeroValue150
 t51:=Tryz.underlying217
 a51:=Tryz.isAgg217
 z51:=Tryz.sizeOf217
 v51:=Tryz.zeroValue217
 t146:=Tryz.underlying235
 a146:=Tryz.isAgg235
 z146:=Tryz.sizeOf235
 v146:=Tryz.zeroValue235
 g1:=by kernel_rfl }
open Go.RowKit Go.Lib in
theorem Tryz.strings_Index (s sub:ByteArray) (m:Int) (w:World) (hs:s.size<4294967281) (hm:w.cell? ⟨0,0,none⟩=some (.int .i64 m)) :
 Calls Tryz.prog 149 #[.string s,.string sub] w fun e w'=>e=.returned (.int .i64 (Lib.index s.data.toList sub.data.toList))/\w'=w:=Any.strings_Index Tryz.lays143 s sub m w hs hm
def Tryz.lays144_ren:Go.Shelf.Ren:=⟨fun | 144=>107 | 143=>149 | 219=>173 | 217=>201 | 225=>202 | 224=>203 | 267=>204 | 266=>216 | 314=>217 | n=>n,fun | 9=>9 | 4=>4 | 3=>3 | 5=>5 | 46=>150 | 146=>235 | 51=>217 | n=>n,fun | 1=>0 | n=>n⟩
theorem Tryz.lays144:Go.Proofs.Lays.n144 Tryz.prog Tryz.lays144_ren:={
 mixed:=by kernel_rfl
 f143:=Tryz.func149.trans (congrArg some (by kernel_rfl))
 f144:=Tryz.func107.trans (congrArg some (by kernel_rfl))
 f217:=Tryz.func201.trans (congrArg some (by kernel_rfl))
 f219:=Tryz.func173.trans (congrArg some (by kernel_rfl))
 f224:=Tryz.func203.trans (congrArg some (by kernel_rfl))
 f225:=Tryz.func202.trans (congrArg some (by kernel_rfl))
 f266:=Tryz.func216.trans (congrArg some (by kernel_rfl))
 f267:=Tryz.func204.trans (congrArg some (by kernel_rfl))
 f314:=Tryz.func217.trans (congrArg some (by kernel_rfl))
 t3:=Tryz.underlying3
 a3:=Tryz.isAgg3
 z3:=Tryz.sizeOf3
 v3:=Tryz.zeroValue3
 t4:=Tryz.underlying4
 a4:=Tryz.isAgg4
 z4:=Tryz.sizeOf4
 v4:=Tryz.zeroValue4
 t5:=Tryz.underlying5
 a5:=Tryz.isAgg5
 z5:=Tryz.sizeOf5
 v5:=Tryz.zeroValue5
 t9:=Tryz.underlying9
 a9:=Tryz.isAgg9
 z9:=Tryz.sizeOf9
 v9:=Tryz.zeroValue9
 t46:=Tryz.underlying150
 a46:=Tryz.isAgg150
 z46:=Tryz.sizeOf150
 v46:=Tryz.zeroValue150
 t51:=Tryz.underlying217
 a51:=Tryz.isAgg217
 z51:=Tryz.sizeOf217
 v51:=Tryz.zeroValue217
 t146:=Tryz.underlying235
 a146:=Tryz.isAgg235
 z146:=Tryz.sizeOf235
 v146:=Tryz.zeroValue235
 g1:=by kernel_rfl }
open Go.RowKit Go.Lib in
theorem Tryz.strings_Contains (s sub:ByteArray) (m:Int) (w:World) (hs:s.size<4294967281) (hm:w.cell? ⟨0,0,none⟩=some (.int .i64 m)) :
 Calls Tryz.prog 107 #[.string s,.string sub] w fun e w'=>e=.returned (.bool (Lib.contains s.data.toList sub.data.toList))/\w'=w:=Any.strings_Contains Tryz.lays144 s sub m w hs hm
def Tryz.laysM144_ren:Go.Shelf.Ren:=⟨fun | 144=>107 | 143=>149 | 219=>173 | 217=>201 | 225=>202 | 224=>203 | 267=>204 | 266=>216 | 314=>217 | n=>n,fun | 9=>9 | 4=>4 | 3=>3 | 5=>5 | 46=>150 | 146=>235 | 51=>217 | n=>n,fun | 1=>0 | n=>n⟩
theorem Tryz.laysM144:Go.Proofs.LaysM.n144 Tryz.prog Tryz.laysM144_ren:={
 mixed:=by kernel_rfl
 f143:=Tryz.func149.trans (congrArg some (by kernel_rfl))
 f144:=Tryz.func107.trans (congrArg some (by kernel_rfl))
 f217:=Tryz.func201.trans (congrArg some (by kernel_rfl))
 f219:=Tryz.func173.trans (congrArg some (by kernel_rfl))
 f224:=Tryz.func203.trans (congrArg some (by kernel_rfl))
 f225:=Tryz.func202.trans (congrArg some (by kernel_rfl))
 f266:=Tryz.func216.trans (congrArg some (by kernel_rfl))
 f267:=Tryz.func204.trans (congrArg some (by kernel_rfl))
 f314:=Tryz.func217.trans (congrArg some (by kernel_rfl))
 t3:=Tryz.underlying3
 a3:=Tryz.isAgg3
 z3:=Tryz.sizeOf3
 v3:=Tryz.zeroValue3
 t4:=Tryz.underlying4
 a4:=Tryz.isAgg4
 z4:=Tryz.sizeOf4
 v4:=Tryz.zeroValue4
 t5:=Tryz.underlying5
 a5:=Tryz.isAgg5
 z5:=Tryz.sizeOf5
 v5:=Tryz.zeroValue5
 t9:=Tryz.underlying9
 a9:=Tryz.isAgg9
 z9:=Tryz.sizeOf9
 v9:=Tryz.zeroValue9
 t46:=Tryz.underlying150
 a46:=Tryz.isAgg150
 z46:=Tryz.sizeOf150
 v46:=Tryz.zeroValue150
 t51:=Tryz.underlying217
 a51:=Tryz.isAgg217
 z51:=Tryz.sizeOf217
 v51:=Tryz.zeroValue217
 t146:=Tryz.underlying235
 a146:=Tryz.isAgg235
 z146:=Tryz.sizeOf235
 v146:=Tryz.zeroValue235
 g1:=by kernel_rfl
 i3:=by kernel_rfl
 i4:=by kernel_rfl
 i5:=by kernel_rfl
 i9:=by kernel_rfl
 i46:=by kernel_rfl
 i51:=by kernel_rfl
 i146:=by kernel_rfl
 m1:=by kernel_rfl
 s1_3:=fun w h=>Go.Proofs.cell_of_shapedOpen_int (zero:=#[.int .i64 0]) (t:=3) h (of_decide_eq_true (by kernel_rfl)) (by kernel_rfl) rfl (by kernel_rfl) (by kernel_rfl) Tryz.underlying3 }
open Go.RowKit Go.Lib in
theorem Tryz.strings_Contains_shaped (s sub:ByteArray) (w:World) (h:w.ShapedOpen Tryz.prog) (hs:s.size<4294967281) :
 Calls Tryz.prog 107 #[.string s,.string sub] w fun e w'=>e=.returned (.bool (Lib.contains s.data.toList sub.data.toList))/\w'=w:=Any.strings_Contains_shaped Tryz.laysM144 s sub w h hs
def Tryz.laysSlF06_f23_ren:Go.Shelf.Ren:=⟨fun | 6=>147 | 15=>172 | 14=>171 | 28=>199 | 29=>200 | 20=>191 | 21=>192 | 22=>193 | 23=>194 | 24=>195 | 25=>196 | 26=>197 | 27=>198 | 46=>211 | 47=>212 | 48=>213 | 49=>214 | 50=>215 | 57=>218 | n=>n,fun | 22=>22 | 24=>9 | 25=>119 | 3=>3 | 39=>150 | 0=>0 | 53=>217 | 55=>219 | 4=>4 | 46=>211 | 45=>210 | 50=>71 | 5=>5 | 9=>9 | 66=>229 | 70=>233 | 76=>238 | 77=>176 | n=>n,fun | n=>n⟩
theorem Tryz.laysSlF06_f23:Go.Proofs.SlLaysF0.n6 Tryz.prog Tryz.laysSlF06_f23_ren:={
 mixed:=by kernel_rfl
 f6:=⟨Tryz.f147.name,by decide,Tryz.func147.trans (congrArg some (by kernel_rfl))⟩
 f14:=⟨Tryz.f171.name,by decide,Tryz.func171.trans (congrArg some (by kernel_rfl))⟩
 f15:=Tryz.func172.trans (congrArg some (by kernel_rfl))
 f20:=⟨Tryz.f191.name,by decide,Tryz.func191.trans (congrArg some (by kernel_rfl))⟩
 f21:=⟨Tryz.f192.name,by decide,Tryz.func192.trans (congrArg some (by kernel_rfl))⟩
 f22:=⟨Tryz.f193.name,by decide,Tryz.func193.trans (congrArg some (by kernel_rfl))⟩
 f23:=⟨Tryz.f194.name,by decide,Tryz.func194.trans (congrArg some (by kernel_rfl))⟩
 f24:=⟨Tryz.f195.name,by decide,Tryz.func195.trans (congrArg some (by kernel_rfl))⟩
 f25:=⟨Tryz.f196.name,by decide,Tryz.func196.trans (congrArg some (by kernel_rfl))⟩
 f26:=⟨Tryz.f197.name,by decide,Tryz.func197.trans (congrArg some (by kernel_rfl))⟩
 f27:=⟨Tryz.f198.name,by decide,Tryz.func198.trans (congrArg some (by kernel_rfl))⟩
 f28:=Tryz.func199.trans (congrArg some (by kernel_rfl))
 f29:=Tryz.func200.trans (congrArg some (by kernel_rfl))
 f46:=⟨Tryz.f211.name,by decide,Tryz.func211.trans (congrArg some (by kernel_rfl))⟩
 f47:=Tryz.func212.trans (congrArg some (by kernel_rfl))
 f48:=Tryz.func213.trans (congrArg some (by kernel_rfl))
 f49:=⟨Tryz.f214.name,by decide,Tryz.func214.trans (congrArg some (by kernel_rfl))⟩
 f50:=⟨Tryz.f215.name,by decide,Tryz.func215.trans (congrArg some (by kernel_rfl))⟩
 f57:=⟨Tryz.f218.name,by decide,Tryz.func218.trans (congrArg some (by kernel_rfl))⟩
 t0:=Tryz.underlying0
 a0:=Tryz.isAgg0
 z0:=Tryz.sizeOf0
 v0:=Tryz.zeroValue0
 t3:=Tryz.underlying3
 a3:=Tryz.isAgg3
 z3:=Tryz.sizeOf3
 v3:=Tryz.zeroValue3
 t4:=Tryz.underlying4
 a4:=Tryz.isAgg4
 z4:=Tryz.sizeOf4
 v4:=Tryz.zeroValue4
 t5:=Tryz.underlying5
 a5:=Tryz.isAgg5
 z5:=Tryz.sizeOf5
 v5:=Tryz.zeroValue5
 t9:=Tryz.underlying9
 a9:=Tryz.isAgg9
 z9:=Tryz.sizeOf9
 v9:=Tryz.zeroValue9
 t22:=Tryz.underlying22
 a22:=Tryz.isAgg22
 z22:=Tryz.sizeOf22
 v22:=Tryz.zeroValue22
 t25:=Tryz.underlying119
 a25:=Tryz.isAgg119
 z25:=Tryz.sizeOf119
 v25:=Tryz.zeroValue119
 t39:=Tryz.underlying150
 a39:=Tryz.isAgg150
 z39:=Tryz.sizeOf150
 v39:=Tryz.zeroValue150
 t45:=Tryz.underlying210
 a45:=Tryz.isAgg210
 z45:=Tryz.sizeOf210
 v45:=Tryz.zeroValue210
 t46:=Tryz.underlying211
 a46:=Tryz.isAgg211
 z46:=Tryz.sizeOf211
 v46:=Tryz.zeroValue211
 t50:=Tryz.underlying71
 a50:=Tryz.isAgg71
 z50:=Tryz.sizeOf71
 v50:=Tryz.zeroValue71
 t53:=Tryz.underlying217
 a53:=Tryz.isAgg217
 z53:=Tryz.sizeOf217
 v53:=Tryz.zeroValue217
 t55:=Tryz.underlying219
 a55:=Tryz.isAgg219
 z55:=Tryz.sizeOf219
 v55:=Tryz.zeroValue219
 t66:=Tryz.underlying229
 a66:=Tryz.isAgg229
 z66:=Tryz.sizeOf229
 v66:=Tryz.zeroValue229
 t70:=Tryz.underlying233
 a70:=Tryz.isAgg233
 z70:=Tryz.sizeOf233
 v70:=Tryz.zeroValue233
 t76:=Tryz.underlying238
 a76:=Tryz.isAgg238
 z76:=Tryz.sizeOf238
 v76:=Tryz.zeroValue238
 t77:=Tryz.underlying176
 a77:=Tryz.isAgg176
 z77:=Tryz.sizeOf176
 v77:=Tryz.zeroValue176 }
open Go.RowKit Go.Lib Go.Sort in
theorem Tryz.slices_SortFunc_none {α:Type} [Inhabited α] (p:Option Addr) (cap:Nat) (fv:Value) (w:World) :
 Calls Tryz.prog 147 #[.slice p 0 cap,fv] w fun e w'=>e=.returned (.tuple #[])/\w'=w:=AnyF.slices_SortFunc_none Tryz.laysSlF06_f23 p cap fv w
def Tryz.laysSlF6_f23_ren:Go.Shelf.Ren:=⟨fun | 6=>147 | 15=>172 | 14=>171 | 28=>199 | 29=>200 | 20=>191 | 21=>192 | 22=>193 | 23=>194 | 24=>195 | 25=>196 | 26=>197 | 27=>198 | 46=>211 | 47=>212 | 48=>213 | 49=>214 | 50=>215 | 57=>218 | n=>n,fun | 22=>22 | 24=>9 | 25=>119 | 3=>3 | 39=>150 | 0=>0 | 53=>217 | 55=>219 | 4=>4 | 46=>211 | 45=>210 | 50=>71 | 5=>5 | 9=>9 | 66=>229 | 70=>233 | 76=>238 | 77=>176 | n=>n,fun | n=>n⟩
theorem Tryz.laysSlF6_f23:Go.Proofs.SlLaysF.n6 Tryz.prog Tryz.laysSlF6_f23_ren:={
 mixed:=by kernel_rfl
 f6:=⟨Tryz.f147.name,by decide,Tryz.func147.trans (congrArg some (by kernel_rfl))⟩
 f14:=⟨Tryz.f171.name,by decide,Tryz.func171.trans (congrArg some (by kernel_rfl))⟩
 f15:=Tryz.func172.trans (congrArg some (by kernel_rfl))
 f20:=⟨Tryz.f191.name,by decide,Tryz.func191.trans (congrArg some (by kernel_rfl))⟩
 f21:=⟨Tryz.f192.name,by decide,Tryz.func192.trans (congrArg some (by kernel_rfl))⟩
 f22:=⟨Tryz.f193.name,by decide,Tryz.func193.trans (congrArg some (by kernel_rfl))⟩
 f23:=⟨Tryz.f194.name,by decide,Tryz.func194.trans (congrArg some (by kernel_rfl))⟩
 f24:=⟨Tryz.f195.name,by decide,Tryz.func195.trans (congrArg some (by kernel_rfl))⟩
 f25:=⟨Tryz.f196.name,by decide,Tryz.func196.trans (congrArg some (by kernel_rfl))⟩
 f26:=⟨Tryz.f197.name,by decide,Tryz.func197.trans (congrArg some (by kernel_rfl))⟩
 f27:=⟨Tryz.f198.name,by decide,Tryz.func198.trans (congrArg some (by kernel_rfl))⟩
 f28:=Tryz.func199.trans (congrArg some (by kernel_rfl))
 f29:=Tryz.func200.trans (congrArg some (by kernel_rfl))
 f46:=⟨Tryz.f211.name,by decide,Tryz.func211.trans (congrArg some (by kernel_rfl))⟩
 f47:=Tryz.func212.trans (congrArg some (by kernel_rfl))
 f48:=Tryz.func213.trans (congrArg some (by kernel_rfl))
 f49:=⟨Tryz.f214.name,by decide,Tryz.func214.trans (congrArg some (by kernel_rfl))⟩
 f50:=⟨Tryz.f215.name,by decide,Tryz.func215.trans (congrArg some (by kernel_rfl))⟩
 f57:=⟨Tryz.f218.name,by decide,Tryz.func218.trans (congrArg some (by kernel_rfl))⟩
 t0:=Tryz.underlying0
 a0:=Tryz.isAgg0
 z0:=Tryz.sizeOf0
 v0:=Tryz.zeroValue0
 t3:=Tryz.underlying3
 a3:=Tryz.isAgg3
 z3:=Tryz.sizeOf3
 v3:=Tryz.zeroValue3
 t4:=Tryz.underlying4
 a4:=Tryz.isAgg4
 z4:=Tryz.sizeOf4
 v4:=Tryz.zeroValue4
 t5:=Tryz.underlying5
 a5:=Tryz.isAgg5
 z5:=Tryz.sizeOf5
 v5:=Tryz.zeroValue5
 t9:=Tryz.underlying9
 a9:=Tryz.isAgg9
 z9:=Tryz.sizeOf9
 v9:=Tryz.zeroValue9
 t22:=Tryz.underlying22
 a22:=Tryz.isAgg22
 z22:=Tryz.sizeOf22
 v22:=Tryz.zeroValue22
 a24:=Tryz.isAgg9
 z24:=Tryz.sizeOf9
 t25:=Tryz.underlying119
 a25:=Tryz.isAgg119
 z25:=Tryz.sizeOf119
 v25:=Tryz.zeroValue119
 t39:=Tryz.underlying150
 a39:=Tryz.isAgg150
 z39:=Tryz.sizeOf150
 v39:=Tryz.zeroValue150
 t45:=Tryz.underlying210
 a45:=Tryz.isAgg210
 z45:=Tryz.sizeOf210
 v45:=Tryz.zeroValue210
 t46:=Tryz.underlying211
 a46:=Tryz.isAgg211
 z46:=Tryz.sizeOf211
 v46:=Tryz.zeroValue211
 t50:=Tryz.underlying71
 a50:=Tryz.isAgg71
 z50:=Tryz.sizeOf71
 v50:=Tryz.zeroValue71
 t53:=Tryz.underlying217
 a53:=Tryz.isAgg217
 z53:=Tryz.sizeOf217
 v53:=Tryz.zeroValue217
 t55:=Tryz.underlying219
 a55:=Tryz.isAgg219
 z55:=Tryz.sizeOf219
 v55:=Tryz.zeroValue219
 t66:=Tryz.underlying229
 a66:=Tryz.isAgg229
 z66:=Tryz.sizeOf229
 v66:=Tryz.zeroValue229
 t70:=Tryz.underlying233
 a70:=Tryz.isAgg233
 z70:=Tryz.sizeOf233
 v70:=Tryz.zeroValue233
 t76:=Tryz.underlying238
 a76:=Tryz.isAgg238
 z76:=Tryz.sizeOf238
 v76:=Tryz.zeroValue238
 t77:=Tryz.underlying176
 a77:=Tryz.isAgg176
 z77:=Tryz.sizeOf176
 v77:=Tryz.zeroValue176 }
open Go.RowKit Go.Lib Go.Sort in
theorem Tryz.slices_SortFunc_total {α:Type} [Inhabited α] (enc:α->Value) (h1:OneCell enc) (cf:α->α->Int) (hO:SWO (ltOf cf)) (g:Nat) (cb:Array Value) (blk off cap:Nat) (d:Array α) (w:World) (eg:∀ args w,(callFunc g args).run Tryz.prog w=.ok (.enter g args) w) (hcmp:CmpLays1 Tryz.prog g cb enc cf blk off d.size w) (hH:Holds enc w blk off d) (hblk:blk<w.heap.size) (hsz:d.size<4611686018427387904) (hT:∀ x y,(ltOf cf) x y=false->(ltOf cf) y x=false->x=y) :
 Calls Tryz.prog 147 #[.slice (some ⟨blk,off,none⟩) d.size cap,.func (.func g) #[] cb] w fun e w' =>
  e=.returned (.tuple #[])/\∃ n os,w'=sortWorld enc w blk off n (d.toList.mergeSort fun x y=>!(ltOf cf) y x).toArray os:=Any.slices_SortFunc_total Tryz.laysSlF6_f23 enc h1 cf hO g cb blk off cap d w eg hcmp hH hblk hsz hT
end Go.Proofs
namespace Go.Proofs.YtbjbjbpgmojcbabGreat
open Go.RowKit Go.Maps
theorem cell_lt {w:World} {b o:Nat} {v:Value} (h:w.cell? ⟨b,o,none⟩=some v):b<w.heap.size:=by
 apply Nat.lt_of_not_le
 intro hb
 rw [World.cell?,Array.getElem?_eq_none hb] at h
 cases h
def Mx (w:World):Prop:=∃ m,w.cell? ⟨0,0,none⟩=some (.int .i64 m)
theorem Mx.below {w w':World} (h:Mx w) (hb:Below w.heap.size w w'):Mx w':=by
 obtain ⟨m,hm⟩:=h
 exact ⟨m,by rw [hb.cell (p:=⟨0,0,none⟩) (cell_lt hm)];exact hm⟩
theorem index_any (t p:ByteArray) (w:World) (h:Mx w) (ht:t.size<=4000000000) :
 Calls Tryz.prog 149 #[.string t,.string p] w fun e w'=>e=.returned (.int .i64 (Lib.index t.data.toList p.data.toList))/\w'=w:=by
 obtain ⟨m,hm⟩:=h
 exact Tryz.strings_Index t p m w (by omega) hm
theorem contains_any (t p:ByteArray) (w:World) (h:Mx w) (ht:t.size<=4000000000) (hp:0<p.size) :
 Calls Tryz.prog 107 #[.string t,.string p] w fun e w'=>e=.returned (.bool (Tr.st p t))/\w'=w:=by
 obtain ⟨m,hm⟩:=h
 rw [<-Tr.contains_is t p hp]
 exact Tryz.strings_Contains t p m w (by omega) hm
theorem keyS:Keyed Tryz.prog 9:=string_keyed Tryz.underlying9
theorem zeroI (w:World):(zeroValue 3).run Tryz.prog w=.ok (.int .i64 0) w:=by kernel_rfl
namespace Tr
def kl (p:ByteArray):Lit:=.string p.data.toList
theorem kl_ne {p q:ByteArray} (h:p ≠ q):kl p ≠ kl q:=by
 intro e
 apply h
 apply toList_same
 rw [ByteArray.toList_eq,ByteArray.toList_eq]
 exact Lit.string.inj e
theorem kl_key (p:ByteArray):WideAt.IsKeyLit (kl p):=trivial
theorem sz_mk (x:List UInt8):(⟨x.toArray⟩:ByteArray).size=x.length:=by show x.toArray.size=_;simp
def i64 (n:Int):DataW Unit:=.lit (.int .i64 n)
def CM (w:World) (b n:Nat) (f:ByteArray->Nat):Prop:=∃ D:DataW Unit,w.ownsMap Tryz.prog 9 (plainElem Tryz.prog 3) b n D/\IsMap D ∧
 (∀ q:ByteArray,q.size=4->D.atKey (kl q) (i64 0)=i64 (f q))/\(∀ x:List UInt8,has D (.string x)=true->x.length=4/\1<=f ⟨x.toArray⟩)
theorem CM.made (w:World):CM (w.alloc (.map #[] 0)) w.heap.size 0 (fun _=>0) :=
 ⟨_,World.ownsMap_made _ _ _ _,isMap_empty,fun _ _=>rfl,fun x h=>by simp [has] at h⟩
theorem CM.same {w:World} {b n m:Nat} {f g:ByteArray->Nat} (h:CM w b n f) (hn:n<=m) (hf:∀ q:ByteArray,q.size=4->f q=g q):CM w b m g:=by
 obtain ⟨D,h1,h2,h3,h4⟩:=h
 refine ⟨D,h1.mono hn,h2,fun q hq=>by rw [h3 q hq,hf q hq],fun x hx=>?_⟩
 obtain ⟨h5,h6⟩:=h4 x hx
 exact ⟨h5,by rw [<-hf ⟨x.toArray⟩ ((sz_mk x).trans h5)];exact h6⟩
theorem CM.put {w:World} {b n:Nat} {f g:ByteArray->Nat} {D:DataW Unit} {p:ByteArray} (hp:p.size=4) (h2:IsMap D) (h3:∀ q:ByteArray,q.size=4->D.atKey (kl q) (i64 0)=i64 (f q)) (h4:∀ x:List UInt8,has D (.string x)=true->x.length=4/\1<=f ⟨x.toArray⟩)
 (hown:w.ownsMap Tryz.prog 9 (plainElem Tryz.prog 3) b n (D.put (kl p) (i64 (g p:Nat)))) (hg:g p=f p+1) (hgo:∀ q:ByteArray,q.size=4->q ≠ p->g q=f q):CM w b n g:=by
 refine ⟨_,hown,h2.put _ _,fun q hq=>?_,fun x hx=>?_⟩
 · by_cases e:q=p
   · subst e;exact atKey_put_same h2 (kl_key q) _ _
   · rw [atKey_put_other (kl_ne e),h3 q hq,hgo q hq e]
 · by_cases e:(⟨x.toArray⟩:ByteArray)=p
   · subst e;exact ⟨(sz_mk x).symm.trans hp,by omega⟩
   · have hne:=kl_ne e
     have hx2:kl ⟨x.toArray⟩=.string x:=by simp [kl]
     rw [hx2] at hne
     rw [has_put_other hne] at hx
     obtain ⟨h5,h6⟩:=h4 x hx
     exact ⟨h5,by rw [hgo _ ((sz_mk x).trans h5) e];exact h6⟩
end Tr
end Go.Proofs.YtbjbjbpgmojcbabGreat
namespace Go.Proofs.YtbjbjbpgmojcbabGreat
open Go.RowKit Go.Maps Go.WideMaps
theorem counted_some (xs:List ByteArray) (b off cap:Nat) (w:World) (hx:Tr.TxAt w b off xs) (hn:xs.length<=12) (hB:∀ i,(Tr.xa xs i).size<=512) (hM:Mx w) :
 Calls Tryz.prog 146 #[.slice (some ⟨b,off,none⟩) xs.length cap] w fun e w'=>e=.returned (.map (some w.heap.size))/\Tr.CM w' w.heap.size 6144 (Tr.ct xs)/\Below w.heap.size w w':=by
 have HX:Hid (∀ w',Tr.TxAt w' b off xs->∀ i,i<xs.length->w'.cell? ⟨b,off+i,none⟩=some (.string (Tr.xa xs i))):=fun w' h=>h.2
 have HB:Hid (∀ i,(Tr.xa xs i).size<=512):=hB
 clear hB
 have hn':(xs.length:Int)<=12:=by omega
 have hmm:=@run_makeMap Tryz.prog
 have HX0:Hid (∀ w',Below w.heap.size w w'->Tr.TxAt w' b off xs/\Mx w'):=fun w' h=>⟨hx.below h,hM.below h⟩
 go_enter Tryz.func146,Tryz.ntmps146
 go_wp2_with fail
 go_loopw [11] (fun i wr=>∃ k:Nat,k<=xs.length/\i=.int .i64 k/\Tr.CM wr w.heap.size (512*k) (fun q=>Tr.ctK xs q k)/\Tr.TxAt wr b off xs/\Mx wr/\Below w.heap.size w wr) (fun i _=>xs.length - (intOf i).toNat)
 case atStart=>exact ⟨0,by omega,rfl,Tr.CM.made _,hx.below ((Below.refl _ _).alloc (Nat.le_refl _) _),hM.below ((Below.refl _ _).alloc (Nat.le_refl _) _),(Below.refl _ _).alloc (Nat.le_refl _) _⟩
 case round =>
  clear hx hM hmm
  obtain ⟨k,hk2,rfl,hC,hx,hM,B1⟩:=hrel
  by_cases hlt:k<xs.length
  · have d1:decide ((k:Int)<(xs.length:Int))=true:=by simp;omega
    have d1':decide (k<xs.length)=true:=by simp;omega
    have hki:(k:Int)<(xs.length:Int):=by omega
    have c1:=HX.out wr hx k hlt
    have hXs:=HB.out k
    obtain ⟨X,hX⟩:∃ X,Tr.xa xs k=X:=⟨_,rfl⟩
    rw [hX] at c1 hXs
    have HXk:Hid (Tr.xa xs k=X):=hX
    clear hX
    go_wp2_with fail
    go_loopw [19] (fun i wr2=>∃ j:Nat,j<=X.size - 3/\i=.int .i64 j/\Tr.CM wr2 w.heap.size (512*k+j) (Tr.cn xs k j)/\Tr.TxAt wr2 b off xs/\Mx wr2/\Below w.heap.size w wr2) (fun i _=>X.size - 3 - (intOf i).toNat)
    case atStart=>exact ⟨0,by omega,rfl,hC.same (by omega) (fun q _=>(Tr.cn_zero xs k q).symm),hx,hM,B1⟩
    case round =>
     clear c1 hC hx hM B1
     obtain ⟨j,hj2,rfl,hC,hx,hM,B1⟩:=hrel
     by_cases hjl:j<X.size - 3
     · have e1:decide ((j:Int)<(X.size:Int) - 4+1)=true:=decide_eq_true (by omega)
       have hji:(j:Int)+4<=(X.size:Int):=by omega
       have hjn:j+4<=X.size:=by omega
       have hj5:(j:Int)<=512:=by omega
       obtain ⟨P,hP⟩:∃ P,X.extract j (j+4)=P:=⟨_,rfl⟩
       have HP:Hid (Tr.pc X j=P):=hP
       have hP4:Hid (P.size=4):=by show _=_;rw [<-HP.out];exact Tr.pc_size hjl
       have HI:Hid (decide (Lib.index X.data.toList P.data.toList=(j:Int))=!Tr.stK P X j):=Tr.index_iff X P (by rw [hP4.out];omega) j (by rw [hP4.out];omega) (by rw [hP4.out];exact HP.out)
       have c2:=index_any X P _ hM (by omega)
       generalize Lib.index X.data.toList P.data.toList=r at *
       cases hs:Tr.stK P X j with
       | true =>
        have HN:Hid (∀ q:ByteArray,q.size=4->Tr.cn xs k j q=Tr.cn xs k (j+1) q):=fun q hq=>(Tr.cn_old (by rw [HXk.out,HP.out];exact hs) hq).symm
        have hr:¬ r=(j:Int):=of_decide_eq_false (by rw [HI.out,hs];rfl)
        have e2:decide (r=(j:Int))=false:=decide_eq_false hr
        have e3:(r == (j:Int))=false:=by simpa using hr
        clear hr hs HI
        go_wp2_with fail
        refine c2.mono ?_
        rintro e w2 ⟨rfl,rfl⟩
        go_wp2_with fail
        go_roundw
        case rel=>exact ⟨j+1,by omega,by go_num,hC.same (by omega) HN.out,hx,hM,B1⟩
        case measure=>simp [intOf];omega
       | false =>
        have HN:Hid (Tr.cn xs k (j+1) P=Tr.cn xs k j P+1):=by
         have:=Tr.cn_new (xs:=xs) (k:=k) (i:=j) (by rw [HXk.out];exact hjl) (by rw [HXk.out,HP.out];exact hs)
         rw [HXk.out,HP.out] at this
         exact this
        have HO:Hid (∀ q:ByteArray,q.size=4->q ≠ P->Tr.cn xs k (j+1) q=Tr.cn xs k j q):=fun q hq hne=>Tr.cn_other hq (by rw [HXk.out,HP.out];exact hne)
        have hr:r=(j:Int):=of_decide_eq_true (by rw [HI.out,hs];rfl)
        subst hr
        obtain ⟨D,hown,hD2,hD3,hD4⟩:=hC
        have hkey:keyOf Tryz.prog 9 (.string P)=some (Tr.kl P):=keyOf_string_mk Tryz.underlying9 (by rw [hP4.out];decide)
        have hcn:=Tr.cn_le xs k j P
        clear hs HI
        go_wp2_with fail
        refine c2.mono ?_
        rintro e w2 ⟨rfl,rfl⟩
        obtain ⟨C,hC⟩:∃ C:Nat,Tr.cn xs k j P=C:=⟨_,rfl⟩
        have HC:Hid (Tr.cn xs k j P=C):=hC
        rw [hC] at hcn
        clear hC
        have hci:(C:Int)<=13:=by omega
        have wf1:(Lit.int .i64 ((C:Int)+1)).wf=true:=WalkArith.wf_i64 (by omega)
        have hat0:∀ c:Int,D.atKey (Tr.kl P) (.lit (.int .i64 0))=.lit (.int .i64 c)->c=(C:Int):=by
         intro c h9
         have h8:=h9.symm.trans (hD3 P hP4.out)
         rw [HC.out] at h8
         simpa [Tr.i64] using h8
        go_wp2_with (first
         | (at_lookup;refine wpList_lookup_own_int _ rfl _ _ 140 rfl 9 3 .i64 keyS Tryz.underlying140 Tryz.underlying3 (zeroI _) w.heap.size (512*k+j) _ rfl hown _ _ rfl hkey ?_;intro c hat hwc;obtain rfl:=hat0 c hat;clear hat hwc)
         | (at_mapUpdate;refine wpList_mapUpdate_own _ rfl _ _ _ 140 rfl 9 3 keyS Tryz.underlying140 _ w.heap.size (512*k+j) _ rfl hown (by unfold maxLen;omega) _ _ _ rfl rfl hkey _ [] (plainElem_int Tryz.underlying3 wf1) ?_;intro w1 hown1 hgrow1)
         | fail)
        have hC2:Tr.CM w1 w.heap.size (512*k+(j+1)) (Tr.cn xs k (j+1)):=Tr.CM.put hP4.out hD2 hD3 hD4 (by rw [HN.out,HC.out];exact hown1) HN.out HO.out
        have B2:=B1.grown hgrow1 B1.size (fun j hj=>by cases hj;exact Nat.le_refl _)
        clear hown hown1 hgrow1 B1 hx hM
        go_roundw
        case rel=>exact ⟨j+1,by omega,by go_num,hC2,(HX0.out _ B2).1,(HX0.out _ B2).2,B2⟩
        case measure=>simp [intOf];omega
     · have e1:decide ((j:Int)<(X.size:Int) - 4+1)=false:=decide_eq_false (by omega)
       have hC2:Tr.CM wr w.heap.size (512*(k+1)) (fun q=>Tr.ctK xs q (k+1)):=hC.same (by omega) (fun q hq=>Tr.cn_end hq (by rw [HXk.out];omega))
       clear hC
       go_wp2_with fail
       go_roundw
       case rel=>exact ⟨k+1,by omega,by go_num,hC2,hx,hM,B1⟩
       case measure=>simp [intOf];omega
  · obtain rfl:k=xs.length:=by omega
    have d1:decide ((xs.length:Int)<(xs.length:Int))=false:=by simp
    go_wp2_with fail
    go_ret
    exact ⟨rfl,hC.same (by omega) (fun _ _=>rfl),B1⟩
theorem counted_nil (ad:Option Addr) (cap:Nat) (w:World) :
 Calls Tryz.prog 146 #[.slice ad 0 cap] w fun e w'=>e=.returned (.map (some w.heap.size))/\Tr.CM w' w.heap.size 6144 (Tr.ct [])/\Below w.heap.size w w':=by
 have hmm:=@run_makeMap Tryz.prog
 go_enter Tryz.func146,Tryz.ntmps146
 go_wp2_with fail
 go_loopw [11] (fun i wr=>i=.int .i64 0/\Tr.CM wr w.heap.size 0 (Tr.ct [])/\Below w.heap.size w wr) (fun i _=>0)
 case atStart=>exact ⟨rfl,Tr.CM.made _,(Below.refl _ _).alloc (Nat.le_refl _) _⟩
 case round =>
  obtain ⟨rfl,hC,B1⟩:=hrel
  go_wp2_with fail
  go_ret
  exact ⟨rfl,hC.same (by omega) (fun _ _=>rfl),B1⟩
theorem counted_any (xs:List ByteArray) (ad:Option Addr) (cap:Nat) (w:World) (hx:TxSl w ad xs) (hn:xs.length<=12) (hB:∀ i,(Tr.xa xs i).size<=512) (hM:Mx w) :
 Calls Tryz.prog 146 #[.slice ad xs.length cap] w fun e w'=>e=.returned (.map (some w.heap.size))/\Tr.CM w' w.heap.size 6144 (Tr.ct xs)/\Below w.heap.size w w':=by
 rcases hx with rfl | ⟨b,off,rfl,h2⟩
 · exact counted_nil ad cap w
 · exact counted_some xs b off cap w h2 hn hB hM
end Go.Proofs.YtbjbjbpgmojcbabGreat
namespace Go.Proofs.YtbjbjbpgmojcbabGreat
open Go.RowKit Go.Maps Go.WideMaps
namespace Tr
def cmpf (xs:List ByteArray) (a b:ByteArray):Int:=if ct xs a=ct xs b then Lib.compareBytes a.data.toList b.data.toList else (ct xs b:Int) - (ct xs a:Int)
theorem cmpf_lt (xs:List ByteArray) (a b:ByteArray):decide (cmpf xs a b<0)=lt xs a b:=by
 unfold cmpf lt
 by_cases h:ct xs a=ct xs b
 · rw [if_pos h,cmpB_bl];simp [h]
 · rw [if_neg h]
   by_cases h2:ct xs b<ct xs a
   · simp [h2];omega
   · rw [decide_eq_false h2,Bool.false_or,show (ct xs a == ct xs b)=false from by simpa using h,Bool.false_and];exact decide_eq_false (by omega)
theorem CM.at_is {xs:List ByteArray} {D:DataW Unit} (h3:∀ q:ByteArray,q.size=4->D.atKey (kl q) (i64 0)=i64 (ct xs q)) (p:ByteArray) (hp:p.size=4) (c:Int) (h9:D.atKey (kl p) (.lit (.int .i64 0))=.lit (.int .i64 c)):c=(ct xs p:Int):=by
 have h8:=h9.symm.trans (h3 p hp)
 simpa [i64] using h8
end Tr
theorem rankCmp_any (xs:List ByteArray) (hn:xs.length<=12) (a b:ByteArray) (ha:a.size=4) (hb:b.size=4) (bx mb:Nat) (w:World) (hc:w.cell? ⟨bx,0,none⟩=some (.map (some mb))) (hC:Tr.CM w mb 6144 (Tr.ct xs)) :
 Calls Tryz.prog 148 #[.string a,.string b,.pointer (some ⟨bx,0,none⟩)] w fun e w'=>e=.returned (.int .i64 (Tr.cmpf xs a b))/\w'=w:=by
 obtain ⟨D,hown,hD2,hD3,hD4⟩:=hC
 have hka:keyOf Tryz.prog 9 (.string a)=some (Tr.kl a):=keyOf_string_mk Tryz.underlying9 (by rw [ha];decide)
 have hkb:keyOf Tryz.prog 9 (.string b)=some (Tr.kl b):=keyOf_string_mk Tryz.underlying9 (by rw [hb];decide)
 have hata:=Tr.CM.at_is hD3 a ha
 have hatb:=Tr.CM.at_is hD3 b hb
 have l1:=Tr.ctK_le xs a xs.length
 have l2:=Tr.ctK_le xs b xs.length
 have c9:=Tryz.strings_Compare a b w
 unfold Tr.cmpf
 change Tr.ct xs a<=_ at l1
 change Tr.ct xs b<=_ at l2
 generalize Tr.ct xs a=A at *
 generalize Tr.ct xs b=B at *
 have hA:(A:Int)<=12:=by omega
 have hB:(B:Int)<=12:=by omega
 clear hD2 hD3 hD4 ha hb
 by_cases h:A=B
 · subst h
   rw [if_pos rfl]
   generalize Lib.compareBytes a.data.toList b.data.toList=r at *
   go_enter Tryz.func148,Tryz.ntmps148
   go_wp2_with (first
    | (at_lookup;refine wpList_lookup_own_int _ rfl _ _ 140 rfl 9 3 .i64 keyS Tryz.underlying140 Tryz.underlying3 (zeroI _) mb 6144 _ rfl hown _ _ rfl hka ?_;intro c hat hwc;obtain rfl:=hata c hat;clear hat hwc)
    | (at_lookup;refine wpList_lookup_own_int _ rfl _ _ 140 rfl 9 3 .i64 keyS Tryz.underlying140 Tryz.underlying3 (zeroI _) mb 6144 _ rfl hown _ _ rfl hkb ?_;intro c hat hwc;obtain rfl:=hatb c hat;clear hat hwc)
    | fail)
   refine c9.mono ?_
   rintro e w2 ⟨rfl,rfl⟩
   go_wp2_with fail
   go_ret
   exact ⟨rfl,rfl⟩
 · rw [if_neg h]
   have h':¬ (A:Int)=(B:Int):=by omega
   have d1:decide ((A:Int)=(B:Int))=false:=decide_eq_false h'
   have d2:((A:Int) == (B:Int))=false:=by simpa using h'
   have d3:((A:Int) != (B:Int))=true:=by simpa using h'
   go_enter Tryz.func148,Tryz.ntmps148
   go_wp2_with (first
    | (at_lookup;refine wpList_lookup_own_int _ rfl _ _ 140 rfl 9 3 .i64 keyS Tryz.underlying140 Tryz.underlying3 (zeroI _) mb 6144 _ rfl hown _ _ rfl hka ?_;intro c hat hwc;obtain rfl:=hata c hat;clear hat hwc)
    | (at_lookup;refine wpList_lookup_own_int _ rfl _ _ 140 rfl 9 3 .i64 keyS Tryz.underlying140 Tryz.underlying3 (zeroI _) mb 6144 _ rfl hown _ _ rfl hkb ?_;intro c hat hwc;obtain rfl:=hatb c hat;clear hat hwc)
    | fail)
   go_ret
   exact ⟨rfl,rfl⟩
end Go.Proofs.YtbjbjbpgmojcbabGreat
namespace Go.Proofs.YtbjbjbpgmojcbabGreat
open Go.RowKit Go.Maps Go.WideMaps Go.Sort Go.Shelf
namespace Tr
def Got (xs:List ByteArray) (D:DataW Unit) (left:Lit->Bool) (ss:List ByteArray):Prop:=ss.Nodup/\∀ q,q ∈ ss ↔ (has D (kl q)=true/\left (kl q)=false/\2<=ct xs q)
theorem Got.start (xs:List ByteArray) (D:DataW Unit):Got xs D (has D) []:=⟨List.nodup_nil,fun q=>by cases has D (kl q) <;> simp⟩
theorem kl_same (p:ByteArray):(kl p).sameKey (kl p)=true:=by simp [kl,Lit.sameKey]
theorem Got.yes {xs:List ByteArray} {D:DataW Unit} {left:Lit->Bool} {ss:List ByteArray} (h:Got xs D left ss) {x:ByteArray} (hl:left (kl x)=true) (hh:has D (kl x)=true) (h2:2<=ct xs x):Got xs D (fun z=>left z && !z.sameKey (kl x)) (ss++[x]):=by
 refine ⟨?_,fun q=>?_⟩
 · rw [List.nodup_append]
   refine ⟨h.1,by simp,fun a ha b hb=>?_⟩
   rw [List.mem_singleton] at hb
   rintro rfl
   subst hb
   have:=((h.2 a).1 ha).2.1
   rw [hl] at this;cases this
 · rw [List.mem_append,List.mem_singleton,h.2 q]
   by_cases e:q=x
   · subst e;simp [hh,h2,kl_same]
   · simp [sameKey_ne (kl_ne e),e]
theorem Got.no {xs:List ByteArray} {D:DataW Unit} {left:Lit->Bool} {ss:List ByteArray} (h:Got xs D left ss) {x:ByteArray} (h2:ct xs x<2):Got xs D (fun z=>left z && !z.sameKey (kl x)) ss:=by
 refine ⟨h.1,fun q=>?_⟩
 rw [h.2 q]
 by_cases e:q=x
 · subst e;constructor
   · rintro ⟨_,_,h3⟩;omega
   · rintro ⟨_,_,h3⟩;omega
 · simp [sameKey_ne (kl_ne e)]
theorem Got.all {xs:List ByteArray} {D:DataW Unit} {left:Lit->Bool} {ss:List ByteArray} (h:Got xs D left ss) (hl:∀ k,left k=false) (h3:∀ q:ByteArray,q.size=4->D.atKey (kl q) (i64 0)=i64 (ct xs q)) (h4:∀ x:List UInt8,has D (.string x)=true->x.length=4/\1<=ct xs ⟨x.toArray⟩) :
 ∀ q,q ∈ ss ↔ (q.size=4/\2<=ct xs q):=by
 intro q
 rw [h.2 q]
 constructor
 · rintro ⟨h5,_,h6⟩
   have:=(h4 q.data.toList h5).1
   exact ⟨by rw [<-this];simp,h6⟩
 · rintro ⟨h5,h6⟩
   refine ⟨?_,hl _,h6⟩
   cases hh:has D (kl q) with
   | true=>rfl
   | false =>
    have h7:=h3 q h5
    rw [atKey_of_not_has hh] at h7
    simp [i64] at h7
    omega
structure Pc where
 val:ByteArray
 four:val.size=4
instance:Inhabited Pc:=⟨⟨⟨#[0,0,0,0]⟩,rfl⟩⟩
theorem Pc.same:∀ {a b:Pc},a.val=b.val->a=b
 | ⟨_,_⟩,⟨_,_⟩,rfl=>rfl
def enc (p:Pc):Value:=.string p.val
def cfp (xs:List ByteArray) (a b:Pc):Int:=cmpf xs a.val b.val
theorem ltOf_is (xs:List ByteArray) (a b:Pc):ltOf (cfp xs) a b=lt xs a.val b.val:=cmpf_lt xs a.val b.val
theorem swo (xs:List ByteArray):SWO (ltOf (cfp xs)) where
 irrefl x:=by rw [ltOf_is,lt_irr]
 trans x y z h1 h2:=by rw [ltOf_is] at *;exact lt_trans h1 h2
 ntrans x y z h1 h2:=by rw [ltOf_is] at *;exact lt_ntrans h1 h2
theorem parts (xs:List ByteArray) (x y:Pc) (h1:ltOf (cfp xs) x y=false) (h2:ltOf (cfp xs) y x=false):x=y:=by
 rw [ltOf_is] at *
 exact Pc.same (lt_total h1 h2)
theorem grown_sort {w:World} {g n:Nat} {os:Array Obj} (d:Array Pc):w.grownBy (sortWorld enc w g 0 n d os) (some g):=by
 unfold sortWorld
 refine ⟨rfl,rfl,rfl,by simp,fun k hk hne=>?_⟩
 rw [heap_grow_old _ _ (by simpa using hk)]
 have:g ≠ k:=fun e=>hne (by rw [e])
 simp [putRow,mapBlock,Sort.ahead,Array.getElem?_modify,this]
theorem CM.kept {w w':World} {b n:Nat} {f:ByteArray->Nat} {row:Option Nat} (h:CM w b n f) (hg:w.grownBy w' row) (hne:some b ≠ row):CM w' b n f:=by
 obtain ⟨D,h1,h2⟩:=h
 exact ⟨D,h1.kept hg hne,h2⟩
theorem ranked_is {xs ss:List ByteArray} (h:ss.Nodup) (h4:∀ q,q ∈ ss ↔ (q.size=4/\2<=ct xs q)) (ps:List Pc) (hps:ps.map Pc.val=ss) :
 Rk xs ((ps.mergeSort fun x y=>!ltOf (cfp xs) y x).map Pc.val):=by
 have hperm:=List.mergeSort_perm ps (fun x y=>!ltOf (cfp xs) y x)
 refine ⟨?_,fun p=>?_⟩
 · have hs:(ps.mergeSort fun x y=>!ltOf (cfp xs) y x).Pairwise (fun x y=>(!ltOf (cfp xs) y x)=true):=by
    refine List.pairwise_mergeSort ?_ ?_ ps
    · intro a b c h1 h2
      simp only [Bool.not_eq_true',ltOf_is] at *
      exact lt_ntrans h2 h1
    · intro a b
      simp only [Bool.or_eq_true,Bool.not_eq_true',ltOf_is]
      cases h9:lt xs b.val a.val with
      | false=>exact .inl rfl
      | true=>exact .inr (lt_asymm h9)
   have hnd:(ps.mergeSort fun x y=>!ltOf (cfp xs) y x).Nodup:=by
    rw [hperm.nodup_iff]
    subst hps
    exact (List.pairwise_map.1 h).imp fun hne e=>hne (congrArg _ e)
   refine List.pairwise_map.2 ?_
   refine (hs.and hnd).imp ?_
   rintro a b ⟨h1,h2⟩
   simp only [Bool.not_eq_true',ltOf_is] at h1
   cases h9:lt xs a.val b.val with
   | true=>rfl
   | false=>exact absurd (Pc.same (lt_total h9 h1)) h2
 · rw [<-h4 p,<-hps,List.mem_map,List.mem_map]
   constructor
   · rintro ⟨a,h1,h2⟩;exact ⟨a,hperm.mem_iff.1 h1,h2⟩
   · rintro ⟨a,h1,h2⟩;exact ⟨a,hperm.mem_iff.2 h1,h2⟩
theorem lift:∀ ss:List ByteArray,(∀ q ∈ ss,q.size=4)->∃ ps:List Pc,ps.map Pc.val=ss
 | [],_=>⟨[],rfl⟩
 | a :: ss,h=>by
  obtain ⟨ps,hp⟩:=lift ss (fun q hq=>h q (List.mem_cons_of_mem _ hq))
  exact ⟨⟨a,h a (List.mem_cons_self ..)⟩ :: ps,by rw [List.map_cons,hp]⟩
def TxFar (lo:Nat) (w:World) (ad:Option Addr) (xs:List ByteArray):Prop:=xs=[]\/∃ b off,ad=some ⟨b,off,none⟩/\lo<=b/\TxAt w b off xs
theorem holds_pc {w:World} {g:Nat} {cur:Array Value} {e:TypeId} {ps:List Pc} (hb:w.heap[g]?=some (.cells cur e (0,0))) (ht:cur.toList.take ps.length=ps.map enc):Holds enc w g 0 ps.toArray:=by
 intro j hj
 have hj':j<ps.length:=by simpa using hj
 refine ⟨?_,by simp [World.frozen?,hb]⟩
 have h1:(cur.toList.take ps.length)[j]?=(ps.map enc)[j]?:=by rw [ht]
 rw [List.getElem?_take_of_lt hj'] at h1
 simp only [World.cell?,hb,Nat.zero_add]
 simp only [Option.isSome_none,Bool.false_eq_true,if_false]
 rw [<-Array.getElem?_toList,h1]
 simp [hj']
theorem tx_holds {w:World} {g:Nat} {ps:List Pc} (hg:g<w.heap.size) (h:Holds enc w g 0 ps.toArray):TxAt w g 0 (ps.map Pc.val):=by
 refine ⟨hg,fun i hi=>?_⟩
 rw [List.length_map] at hi
 rw [(h i (by simpa using hi)).1]
 simp [xa,enc,hi]
end Tr
theorem rankSort_any (xs:List ByteArray) (hn:xs.length<=12) (ps:List Tr.Pc) (hl:ps.length<=6144) (g cap mb bx:Nat) (w:World) (hH:Holds Tr.enc w g 0 ps.toArray) (hg:g<w.heap.size) (hgm:mb ≠ g) (hgb:bx ≠ g)
 (hcx:w.cell? ⟨bx,0,none⟩=some (.map (some mb))) (hC:Tr.CM w mb 6144 (Tr.ct xs)) :
 Calls Tryz.prog 147 #[.slice (some ⟨g,0,none⟩) ps.length cap,.func (.func 148) #[] #[.pointer (some ⟨bx,0,none⟩)]] w fun e w' =>
  e=.returned (.tuple #[])/\Tr.TxAt w' g 0 ((ps.mergeSort fun x y=>!ltOf (Tr.cfp xs) y x).map Tr.Pc.val)/\w.grownBy w' (some g):=by
 have eg:∀ args w,(callFunc 148 args).run Tryz.prog w=.ok (.enter 148 args) w:=enters_of Tryz.func148 (by kernel_rfl) rfl
 have hcon:=Tryz.slices_SortFunc_total Tr.enc (fun _=>rfl) (Tr.cfp xs) (Tr.swo xs) 148 #[.pointer (some ⟨bx,0,none⟩)] g 0 cap ps.toArray w eg
  (fun m os dk _ x y=>(rankCmp_any xs hn x.val y.val x.four y.four bx mb _ ((Tr.grown_sort dk).cell hcx (by simpa using hgb)) (hC.kept (Tr.grown_sort dk) (by simpa using hgm))).mono fun e w' ⟨he,hw⟩=>⟨he,0,#[],by rw [hw,grow_empty];rfl⟩)
  hH hg (by simp;omega) (Tr.parts xs)
 have hs:ps.toArray.size=ps.length:=by simp
 rw [hs] at hcon
 refine hcon.mono ?_
 rintro e w' ⟨rfl,n,os,rfl⟩
 refine ⟨rfl,Tr.tx_holds (lt_sortWorld _ _ _ _ _ _ _ hg) (holds_sortWorld Tr.enc w g 0 n ps.toArray _ os hg hH (by simp)),Tr.grown_sort _⟩
theorem ranked_any (xs:List ByteArray) (ad:Option Addr) (cap:Nat) (w:World) (hx:TxSl w ad xs) (hn:xs.length<=12) (hB:∀ i,(Tr.xa xs i).size<=512) (hM:Mx w) :
 Calls Tryz.prog 104 #[.slice ad xs.length cap] w fun e w'=>∃ ad' cap' L,e=.returned (.slice ad' (L:List ByteArray).length cap')/\L.length<=cap'/\L.length<=6144/\Tr.TxFar w.heap.size w' ad' L/\Tr.Rk xs L/\Below w.heap.size w w':=by
 have c1:=counted_any xs ad cap w hx hn hB hM
 clear hB hM hx
 obtain ⟨i0,hi,hz0,hz1,hz2⟩:=info_parts (P:=Tryz.prog) (e:=9) (z:=.string ⟨#[]⟩) (size:=1) (bytes:=16) (by kernel_rfl)
 go_enter Tryz.func104,Tryz.ntmps104
 go_wp2_with fail
 refine c1.mono ?_
 rintro e w1 ⟨rfl,⟨D,hown,hD2,hD3,hD4⟩,B1⟩
 clear c1
 have hs1:w.heap.size<w1.heap.size:=hown.lt
 go_wp2_with (first
  | (at_range;refine wpList_range_own _ rfl _ 140 rfl 9 3 keyS Tryz.underlying140 _ w.heap.size 6144 _ rfl (hown.alloc _) ?_;intro w0 hrg0 hg0 hs0)
  | fail)
 go_frame
 have hs9:(w1.alloc (.cells #[.map (some w.heap.size)] 140 (0,0))).heap.size=w1.heap.size+1:=by simp
 have hcx:w0.cell? ⟨w1.heap.size,0,none⟩=some (.map (some w.heap.size)):=hg0.cell (cell_one_new _ _ _ 0 _ rfl) (by simp)
 have B0:Below w.heap.size w w0:=(B1.alloc B1.size _).grown hg0 (by simp;omega) (fun j hj=>by cases hj)
 have hz:=hown.size_le
 generalize (w1.alloc (.cells #[.map (some w.heap.size)] 140 (0,0))).heap.size=r at hs9 hrg0 hs0 |-
 have hs8:Hid (r=w1.heap.size+1):=hs9
 clear hs9
 go_loopw [4] (fun v wr=>∃ (left:Lit->Bool) (cnt:Nat) (ss:List ByteArray),wr.ranges Tryz.prog 9 (plainElem Tryz.prog 3) w.heap.size r 6144 D left cnt/\ss.length+cnt<=6144 ∧
  wr.ownsRow (w1.heap.size+2) 9 1 v ss.length (ss.map Value.string)/\Tr.Got xs D left ss/\wr.cell? ⟨w1.heap.size,0,none⟩=some (.map (some w.heap.size))/\w1.heap.size+2<=wr.heap.size/\Below w.heap.size w wr)
  (fun _ wr=>wr.rangeLeft w.heap.size r)
 case atStart=>exact ⟨_,_,[],hrg0,by simpa using hz,⟨rfl,.inl ⟨rfl,rfl⟩⟩,Tr.Got.start xs D,hcx,by have:=hs8.out;omega,B0⟩
 case round =>
  clear hrg0 hg0 hs0 hcx B0 hz
  obtain ⟨left,cnt,ss,hrg,hcs,hrow,hG,hcx,hsz,hnx⟩:=hrel
  go_wp2_with (first
   | (at_next;(refine wpList_next_ranges _ rfl _ rfl 9 keyS (plainElem Tryz.prog 3) Value.string (Value.int .i64) (fun key kl hk=>by obtain ⟨x,hx,_⟩:=Maps.keyOf_str Tryz.underlying9 hk;exact ⟨⟨x.toArray⟩,hx⟩) (fun v y hv=>by obtain ⟨c,rfl,_⟩:=plainElem_int_inv Tryz.underlying3 hv;exact ⟨c,rfl⟩) w.heap.size r 6144 _ _ _ rfl hrg ?_ ?_))
   | fail)
  · intro hc0 hl0
    have hall:=hG.all hl0 hD3 hD4
    obtain ⟨ps,hps⟩:=Tr.lift ss (fun q hq=>((hall q).1 hq).1)
    have HR:Hid (Tr.Rk xs ((ps.mergeSort fun x y=>!ltOf (Tr.cfp xs) y x).map Tr.Pc.val)):=Tr.ranked_is hG.1 hall ps hps
    have hlen:ps.length=ss.length:=by rw [<-hps,List.length_map]
    have hCM:Tr.CM wr w.heap.size 6144 (Tr.ct xs):=⟨D,hrg.owns,hD2,hD3,hD4⟩
    rcases hrow.2 with ⟨hnil,hn0⟩ | ⟨g,cap',cur,hv,hbase,hb,h1,h2,h3,h4⟩
    · have c2:=fun fv=>Tryz.slices_SortFunc_none (α:=Tr.Pc) none 0 fv wr
      obtain rfl:ps=[]:=List.length_eq_zero_iff.1 (by omega)
      clear hrow hps hlen hn0 hall hG hrg hcx hCM hown
      subst hnil
      go_wp2_with fail
      refine (c2 _).mono ?_
      rintro e w2 ⟨rfl,rfl⟩
      go_wp2_with fail
      go_ret
      exact ⟨none,0,[],rfl,by simp,by simp,.inl rfl,by simpa using HR.out,hnx⟩
    · have hH:Holds Tr.enc wr g 0 ps.toArray:=Tr.holds_pc hb (by rw [hlen,<-Nat.mul_one ss.length,h4,<-hps,List.map_map];rfl)
      have hgl:g<wr.heap.size:=(Array.getElem?_eq_some_iff.1 hb).1
      have c2:=rankSort_any xs hn ps (by omega) g cap' w.heap.size w1.heap.size wr hH hgl (by omega) (by omega) hcx hCM
      have hll:((ps.mergeSort fun x y=>!ltOf (Tr.cfp xs) y x).map Tr.Pc.val).length=ss.length:=by rw [List.length_map,List.length_mergeSort,hlen]
      rw [hlen] at c2
      generalize (ps.mergeSort fun x y=>!ltOf (Tr.cfp xs) y x).map Tr.Pc.val=L at *
      have hll':Hid (L.length=ss.length):=hll
      clear hrow hps hlen hall hG hrg hcx hCM hown h4 h3 hb hH hll
      subst hv
      go_wp2_with fail
      refine c2.mono ?_
      rintro e w2 ⟨rfl,hT,hgr⟩
      have B2:=hnx.grown hgr hnx.size (fun j hj=>by cases hj;omega)
      go_wp2_with fail
      go_ret
      exact ⟨some ⟨g,0,none⟩,cap',L,by rw [hll'.out];rfl,by rw [hll'.out];exact h1,by rw [hll'.out];omega,.inr ⟨g,0,rfl,by omega,hT⟩,HR.out,B2⟩
  · intro x c kl yd yp w2 cnt2 hkey hlk hv hat hrg2 hlt hg2 hs2 hen
    obtain ⟨x',ex,rfl,_⟩:=Maps.keyOf_str Tryz.underlying9 hkey
    obtain rfl:x=⟨x'.toArray⟩:=by cases ex;rfl
    have hkx:Lit.string x'=Tr.kl ⟨x'.toArray⟩:=by simp [Tr.kl]
    have hx4:=hD4 x' (has_true_of_atKey hat)
    rw [hkx] at hlk hrg2 hat
    have hh:has D (Tr.kl ⟨x'.toArray⟩)=true:=has_true_of_atKey hat
    obtain ⟨c',hc1,hc2,_⟩:=plainElem_int_inv Tryz.underlying3 hv
    obtain rfl:c=c':=by cases hc1;rfl
    have hcc:c=(Tr.ct xs ⟨x'.toArray⟩:Int):=Tr.CM.at_is hD3 _ ((Tr.sz_mk x').trans hx4.1) c (by rw [hat];cases hc2;rfl)
    have hrow2:=hrow.kept hg2 (Or.inr (row_ne_iter hrow hrg).symm)
    have hcx2:=hg2.cell hcx (by simp;have:=hs8.out;omega)
    have hsz2:w1.heap.size+2<=w2.heap.size:=by omega
    have B2:Below w.heap.size w w2:=hnx.grown hg2 hnx.size (fun j hj=>by cases hj;have:=hs8.out;omega)
    generalize (⟨x'.toArray⟩:ByteArray)=X at *
    clear hs2 hrow hcx hnx hkey hx4 ex hc1 hc2 hv
    by_cases h2:2<=Tr.ct xs X
    · have hci:(2:Int)<=c:=by omega
      have d1:decide ((2:Int)<=c)=true:=decide_eq_true hci
      have hG2:=hG.yes hlk hh h2
      clear hcc hG
      go_wp2_with (first
       | (at_builtin;refine wpList_append_own _ rfl _ _ 22 rfl (w1.heap.size+2) 9 i0 (.string ⟨#[]⟩) 1 16 Tryz.underlying22 hi hz0 hz1 hz2 rfl (by decide) _ _ _ rfl (hrow2.alloc _) ⟨w2.heap.size,0,none⟩ 1 1 [.string X] rfl rfl (cell_one_new _ _ _) (by simp [Value.oneCell']) (by unfold maxLen at *;omega) (by omega) (by simp;omega) ?_;intro v' w3 hown' hg3 hnil3;go_frame)
       | fail)
      have hne1:=row_ne_low hrow2 (b:=w.heap.size) (by omega)
      have hne2:=row_ne_iter hrow2 hrg2
      have hne3:=row_ne_low hrow2 (b:=w1.heap.size) (by omega)
      have hrg3:=(hrg2.alloc (.cells #[.string X] 9 (0,0))).kept hg3 hne1 hne2
      have hcx3:=hg3.cell (((World.grownBy_alloc w2 (.cells #[.string X] 9 (0,0)) none).cell hcx2 (by simp))) hne3
      have hsz3:w1.heap.size+2<=w3.heap.size:=by have:=hg3.size;simp at this;omega
      have B3:Below w.heap.size w w3:=(B2.alloc B2.size (.cells #[.string X] 9 (0,0))).grown hg3 (by simp;omega) (fun j hj=>by have:=(hrow2.lt j hj).1;omega)
      go_roundw
      case rel=>exact ⟨_,cnt2,ss++[X],hrg3,by simp;omega,by simpa using hown',hG2,hcx3,hsz3,B3⟩
      case measure=>rw [hrg3.left_eq,hrg.left_eq];exact hlt
    · have hci:¬ (2:Int)<=c:=by omega
      have d1:decide ((2:Int)<=c)=false:=decide_eq_false hci
      have hG2:=hG.no (x:=X) (by omega)
      clear hcc hG
      go_wp2_with fail
      go_roundw
      case rel=>exact ⟨_,cnt2,ss,hrg2,by omega,hrow2,hG2,hcx2,hsz2,B2⟩
      case measure=>rw [hrg2.left_eq,hrg.left_eq];exact hlt
end Go.Proofs.YtbjbjbpgmojcbabGreat
