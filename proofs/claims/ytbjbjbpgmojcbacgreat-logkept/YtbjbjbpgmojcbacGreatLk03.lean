/- A part of the proof: what it leans on. -/
import Derived.Lib.AppendStr
import Derived.Test.YtbjbjbpgmojcbacGreatLk02
set_option maxHeartbeats 1000000
namespace Go.Proofs.YtbjbjbpgmojcbacGreat
open Go.RowKit
def Own8 (w:World) (B:Nat) (v:Value) (l:List UInt8):Prop :=
 (v=.slice none 0 0/\l=[])\/∃ g cap,v=.slice (some ⟨g,0,none⟩) l.length cap/\B<=g/\g<w.heap.size/\l.length<=cap/\cap<=maxLen ∧
  (∀ j b,l[j]?=some b->w.cell? ⟨g,j,none⟩=some (.int .u8 (b.toNat:Int))) ∧
  (∀ j,l.length<=j->j<cap->(w.cell? ⟨g,j,none⟩).isSome=true/\w.frozen? ⟨g,j,none⟩=false)
theorem Own8.nil (w:World) (B:Nat):Own8 w B (.slice none 0 0) []:=.inl ⟨rfl,rfl⟩
theorem Zax (g j:Nat):(⟨g,0,none⟩:Addr).add j=⟨g,j,none⟩:=by unfold Addr.add;split <;> simp_all
theorem Own8.kept {w w':World} {B:Nat} {v:Value} {l:List UInt8} (h:Own8 w B v l) (hs:w.heap.size<=w'.heap.size) (hk:∀ g,v.ownBlock=some g->w'.heap[g]?=w.heap[g]?):Own8 w' B v l:=by
 rcases h with h | ⟨g,cap,rfl,h1,h2,h3,h4,h5,h6⟩
 ·exact .inl h
 ·have e:=hk g rfl;refine .inr ⟨g,cap,rfl,h1,by omega,h3,h4,?_,?_⟩
  ·intro j b hj;rw [World.cell?_of_block (w:=w) (by exact e)];exact h5 j b hj
  ·intro j ha hb;rw [World.cell?_of_block (w:=w) (by exact e),World.frozen?_of_block (w:=w) (by exact e)];exact h6 j ha hb
theorem Own8.lt {w:World} {B:Nat} {v:Value} {l:List UInt8} (h:Own8 w B v l):∀ g,v.ownBlock=some g->B<=g/\g<w.heap.size:=by
 intro g hg;rcases h with ⟨rfl,_⟩ | ⟨g',cap,rfl,h1,h2,_⟩
 ·simp [Value.ownBlock] at hg
 ·simp [Value.ownBlock] at hg;subst hg;exact ⟨h1,h2⟩
theorem Own8.below {w w':World} {B:Nat} {v:Value} {l:List UInt8} (h:Own8 w B v l) (hb:Below w.heap.size w w'):Own8 w' B v l :=
 h.kept hb.size (fun g hg=>hb.block g (h.lt g hg).2)
theorem Own8.alloc {w:World} {B:Nat} {v:Value} {l:List UInt8} (h:Own8 w B v l) (o:Obj):Own8 (w.alloc o) B v l :=
 h.below ((bR _ _).alloc (nl _) o)
theorem Own8.drew {w:World} {B:Nat} {v:Value} {l:List UInt8} (h:Own8 w B v l):Own8 w.drew B v l:=h.below (Below.refl _ _).drew
theorem Own8.of_row {w:World} {B B' n:Nat} {v:Value} {l:List UInt8} (h:w.ownsRow B' 5 1 v n (bcs l)) (hB:B<=B'):Own8 w B v l:=by
 have hlen:=h.1;rw [Zab,Nat.mul_one] at hlen;rcases h.2 with ⟨rfl,h0⟩ | ⟨g,cap,cur,rfl,hb,hg,hnc,hcm,hcs,htk⟩
 ·exact .inl ⟨rfl,List.eq_nil_of_length_eq_zero (by omega)⟩
 ·subst hlen;rw [Nat.mul_one] at htk hcs;refine .inr ⟨g,cap,rfl,by omega,(aG.1 hg).1,hnc,hcm,?_,?_⟩
  ·intro j b hj;have hj2:j<l.length:=(List.getElem?_eq_some_iff.1 hj).1;rw [cell_of_row w g j cur _ _ hg]
   have:(cur.toList.take l.length)[j]?=some (.int .u8 (b.toNat:Int)):=by
    rw [htk];simp [bcs,hj]
   rw [List.getElem?_take,if_pos hj2] at this;simpa using this
  ·intro j ha hb2;rw [cell_of_row w g j cur _ _ hg];refine ⟨?_,?_⟩
   ·rw [Array.getElem?_eq_getElem (by omega)];rfl
   ·simp [World.frozen?,hg]
theorem Own8.of_string (w:World) (s:ByteArray) (hs:s.size<=140737488355328) (B:Nat) (hB:B<=w.heap.size) :
 ∃ v w',(convert 9 77 (.string s)).run Tryz.prog w=.ok v w'/\Own8 w' B v s.data.toList/\Below w.heap.size w w'/\v ≠ .slice none 0 0/\(∀ g,v.ownBlock=some g->w.heap.size<=g):=by
 refine ⟨_,_,run_bytes_of_string w _ _ _ s U9 U77 U5,?_,?_,by simp,fun g hg=>by simp [Value.ownBlock] at hg;omega⟩
 ·have hge:=grownCap_ge w s.size 0 5;have hcm:grownCap w s.size 0 5<=maxLen:=grownCap_le_maxLen w s.size 0 _ (ZaJ hs)
  have hrs:(bytesRow s (grownCap w s.size 0 5)).size=grownCap w s.size 0 5:=by
   simp [bytesRow];have:s.data.size=s.size:=rfl;omega
  have hlen:s.data.toList.length=s.size:=by simp
  refine .inr ⟨w.heap.size,grownCap w s.size 0 5,by rw [hlen],hB,by simp,by omega,hcm,?_,?_⟩
  ·intro j b hj;have hj2:j<s.data.toList.length:=(List.getElem?_eq_some_iff.1 hj).1;show ((w.drew).alloc _).cell? ⟨w.drew.heap.size,j,none⟩=_;rw [World.cell?_alloc_mark];have hjs:j<s.data.size:=by simpa using hj2
   rw [bytesRow_at s _ j hjs]
   have:s.data[j]=b:=by
    rw [List.getElem?_eq_getElem hj2] at hj;simpa using hj
   rw [this]
  ·intro j ha hb;constructor
   ·show (((w.drew).alloc _).cell? ⟨w.drew.heap.size,j,none⟩).isSome=true;rw [World.cell?_alloc_mark,Array.getElem?_eq_getElem (by omega)];rfl
   ·show ((w.drew).alloc _).frozen? ⟨w.drew.heap.size,j,none⟩=false;rw [World.frozen?_alloc_mark];simp;omega
 ·exact ((bR _ w).drew).alloc (nl _) _
structure App (w w':World) (B:Nat) (v v':Value) (l':List UInt8):Prop where
 own:Own8 w' B v' l'
 below:Below B w w'
 block:∀ g,g<w.heap.size->some g ≠ v.ownBlock->w'.heap[g]?=w.heap[g]?
 at_:∀ g,v'.ownBlock=some g->v.ownBlock=some g\/w.heap.size<=g
 some_:v ≠ .slice none 0 0->v' ≠ .slice none 0 0
theorem App.cell {w w':World} {B:Nat} {v v':Value} {l':List UInt8} (h:App w w' B v v' l') {g o:Nat} (hg:g<w.heap.size) (hne:some g ≠ v.ownBlock):w'.cell? ⟨g,o,none⟩=w.cell? ⟨g,o,none⟩ :=
 cB (w:=w) (h.block g hg hne)
theorem Own8.form {w:World} {B:Nat} {v:Value} {l:List UInt8} (h:Own8 w B v l) (hv:v ≠ .slice none 0 0) :
 ∃ g cap,v=.slice (some ⟨g,0,none⟩) l.length cap/\B<=g/\g<w.heap.size/\l.length<=cap/\cap<=maxLen/\(∀ j b,l[j]?=some b->w.cell? ⟨g,j,none⟩=some (.int .u8 (b.toNat:Int))):=by
 rcases h with ⟨h,_⟩ | ⟨g,cap,h0,h1,h2,h3,h4,h5,_⟩
 ·exact absurd h hv
 ·exact ⟨g,cap,h0,h1,h2,h3,h4,h5⟩
theorem ZmB {w:World} {base n:Nat} {e:TypeId} {v:Value} {xs:List Value} (h:w.ownsRow base e 1 v n xs):∀ g,v.ownBlock=some g->base<=g:=fun g hg=>(h.lt g hg).1
theorem ZhK {w:World} {B:Nat} {v:Value} {l:List UInt8} (h:Own8 w B v l) (ty:TypeId) (b:UInt8) (ad:Addr) (c:Nat) (hx:w.cell? ad=some (.int .u8 (b.toNat:Int))) (hlen:l.length+1<=140737488355328) (hB:B<=w.heap.size) (hz:ad.spot=none) :
 ∃ v' w',(Builtin.append_ #[77,77] ty #[v,.slice (some ad) 1 c]).run Tryz.prog w=.ok v' w'/\App w w' B v v' (l++[b]):=by
 obtain ⟨i0,hi,hz0,hz1,hz2⟩:=info_parts Zca
 have hnews:∀ j u,[Value.int .u8 (b.toNat:Int)][j]?=some u->w.cell? (ad.add j)=some u:=by
  intro j u hj
  cases j with
  | zero =>
   simp at hj;subst hj;have:ad.add 0=ad:=by obtain ⟨a1,a2,a3⟩:=ad;simp at hz;subst hz;unfold Addr.add;split <;> simp_all
   rw [this];exact hx
  | succ j=>simp at hj
 rcases h with ⟨rfl,rfl⟩ | ⟨g,cap,rfl,h1,h2,h3,h4,h5,h6⟩
 ·obtain ⟨v',w',hr,ho,hg,_⟩:=run_append_own (P:=Tryz.prog) w w.heap.size 77 ty 5 i0 (.int .u8 0) 1 1 U77 hi hz0 hz1 hz2 rfl (by decide) _ 0 [] (World.ownsRow_nil w w.heap.size 5 1) ad 1 c [.int .u8 (b.toNat:Int)] rfl hnews (Zdm _) (ZaJ (by omega)) (by omega) (nl _);exact ⟨v',w',hr,Own8.of_row (l:=[b]) (by simpa [bcs] using ho) hB,(bR _ _).grown hg hB (by simp [Value.ownBlock]),fun k hk hne=>hg.block k hk hne,fun g hg2=>Or.inr (ZmB ho g hg2),fun h=>absurd rfl h⟩
 ·by_cases hroom:l.length+1<=cap
  ·have hr:=run_append_room_cells (P:=Tryz.prog) w 77 ty 5 i0 U77 hi g 0 l.length cap ad 1 c [.int .u8 (b.toNat:Int)] (by rw [hz1];rfl) hnews (Zdm _) hroom
    (fun j hj=>by have:j=0:=(by simpa using hj);subst this;rw [hz1];simpa using (h6 l.length (nl _) (by omega)).1)
    (fun j hj=>by have:j=0:=(by simpa using hj);subst this;rw [hz1];simpa using (h6 l.length (nl _) (by omega)).2)
   rw [hz1] at hr;simp only [Nat.zero_add,Nat.mul_one] at hr;refine ⟨_,_,hr,.inr ⟨g,cap,by simp,h1,?_,by simp;omega,h4,?_,?_⟩,?_,?_,fun g' hg'=>Or.inl hg',by simp⟩
   ·simp [World.setCells,World.setCell];exact h2
   ·intro j u hj;by_cases hjl:j<l.length
    ·rw [List.getElem?_append_left hjl] at hj;rw [World.cell?_setCells_out _ _ _ _ _ (by intro _ _;left;exact hjl)];exact h5 j u hj
    ·have hjl2:j<l.length+1:=by
      have:=(List.getElem?_eq_some_iff.1 hj).1;simpa using this
     obtain rfl:j=l.length:=by omega
     rw [List.getElem?_append_right (Nat.le_refl _),Nat.sub_self] at hj;simp at hj;subst hj
     have:=World.cell?_setCells_in g [.int .u8 (b.toNat:Int)] l.length w (fun j hj=>by
      have:j=0:=by simpa using hj
      subst this
      exact (h6 l.length (nl _) (by omega)).1) 0 (by simp)
     simpa using this
   ·intro j ha hb;simp only [List.length_append,List.length_singleton] at ha;rw [World.cell?_setCells_out _ _ _ _ _ (by intro _ _;right;simp;omega),World.frozen?_setCells];exact h6 j (by omega) hb
   ·simp only [World.setCells];exact (bR _ _).setCell (p:=⟨g,l.length,none⟩) h1 _
   ·intro k hk hne;simp only [World.setCells];exact zhS _ _ _ _ (fun e=>hne (by simp [Value.ownBlock,e]))
  ·obtain ⟨v',w',hr,ho,hg⟩:=run_append_arg_grows (P:=Tryz.prog) w 77 ty 5 i0 (.int .u8 0) 1 1 U77 hi hz0 hz1 hz2 rfl (by decide) ⟨g,0,none⟩ l.length cap (bcs l) (by rw [Zab,Nat.mul_one])
    (fun j u hj=>by
     simp only [bcs,List.getElem?_map,Option.map_eq_some_iff] at hj;obtain ⟨b',hb',rfl⟩:=hj;rw [Zax]
     exact h5 j b' hb') ad 1 c [.int .u8 (b.toNat:Int)] rfl hnews (by omega) (ZaJ (by omega)) (by omega)
   refine ⟨v',w',hr,Own8.of_row (l:=l++[b]) (n:=l.length+1) (by rw [ZbO];exact ho) hB,(bR _ _).grown hg hB (by simp),fun k hk _=>hg.block k hk (by simp),fun g hg2=>Or.inr (ZmB ho g hg2),fun _ e=>?_⟩;subst e;rcases ho.2 with ⟨_,h0⟩ | ⟨g',cap',cur',h0,_⟩
   ·omega
   ·simp at h0
theorem Zdj (s:ByteArray):Lib.strCells s=bcs s.data.toList:=rfl
theorem Zgj {w:World} {B:Nat} {v:Value} {l:List UInt8} (h:Own8 w B v l) (ty:TypeId) (s:ByteArray) (hlen:l.length+s.size<=140737488355328) (hB:B<=w.heap.size) :
 ∃ v' w',(Builtin.append_ #[77,9] ty #[v,.string s]).run Tryz.prog w=.ok v' w'/\App w w' B v v' (l++s.data.toList):=by
 obtain ⟨i0,hi,hz0,hz1,hz2⟩:=info_parts Zca;have hsl:s.data.toList.length=s.size:=by simp
 rcases h with ⟨rfl,rfl⟩ | ⟨g,cap,rfl,h1,h2,h3,h4,h5,h6⟩
 ·obtain ⟨v',w',hr,ho,hg,_⟩:=Lib.run_append_own_string (P:=Tryz.prog) w w.heap.size 77 9 ty 5 i0 U77 U9 hi hz0 hz1 hz2 _ 0 [] (World.ownsRow_nil w w.heap.size 5 1) s (ZaJ (by simpa using hlen)) (by simpa using hlen) (nl _);exact ⟨v',w',hr,Own8.of_row (l:=s.data.toList) (by rw [<-Zdj];exact ho) hB,(bR _ _).grown hg hB (by simp [Value.ownBlock]),fun k hk hne=>hg.block k hk hne,fun g hg2=>Or.inr (ZmB ho g hg2),fun h=>absurd rfl h⟩
 ·by_cases hroom:l.length+s.size<=cap
  ·have hf:=Lib.run_firstCells_string (P:=Tryz.prog) w 1 s;have hst:=run_storeCells_cells (P:=Tryz.prog) g l.length (Lib.strCells s) 0 w
    (fun j hj=>by rw [Lib.strCells_length] at hj;exact (h6 _ (by omega) (by omega)).1)
    (fun j hj=>by rw [Lib.strCells_length] at hj;exact (h6 _ (by omega) (by omega)).2) (Lib.strCells_oneCell s)
   simp only [Nat.add_zero] at hst
   have hr:(Builtin.append_ #[77,9] ty #[.slice (some ⟨g,0,none⟩) l.length cap,.string s]).run Tryz.prog w=.ok (.slice (some ⟨g,0,none⟩) (l.length+s.size) cap) (w.setCells g l.length (Lib.strCells s)):=by
    simp [Builtin.append_,run_underlying Tryz.underlying77,run_underlying Tryz.underlying9,sizeOf,typeInfo,hi,hz1,Builtin.lenOf,hroom,hf,Addr.add_lit,hst]
   have hsize:∀ (vs:List Value) (o:Nat) (w:World),(w.setCells g o vs).heap.size=w.heap.size:=by
    intro vs
    induction vs with
    | nil=>intro o w;rfl
    | cons a vs ih=>intro o w;rw [World.setCells,ih];simp [World.setCell]
   have hblk:∀ (vs:List Value) (o:Nat) (w:World) (k:Nat),k ≠ g->(w.setCells g o vs).heap[k]?=w.heap[k]?:=by
    intro vs
    induction vs with
    | nil=>intro o w k _;rfl
    | cons a vs ih=>intro o w k hk;rw [World.setCells,ih _ _ _ hk];exact zhS _ _ _ _ hk
   have hbel:∀ (vs:List Value) (o:Nat) (a w:World),Below B a w->Below B a (w.setCells g o vs):=by
    intro vs
    induction vs with
    | nil=>intro o a w h;exact h
    | cons x vs ih=>intro o a w h;rw [World.setCells];exact ih _ _ _ (h.setCell (p:=⟨g,o,none⟩) h1 _)
   refine ⟨_,_,hr,.inr ⟨g,cap,by simp,h1,?_,by simp;omega,h4,?_,?_⟩,hbel _ _ _ _ (bR _ _),?_,fun g' hg'=>Or.inl hg',by simp⟩
   ·rw [hsize];exact h2
   ·intro j u hj;by_cases hjl:j<l.length
    ·rw [List.getElem?_append_left hjl] at hj;rw [World.cell?_setCells_out _ _ _ _ _ (by intro _ _;left;exact hjl)];exact h5 j u hj
    ·rw [List.getElem?_append_right (by omega)] at hj
     have hj2:j - l.length<(Lib.strCells s).length:=by
      rw [Lib.strCells_length];have:=(List.getElem?_eq_some_iff.1 hj).1;omega
     have hin:=World.cell?_setCells_in g (Lib.strCells s) l.length w (fun j hj=>by
      rw [Lib.strCells_length] at hj
      exact (h6 _ (by omega) (by omega)).1) (j - l.length) hj2
     rw [show l.length+(j - l.length)=j by omega] at hin;rw [hin];have:(Lib.strCells s)[j - l.length]?=some (.int .u8 (u.toNat:Int)):=by simp [Lib.strCells,hj]
     rw [List.getElem?_eq_getElem hj2] at this;exact this
   ·intro j ha hb;simp only [List.length_append,hsl] at ha;rw [World.cell?_setCells_out _ _ _ _ _ (by intro _ _;right;rw [Lib.strCells_length];omega),World.frozen?_setCells];exact h6 j (by omega) hb
   ·intro k hk hne;exact hblk _ _ _ _ (fun e=>hne (by simp [Value.ownBlock,e]))
  ·have hr:=Lib.run_append_grow_string (P:=Tryz.prog) w 77 9 ty 5 i0 (.int .u8 0) U77 U9 hi hz0 ⟨g,0,none⟩ l.length cap (bcs l) (by rw [Zab,hz1,Nat.mul_one])
    (fun j u hj=>by
     simp only [bcs,List.getElem?_map,Option.map_eq_some_iff] at hj;obtain ⟨b',hb',rfl⟩:=hj;rw [Zax]
     exact h5 j b' hb') s (by omega) (by omega) (by rw [hz2];exact growslice_fits (by omega) (by omega))
   have hge:=grownCap_ge w (l.length+s.size) cap 5;have hcm:grownCap w (l.length+s.size) cap 5<=maxLen:=grownCap_le_maxLen w (l.length+s.size) cap _ (ZaJ hlen);refine ⟨_,_,hr,Own8.of_row (B':=w.heap.size) (n:=l.length+s.size) ⟨?_,.inr ⟨w.heap.size,_,_,rfl,nl _,heap_alloc_new w.drew _,hge,hcm,?_,?_⟩⟩ hB,?_,?_,fun g' hg'=>by simp [Value.ownBlock] at hg';omega,by simp⟩
   ·rw [Zab];simp
   ·have hz1':(Value.int IntKind.u8 0).cells.size=1:=rfl;simp only [Array.size_append,List.size_toArray,size_zeroCells,hz1',Zab,Lib.strCells_length];omega
   ·simp only [Array.toList_append,List.append_assoc];rw [<-List.append_assoc,Zdj];have:(l.length+s.size)*1=(bcs l++bcs s.data.toList).length:=by rw [List.length_append,Zab,Zab,hsl];omega
    rw [this,ZbO];exact List.take_left
   ·exact ((bR B w).drew).alloc (by exact hB) _
   ·intro k hk _;exact Below.heap_alloc w.drew _ k hk
theorem Own8.conv {w:World} {l:List UInt8} {g:Nat} (h:∀ j b,l[j]?=some b->w.cell? ⟨g,j,none⟩=some (.int .u8 (b.toNat:Int))) (d c:Nat) :
 (convert 77 9 (.slice (some ⟨g,d,none⟩) (l.length - d) c)).run Tryz.prog w=.ok (.string ⟨(l.drop d).toArray⟩) w:=by
 have e:l.length - d=(l.drop d).length:=by simp
 rw [e];refine run_convert_bytes_back w _ _ _ ⟨g,d,none⟩ c (l.drop d) U77 U5 U9 (fun j hj=>?_);have ha:(⟨g,d,none⟩:Addr).add j=⟨g,d+j,none⟩:=by unfold Addr.add;split <;> simp_all
 rw [ha];refine h (d+j) _ ?_;rw [<-List.getElem?_drop,List.getElem?_eq_getElem hj]
section
variable {ops:Array Oper} {rest:List Oper} {o:Oper} {a:Act} {Q:Exit->Act->World->Prop}
theorem ZkA (w:World) (hgd:o.guard=none) (s x:Operand) (ho:o.op=.call { callee:=.builtin .append,args:=#[s,x],argTypes:=#[77,77] })
 (B:Nat) (v:Value) (l:List UInt8) (hs:a.eval s=v) (h:Own8 w B v l) (b:UInt8) (g c:Nat) (hx:a.eval x=.slice (some ⟨g,0,none⟩) 1 c) (hc:w.cell? ⟨g,0,none⟩=some (.int .u8 (b.toNat:Int)))
 (hlen:l.length+1<=140737488355328) (hB:B<=w.heap.size)
 (hK:∀ v' w',App w w' B v v' (l++[b])->wpList Tryz.prog ops Q rest (a.put o.dst v') w'):wpList Tryz.prog ops Q (o :: rest) a w:=by
 refine wpList_plain hgd fun K hK'=>?_
 obtain ⟨v',w',hr,r1⟩:=ZhK h o.type b ⟨g,0,none⟩ c hc hlen hB rfl;unfold Oper.wp execOp;simp only [ho,resolve,invoke,builtin,Sem.run_bind,Sem.run_pure,Result.andThen_ok,List.map_toArray,List.map_cons,List.map_nil,hs,hx,hr];exact hK' _ _ (hK v' w' r1)
theorem Zcl (w:World) (hgd:o.guard=none) (sl x:Operand) (ho:o.op=.call { callee:=.builtin .append,args:=#[sl,x],argTypes:=#[77,9] })
 (B:Nat) (v:Value) (l:List UInt8) (hs:a.eval sl=v) (h:Own8 w B v l) (s:ByteArray) (hx:a.eval x=.string s)
 (hlen:l.length+s.size<=140737488355328) (hB:B<=w.heap.size)
 (hK:∀ v' w',App w w' B v v' (l++s.data.toList)->wpList Tryz.prog ops Q rest (a.put o.dst v') w'):wpList Tryz.prog ops Q (o :: rest) a w:=by
 refine wpList_plain hgd fun K hK'=>?_
 obtain ⟨v',w',hr,r1⟩:=Zgj h o.type s hlen hB;unfold Oper.wp execOp;simp only [ho,resolve,invoke,builtin,Sem.run_bind,Sem.run_pure,Result.andThen_ok,List.map_toArray,List.map_cons,List.map_nil,hs,hx,hr];exact hK' _ _ (hK v' w' r1)
end
theorem ZgY (s:ByteArray):s.toList.isEmpty=true ↔ s.size=0:=by
 rw [Lib.toList_data,List.isEmpty_iff_length_eq_zero];have:s.data.toList.length=s.size:=by simp
 rw [this]
theorem Zao {s:ByteArray} (h:s.size=0):s.toList.isEmpty=true:=(ZgY s).2 h
theorem ZW {s:ByteArray} (h:s.size ≠ 0):s.toList.isEmpty=false:=by
 cases e:s.toList.isEmpty with
 | false=>rfl
 | true=>exact absurd ((ZgY s).1 e) h
def fits (D M:Int) (L:Bool) (lit:ByteArray) (far len:Int):Bool :=
 if lit.size ≠ 0 then decide (far=0/\len=0/\L=false) else decide (3<=len/\len<=64/\1<=far/\far<=D+M)
theorem Zph (g:Nat) (D M:Int) (L:Bool) (lit:ByteArray) (far len:Int) (w:World) (hg:g<w.heap.size)
 (h2:w.cell? ⟨g,2,none⟩=some (.bool L)) (hl:lit.size ≠ 0) :
 Calls Tryz.prog 172 #[.pointer (some ⟨g,0,none⟩),.agg #[.string lit,.int .i64 far,.int .i64 len]] w fun e w'=>e=.returned (.bool (fits D M L lit far len))/\Below w.heap.size w w':=by
 have hE:=ZW hl;by_cases hf:far=0
 ·have hf':(far == 0)=true:=by simp [hf]
  by_cases hn:len=0
  ·have hn':(len == 0)=true:=by simp [hn]
   have HR:Hid (fits D M L lit far len=!L):=by
    show fits D M L lit far len=!L;unfold fits;rw [if_pos hl]
    cases L <;> simp [hf,hn]
   clear hf hn;go_enter Tryz.func172,Tryz.ntmps172
   go_wp2_with fail
   go_ret
   exact ⟨by rw [HR.out];rfl,(bR _ _).alloc (nl _) _⟩
  ·have hn':(len == 0)=false:=by simp [hn]
   have HR:Hid (fits D M L lit far len=false):=by
    show fits D M L lit far len=false;unfold fits;rw [if_pos hl];simp [hn]
   clear hf hn;go_enter Tryz.func172,Tryz.ntmps172
   go_wp2_with fail
   go_ret
   exact ⟨by rw [HR.out];rfl,(bR _ _).alloc (nl _) _⟩
 ·have hf':(far == 0)=false:=by simp [hf]
  have HR:Hid (fits D M L lit far len=false):=by
   show fits D M L lit far len=false;unfold fits;rw [if_pos hl];simp [hf]
  clear hf;go_enter Tryz.func172,Tryz.ntmps172
  go_wp2_with fail
  go_ret
  exact ⟨by rw [HR.out];rfl,(bR _ _).alloc (nl _) _⟩
theorem ZnM (g:Nat) (D M:Int) (L:Bool) (lit:ByteArray) (far len:Int) (w:World) (hg:g<w.heap.size)
 (h0:w.cell? ⟨g,0,none⟩=some (.int .i64 D)) (h1:w.cell? ⟨g,1,none⟩=some (.int .i64 M))
 (hD0:0<=D) (hD1:D<=256) (hM0:0<=M) (hM1:M<=512) (hl:lit.size=0) :
 Calls Tryz.prog 172 #[.pointer (some ⟨g,0,none⟩),.agg #[.string lit,.int .i64 far,.int .i64 len]] w fun e w'=>e=.returned (.bool (fits D M L lit far len))/\Below w.heap.size w w':=by
 have hE:=Zao hl;have hF:fits D M L lit far len=decide (3<=len/\len<=64/\1<=far/\far<=D+M):=by unfold fits;rw [if_neg (by omega)]
 have hr1:IntKind.i64.wrap (D+M)=D+M:=IntWalk.i64_in _ ⟨by omega,by omega⟩;by_cases a1:3<=len
 ·have b1:decide (3<=len)=true:=by simp;omega
  by_cases a2:len<=64
  ·have b2:decide (len<=64)=true:=by simp;omega
   by_cases a3:1<=far
   ·have b3:decide (1<=far)=true:=by simp;omega
    by_cases a4:far<=D+M
    ·have b4:decide (far<=D+M)=true:=by simp;omega
     have HR:Hid (fits D M L lit far len=true):=by rw [hF];show decide _=true;simp;omega
     clear hF;go_enter Tryz.func172,Tryz.ntmps172
     go_wp2_with fail
     go_quiet (fail)
     go_wp2_with fail
     go_ret
     exact ⟨by rw [HR.out];rfl,below_drewN ((bR _ _).alloc (nl _) _) _⟩
    ·have b4:decide (far<=D+M)=false:=by simp;omega
     have HR:Hid (fits D M L lit far len=false):=by rw [hF];show decide _=false;simp;omega
     clear hF;go_enter Tryz.func172,Tryz.ntmps172
     go_wp2_with fail
     go_quiet (fail)
     go_wp2_with fail
     go_ret
     exact ⟨by rw [HR.out];rfl,below_drewN ((bR _ _).alloc (nl _) _) _⟩
   ·have b3:decide (1<=far)=false:=by simp;omega
    have HR:Hid (fits D M L lit far len=false):=by rw [hF];show decide _=false;simp;omega
    clear hF;go_enter Tryz.func172,Tryz.ntmps172
    go_wp2_with fail
    go_quiet (fail)
    go_wp2_with fail
    go_ret
    exact ⟨by rw [HR.out];rfl,below_drewN ((bR _ _).alloc (nl _) _) _⟩
  ·have b2:decide (len<=64)=false:=by simp;omega
   have HR:Hid (fits D M L lit far len=false):=by rw [hF];show decide _=false;simp;omega
   clear hF;go_enter Tryz.func172,Tryz.ntmps172
   go_wp2_with fail
   go_quiet (fail)
   go_wp2_with fail
   go_ret
   exact ⟨by rw [HR.out];rfl,below_drewN ((bR _ _).alloc (nl _) _) _⟩
 ·have b1:decide (3<=len)=false:=by simp;omega
  have HR:Hid (fits D M L lit far len=false):=by rw [hF];show decide _=false;simp;omega
  clear hF;go_enter Tryz.func172,Tryz.ntmps172
  go_wp2_with fail
  go_quiet (fail)
  go_wp2_with fail
  go_ret
  exact ⟨by rw [HR.out];rfl,below_drewN ((bR _ _).alloc (nl _) _) _⟩
theorem Zqb (g:Nat) (D M:Int) (L:Bool) (lit:ByteArray) (far len:Int) (w:World) (hg:g<w.heap.size)
 (h0:w.cell? ⟨g,0,none⟩=some (.int .i64 D)) (h1:w.cell? ⟨g,1,none⟩=some (.int .i64 M)) (h2:w.cell? ⟨g,2,none⟩=some (.bool L))
 (hD0:0<=D) (hD1:D<=256) (hM0:0<=M) (hM1:M<=512) :
 Calls Tryz.prog 172 #[.pointer (some ⟨g,0,none⟩),.agg #[.string lit,.int .i64 far,.int .i64 len]] w fun e w'=>e=.returned (.bool (fits D M L lit far len))/\Below w.heap.size w w':=by
 by_cases hl:lit.size=0
 ·exact ZnM g D M L lit far len w hg h0 h1 hD0 hD1 hM0 hM1 hl
 ·exact Zph g D M L lit far len w hg h2 hl
def MkAt (w:World) (B g:Nat) (D M:Int) (L:Bool):Prop :=
 B<=g/\g<w.heap.size/\w.cell? ⟨g,0,none⟩=some (.int .i64 D)/\w.cell? ⟨g,1,none⟩=some (.int .i64 M)/\w.cell? ⟨g,2,none⟩=some (.bool L)/\w.frozen? ⟨g,1,none⟩=false/\w.frozen? ⟨g,2,none⟩=false
theorem MkAt.below {w w':World} {B g:Nat} {D M:Int} {L:Bool} (h:MkAt w B g D M L) (hb:Below w.heap.size w w'):MkAt w' B g D M L:=by
 obtain ⟨a,b,c0,c1,c2,f1,f2⟩:=h;exact ⟨a,nT b hb.size,(hb.cell (by exact b)).trans c0,(hb.cell (by exact b)).trans c1,(hb.cell (by exact b)).trans c2,(hb.frozen (by exact b)).trans f1,(hb.frozen (by exact b)).trans f2⟩
theorem MkAt.set2 {w:World} {B g:Nat} {D M:Int} {L:Bool} (h:MkAt w B g D M L) (n:Nat) (M':Int) (L':Bool) :
 MkAt (((w.drewN n).setCell ⟨g,1,none⟩ (.int .i64 M')).setCell ⟨g,2,none⟩ (.bool L')) B g D M' L':=by
 obtain ⟨a,b,c0,c1,c2,f1,f2⟩:=h;have d0:(w.drewN n).cell? ⟨g,0,none⟩=some (.int .i64 D):=c0;have d1:(w.drewN n).cell? ⟨g,1,none⟩=some (.int .i64 M):=c1;have d2:(w.drewN n).cell? ⟨g,2,none⟩=some (.bool L):=c2;refine ⟨a,by simpa [World.setCell] using b,?_,?_,?_,?_,?_⟩
 ·rw [World.cell?_setCell_other _ _ _ _ (by simp),World.cell?_setCell_other _ _ _ _ (by simp)];exact d0
 ·rw [World.cell?_setCell_other _ _ _ _ (by simp)];exact cS _ _ _ d1
 ·refine cS _ _ _ (u:=.bool L) ?_;rw [World.cell?_setCell_other _ _ _ _ (by simp)];exact d2
 ·rw [World.frozen?_setCell,World.frozen?_setCell];exact f1
 ·rw [World.frozen?_setCell,World.frozen?_setCell];exact f2
theorem MkAt.alloc {w:World} {B g:Nat} {D M:Int} {L:Bool} (h:MkAt w B g D M L) (o:Obj):MkAt (w.alloc o) B g D M L:=h.below ((Below.refl _ _).alloc (Nat.le_refl _) o)
theorem ZhG {w:World} {B g:Nat} {D M:Int} {L:Bool} (h:MkAt w B g D M L) (lit:ByteArray) (far len:Int) (hD0:0<=D) (hD1:D<=256) (hM0:0<=M) (hM1:M<=512) :
 Calls Tryz.prog 172 #[.pointer (some ⟨g,0,none⟩),.agg #[.string lit,.int .i64 far,.int .i64 len]] w fun e w'=>e=.returned (.bool (fits D M L lit far len))/\Below w.heap.size w w' :=
 Zqb g D M L lit far len w h.2.1 h.2.2.1 h.2.2.2.1 h.2.2.2.2.1 hD0 hD1 hM0 hM1
theorem Zjt (B g:Nat) (D M:Int) (L:Bool) (lit:ByteArray) (far len:Int) (w:World) (h:MkAt w B g D M L)
 (hD0:0<=D) (hD1:D<=256) (hM0:0<=M) (hM1:M<=512) (hF:fits D M L lit far len=false) :
 Calls Tryz.prog 144 #[.pointer (some ⟨g,0,none⟩),.agg #[.string lit,.int .i64 far,.int .i64 len]] w fun e w'=>e=.returned (.int .i64 1)/\Below w.heap.size w w':=by
 go_enter Tryz.func144,Tryz.ntmps144
 go_wp2_with fail
 refine (ZhG (h.alloc _) lit far len hD0 hD1 hM0 hM1).mono ?_;rintro e w1 ⟨rfl,hb⟩;go_wp2_with fail
 go_ret
 exact ⟨rfl,bch ((bR _ _).alloc (nl _) _) hb (nl _)⟩
theorem Zgm {w w1:World} {x y z:Value} {T:TypeId} (hb:Below (w.alloc (.cells #[x,y,z] T)).heap.size (w.alloc (.cells #[x,y,z] T)) w1) :
 w1.cell? ⟨w.heap.size,0,none⟩=some x/\w1.cell? ⟨w.heap.size,1,none⟩=some y/\w1.cell? ⟨w.heap.size,2,none⟩=some z:=by
 refine ⟨(hb.cell (by simp)).trans ?_,(hb.cell (by simp)).trans ?_,(hb.cell (by simp)).trans ?_⟩ <;> (rw [World.cell?_alloc_mark];rfl)
theorem ZjD (B g:Nat) (D M:Int) (L:Bool) (lit:ByteArray) (far len:Int) (w:World) (h:MkAt w B g D M L)
 (hD0:0<=D) (hD1:D<=256) (hM0:0<=M) (hM1:M<=512) (hlit:lit.size<=140737488355328) (hln:0<=len/\len<=64) (hF:fits D M L lit far len=true) (hbig:512<M+lit.size+len) :
 Calls Tryz.prog 144 #[.pointer (some ⟨g,0,none⟩),.agg #[.string lit,.int .i64 far,.int .i64 len]] w fun e w'=>e=.returned (.int .i64 2)/\Below w.heap.size w w':=by
 obtain ⟨hl0,hl1⟩:=hln;have hs:(lit.size:Int)<=140737488355328:=by omega
 have hr1:IntKind.i64.wrap (M+(lit.size:Int))=M+(lit.size:Int):=IntWalk.i64_in _ ⟨by omega,by omega⟩;have hr2:IntKind.i64.wrap (M+(lit.size:Int)+len)=M+(lit.size:Int)+len:=IntWalk.i64_in _ ⟨by omega,by omega⟩;have hd:decide (512<M+(lit.size:Int)+len)=true:=by simp;omega
 go_enter Tryz.func144,Tryz.ntmps144
 go_wp2_with fail
 refine (ZhG (h.alloc _) lit far len hD0 hD1 hM0 hM1).mono ?_;rintro e w1 ⟨rfl,hb⟩;have hm:=(h.alloc (.cells #[.string lit,.int .i64 far,.int .i64 len] 145)).below hb;obtain ⟨k0,k1,k2⟩:=Zgm hb;have m1:=hm.2.2.2.1;clear hm;go_wp2_with fail
 go_quiet (fail)
 go_wp2_with fail
 go_ret
 exact ⟨rfl,below_drewN (bch ((bR _ _).alloc (nl _) _) hb (nl _)) _⟩
theorem ZqQ (B g:Nat) (D M:Int) (L:Bool) (lit:ByteArray) (far len:Int) (w:World) (h:MkAt w B g D M L)
 (hD0:0<=D) (hD1:D<=256) (hM0:0<=M) (hM1:M<=512) (hln:0<=len/\len<=64) (hF:fits D M L lit far len=true) (hok:M+lit.size+len<=512) :
 Calls Tryz.prog 144 #[.pointer (some ⟨g,0,none⟩),.agg #[.string lit,.int .i64 far,.int .i64 len]] w fun e w'=>e=.returned (.int .i64 0)/\Below B w w'/\MkAt w' B g D (M+lit.size+len) (!lit.toList.isEmpty)/\Hid (∀ k,k<w.heap.size->k ≠ g->w'.heap[k]?=w.heap[k]?):=by
 obtain ⟨hl0,hl1⟩:=hln;have hs:(lit.size:Int)<=512:=by omega
 have hr1:IntKind.i64.wrap (M+(lit.size:Int))=M+(lit.size:Int):=IntWalk.i64_in _ ⟨by omega,by omega⟩;have hr2:IntKind.i64.wrap (M+(lit.size:Int)+len)=M+(lit.size:Int)+len:=IntWalk.i64_in _ ⟨by omega,by omega⟩;have hd:decide (512<M+(lit.size:Int)+len)=false:=by simp;omega
 have hgw:=h.2.1;have hBg:=h.1;go_enter Tryz.func144,Tryz.ntmps144
 go_wp2_with fail
 refine (ZhG (h.alloc _) lit far len hD0 hD1 hM0 hM1).mono ?_;rintro e w1 ⟨rfl,hb⟩;have hm:=(h.alloc (.cells #[.string lit,.int .i64 far,.int .i64 len] 145)).below hb;obtain ⟨k0,k1,k2⟩:=Zgm hb;have HM:Hid (MkAt w1 B g D M L):=hm;obtain ⟨_,m0,m1,m2,m3,m4,m5⟩:=hm;have hne:¬ g=w.heap.size:=by omega
 have hne2:¬ w.heap.size=g:=by omega
 go_wp2_with fail
 go_quiet (fail)
 go_wp2_with fail
 go_ret
 have hB1:Below B w w1:=(((bR _ _).alloc (nl _) _).trans (hb.mono (by simp))).mono (by omega);refine ⟨rfl,((below_drewN hB1 nq).setCell (p:=⟨g,1,none⟩) hBg _).setCell (p:=⟨g,2,none⟩) hBg _,HM.out.set2 nq _ _,fun k hk hkg=>?_⟩;rw [Below.heap_setCell _ _ _ _ (by exact hkg),Below.heap_setCell _ _ _ _ (by exact hkg)];show w1.heap[k]?=_;rw [hb.block k (by simp;omega)];exact Below.heap_alloc _ _ _ hk
theorem Zjg (d:Nat) (s:List UInt8) (p:Bool) (t:Tk.T) (M:Int) (hM:M=(s.length:Int) - d) :
 Tk.err d s p t=if fits d M p t.lit t.far t.len=false then 1 else if 512<M+t.lit.size+t.len then 2 else 0:=by
 unfold Tk.err fits;by_cases h0:t.lit.size ≠ 0
 ·rw [if_pos h0,if_pos h0];by_cases h1:t.far ≠ 0\/t.len ≠ 0\/p=true
  ·rw [if_pos h1,if_pos];simp only [decide_eq_false_iff_not];rintro ⟨a,b,c⟩;rcases h1 with h | h | h
   ·exact h a
   ·exact h b
   ·rw [c] at h;cases h
  ·have ha:t.far=0:=by
    by_cases e:t.far=0
    ·exact e
    ·exact absurd (Or.inl e) h1
   have hb:t.len=0:=by
    by_cases e:t.len=0
    ·exact e
    ·exact absurd (Or.inr (Or.inl e)) h1
   have hc:p=false:=by
    cases p
    ·rfl
    ·exact absurd (Or.inr (Or.inr rfl)) h1
   rw [if_neg h1];rw [if_neg (c:=decide (t.far=0/\t.len=0/\p=false)=false) (by simp [ha,hb,hc])];rw [hb,hM];simp
 ·rw [if_neg h0,if_neg h0];by_cases h1:3<=t.len/\t.len<=64/\1<=t.far/\t.far<=s.length
  ·rw [if_neg (by simpa using h1),if_neg (c:=decide (3<=t.len/\t.len<=64/\1<=t.far/\t.far<=(d:Int)+M)=false) (by simp;omega),hM];have:(t.lit.size:Int)=0:=by omega
   rw [this,Int.add_zero]
  ·rw [if_pos h1,if_pos];simp only [decide_eq_false_iff_not];omega
def TkAt (w:World) (b off:Nat) (l:List Tk.T):Prop :=
 ∀ i (h:i<l.length),w.cell? ⟨b,off+i*3,none⟩=some (.string l[i].lit)/\w.cell? ⟨b,off+i*3+1,none⟩=some (.int .i64 l[i].far)/\w.cell? ⟨b,off+i*3+2,none⟩=some (.int .i64 l[i].len)
def SlAt (w:World) (ad:Option Addr) (l:List Tk.T):Prop:=l=[]\/∃ b off,ad=some ⟨b,off,none⟩/\b<w.heap.size/\TkAt w b off l
theorem SlAt.below {w w':World} {ad:Option Addr} {l:List Tk.T} (h:SlAt w ad l) (hb:Below w.heap.size w w'):SlAt w' ad l:=by
 rcases h with h | ⟨b,off,rfl,hlt,ht⟩
 ·exact .inl h
 ·refine .inr ⟨b,off,rfl,nT hlt hb.size,fun i hi=>?_⟩;have:=ht i hi;rw [hb.cell (by exact hlt),hb.cell (by exact hlt),hb.cell (by exact hlt)];exact this
def Sane (l:List Tk.T):Prop:=l.length<=140737488355328/\∀ t ∈ l,t.lit.size<=140737488355328
def Zl (dict:ByteArray) (l:List Tk.T):Int:=if 256<dict.size then 2 else (Tk.run dict.size dict.data.toList false l).1
theorem ZiQ {D M:Int} {L:Bool} {lit:ByteArray} {far len:Int} (h:fits D M L lit far len=true):0<=len/\len<=64:=by
 unfold fits at h;split at h
 ·have:=of_decide_eq_true h;omega
 ·have:=of_decide_eq_true h;omega
theorem Zla (dict:ByteArray) (ad:Option Addr) (n cap:Nat) (w:World) (hd:256<dict.size) :
 Calls Tryz.prog 118 #[.string dict,.slice ad n cap] w fun e w'=>e=.returned (.int .i64 2)/\Below w.heap.size w w':=by
 have h:decide ((256:Int)<(dict.size:Int))=true:=by simp;omega
 have h':(256:Int)<(dict.size:Int):=by omega
 go_enter Tryz.func118,Tryz.ntmps118
 go_wp2_with fail
 go_ret
 exact ⟨rfl,bR _ _⟩
theorem ZeG (dict:ByteArray) (ad:Option Addr) (cap:Nat) (w:World) (hd:dict.size<=256) :
 Calls Tryz.prog 118 #[.string dict,.slice ad 0 cap] w fun e w'=>e=.returned (.int .i64 0)/\Below w.heap.size w w':=by
 have h:decide ((256:Int)<(dict.size:Int))=false:=by simp;omega
 have h':(dict.size:Int)<=256:=by omega
 go_enter Tryz.func118,Tryz.ntmps118
 go_wp2_with fail
 refine wp_loop_rounds 1 ?_;rw [rounds_succ];go_wp2_with fail
 go_ret
 exact ⟨rfl,(bR _ _).alloc (nl _) _⟩
theorem ZcT (dict:ByteArray) (b off cap:Nat) (l:List Tk.T) (w:World) (hd:dict.size<=256) (hb:b<w.heap.size) (hl:TkAt w b off l) (hs:Sane l) :
 Calls Tryz.prog 118 #[.string dict,.slice (some ⟨b,off,none⟩) l.length cap] w fun e w'=>e=.returned (.int .i64 (Tk.run dict.size dict.data.toList false l).1)/\Below w.heap.size w w':=by
 have h:decide ((256:Int)<(dict.size:Int))=false:=by simp;omega
 have h':(dict.size:Int)<=256:=by omega
 have hn:=hs.1;have hn':(l.length:Int)<=140737488355328:=by omega
 go_enter Tryz.func118,Tryz.ntmps118
 go_wp2_with fail
 go_loopw [17] (fun i wr=>∃ (k:Nat) (s:List UInt8) (p:Bool),k<=l.length/\i=.int .i64 k/\Hid (Tk.run dict.size dict.data.toList false l=Tk.run dict.size s p (l.drop k)) ∧
  dict.size<=s.length/\s.length<=dict.size+512/\MkAt wr w.heap.size w.heap.size dict.size ((s.length:Int) - dict.size) p/\Below w.heap.size w wr)
  (fun i _=>l.length - (intOf i).toNat)
 case atStart =>
  refine ⟨0,dict.data.toList,false,by omega,rfl,rfl,?_,?_,?_,(bR _ _).alloc (nl _) _⟩
  ·simp
  ·simp
  ·have e:((dict.data.toList.length:Int) - dict.size)=0:=by simp
   rw [e];exact ⟨nl _,by simp,by rw [World.cell?_alloc_mark];rfl,by rw [World.cell?_alloc_mark];rfl,by rw [World.cell?_alloc_mark];rfl,by rw [World.frozen?_alloc_mark];simp,by rw [World.frozen?_alloc_mark];simp⟩
 case round =>
  obtain ⟨k,s,p,hk,rfl,hrun,hs1,hs2,hm,G⟩:=hrel;by_cases hlt:k<l.length
  ·have hdrop:l.drop k=l[k] :: l.drop (k+1):=List.drop_eq_getElem_cons hlt;have hef:=Zjg dict.size s p l[k] _ rfl;obtain ⟨c0,c1,c2⟩:=hl k hlt;have hlit:=hs.2 l[k] (gM hlt);rw [<-G.cell (by exact hb)] at c0 c1 c2;generalize l[k]=t at *;have Hm:Hid (MkAt wr w.heap.size w.heap.size dict.size ((s.length:Int) - dict.size) p):=hm;have hM0:0<=(s.length:Int) - dict.size:=by omega
   have hM1:(s.length:Int) - dict.size<=512:=by omega
   have hD0:(0:Int)<=(dict.size:Int):=by omega
   have HE:Hid (Tk.err dict.size s p t=if fits dict.size ((s.length:Int) - dict.size) p t.lit t.far t.len=false then 1 else if 512<(s.length:Int) - dict.size+t.lit.size+t.len then 2 else 0):=hef
   have HR:Hid (Tk.run dict.size dict.data.toList false l=Tk.run dict.size s p (t :: l.drop (k+1))):=by
    show _=_;rw [hrun.out,hdrop]
   have hgs:=G.size;have hgs2:=hm.2.1;clear hm hef hdrop hrun hl hs
   cases hF:fits dict.size ((s.length:Int) - dict.size) p t.lit t.far t.len with
   | false =>
    have HX:Hid ((Tk.run dict.size dict.data.toList false l).1=1):=by
     have he:Tk.err dict.size s p t=1:=by rw [HE.out,if_pos hF]
     show _=_;rw [HR.out,Tk.Zaf (by omega),he]
    go_wp2_with fail
    refine (Zjt w.heap.size w.heap.size dict.size ((s.length:Int) - dict.size) p t.lit t.far t.len _ (Hm.out.alloc _) hD0 h' hM0 hM1 hF).mono ?_;rintro e w1 ⟨rfl,hb1⟩;go_wp2_with fail
    go_ret
    exact ⟨by rw [HX.out];rfl,bch (G.alloc hgs _) hb1 (nl _)⟩
   | true =>
    have hln:=ZiQ hF;by_cases hbig:512<(s.length:Int) - dict.size+t.lit.size+t.len
    ·have HX:Hid ((Tk.run dict.size dict.data.toList false l).1=2):=by
      have he:Tk.err dict.size s p t=2:=by rw [HE.out,if_neg (by rw [hF];simp),if_pos hbig]
      show _=_;rw [HR.out,Tk.Zaf (by omega),he]
     go_wp2_with fail
     refine (ZjD w.heap.size w.heap.size dict.size ((s.length:Int) - dict.size) p t.lit t.far t.len _ (Hm.out.alloc _) hD0 h' hM0 hM1 hlit hln hF hbig).mono ?_;rintro e w1 ⟨rfl,hb1⟩;go_wp2_with fail
     go_ret
     exact ⟨by rw [HX.out];rfl,bch (G.alloc hgs _) hb1 (nl _)⟩
    ·have he:Tk.err dict.size s p t=0:=by rw [HE.out,if_neg (by rw [hF];simp),if_neg hbig]
     have hmk:=Tk.ZbZ he
     have HX:Hid (Tk.run dict.size dict.data.toList false l=Tk.run dict.size (Tk.make s t) (decide (t.lit.size ≠ 0)) (l.drop (k+1))):=by
      show _=_;rw [HR.out,Tk.Zai he]
     have HK:Hid ((Tk.make s t).length=s.length+t.lit.size+t.len.toNat):=hmk.1
     have HD:Hid ((!t.lit.toList.isEmpty)=decide (t.lit.size ≠ 0)):=by
      show _=_;by_cases h0:t.lit.size=0
      ·rw [Zao h0];simp [h0]
      ·rw [ZW h0];simp [h0]
     clear he hmk;go_wp2_with fail
     refine (ZqQ w.heap.size w.heap.size dict.size ((s.length:Int) - dict.size) p t.lit t.far t.len _ (Hm.out.alloc _) hD0 h' hM0 hM1 hln hF (by omega)).mono ?_;rintro e w1 ⟨rfl,hb1,hm1,_⟩;have HM1:Hid (MkAt w1 w.heap.size w.heap.size dict.size ((s.length:Int) - dict.size+t.lit.size+t.len) (!t.lit.toList.isEmpty)):=hm1;clear hm1;go_wp2_with fail
     go_roundw
     case rel =>
      have hk1:=HK.out;refine ⟨k+1,Tk.make s t,decide (t.lit.size ≠ 0),by omega,by go_num,HX,by omega,by omega,?_,(G.alloc hgs _).trans hb1⟩;rw [<-HD.out,show ((Tk.make s t).length:Int) - dict.size=(s.length:Int) - dict.size+t.lit.size+t.len by omega];exact HM1.out
     case measure=>simp [intOf];omega
  ·have HX:Hid ((Tk.run dict.size dict.data.toList false l).1=0):=by
    show _=_;rw [hrun.out,List.drop_eq_nil_of_le (by omega)];rfl
   clear hm hrun hl hs;go_wp2_with fail
   go_ret
   exact ⟨by rw [HX.out];rfl,G⟩
theorem Zgr (dict:ByteArray) (ad:Option Addr) (cap:Nat) (l:List Tk.T) (w:World) (hl:SlAt w ad l) (hs:Sane l) :
 Calls Tryz.prog 118 #[.string dict,.slice ad l.length cap] w fun e w'=>e=.returned (.int .i64 (Zl dict l))/\Below w.heap.size w w':=by
 unfold Zl;by_cases hd:256<dict.size
 ·rw [if_pos hd];exact Zla dict ad _ cap w hd
 ·rw [if_neg hd];rcases hl with rfl | ⟨b,off,rfl,hb,ht⟩
  ·exact ZeG dict ad cap w (by omega)
  ·exact ZcT dict b off cap l w (by omega) hb ht hs
end Go.Proofs.YtbjbjbpgmojcbacGreat
