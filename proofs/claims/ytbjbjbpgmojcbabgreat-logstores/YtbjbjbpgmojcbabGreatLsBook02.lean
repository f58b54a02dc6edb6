/- A part of the proof: what it leans on. -/
import Derived.Lib.AppendStr
import Derived.Test.YtbjbjbpgmojcbabGreatLsBook01
set_option maxRecDepth 4000
set_option maxHeartbeats 4000000
namespace Go.Proofs.YtbjbjbpgmojcbabGreat
open Go.RowKit
def Own8 (w:World) (B:Nat) (v:Value) (l:List UInt8):Prop :=
 (v=.slice none 0 0/\l=[])\/∃ g cap,v=.slice (some ⟨g,0,none⟩) l.length cap/\B<=g/\g<w.heap.size/\l.length<=cap/\cap<=maxLen ∧
  (∀ j b,l[j]?=some b->w.cell? ⟨g,j,none⟩=some (.int .u8 (b.toNat:Int))) ∧
  (∀ j,l.length<=j->j<cap->(w.cell? ⟨g,j,none⟩).isSome=true/\w.frozen? ⟨g,j,none⟩=false)
theorem Own8.nil (w:World) (B:Nat):Own8 w B (.slice none 0 0) []:=.inl ⟨rfl,rfl⟩
theorem ZaZ (g j:Nat):(⟨g,0,none⟩:Addr).add j=⟨g,j,none⟩:=by unfold Addr.add;split <;> simp_all
theorem Own8.kept {w w':World} {B:Nat} {v:Value} {l:List UInt8} (h:Own8 w B v l) (hs:w.heap.size<=w'.heap.size) (hk:∀ g,v.ownBlock=some g->w'.heap[g]?=w.heap[g]?):Own8 w' B v l:=by
 rcases h with h | ⟨g,cap,rfl,h1,h2,h3,h4,h5,h6⟩
 ·exact .inl h
 ·have e:=hk g rfl;refine .inr ⟨g,cap,rfl,h1,by omega,h3,h4,?_,?_⟩
  ·intro j b hj;rw [World.cell?_of_block (w:=w) (by exact e)];exact h5 j b hj
  ·intro j ha hb;rw [World.cell?_of_block (w:=w) (by exact e),World.frozen?_of_block (w:=w) (by exact e)];exact h6 j ha hb
theorem Own8.lt {w:World} {B:Nat} {v:Value} {l:List UInt8} (h:Own8 w B v l):∀ g,v.ownBlock=some g->B<=g/\g<w.heap.size:=by
 intro g hg;rcases h with ⟨rfl,_⟩ | ⟨g',cap,rfl,h1,h2,_⟩
 ·simp [Value.ownBlock] at hg
 ·simp [Value.ownBlock] at hg;subst hg;exact ⟨h1,h2⟩
theorem Own8.below {w w':World} {B:Nat} {v:Value} {l:List UInt8} (h:Own8 w B v l) (hb:Below w.heap.size w w'):Own8 w' B v l :=
 h.kept hb.size (fun g hg=>hb.block g (h.lt g hg).2)
theorem Own8.alloc {w:World} {B:Nat} {v:Value} {l:List UInt8} (h:Own8 w B v l) (o:Obj):Own8 (w.alloc o) B v l :=
 h.below ((bR _ _).alloc (nl _) o)
theorem Own8.drew {w:World} {B:Nat} {v:Value} {l:List UInt8} (h:Own8 w B v l):Own8 w.drew B v l:=h.below (Below.refl _ _).drew
theorem Own8.of_row {w:World} {B B' n:Nat} {v:Value} {l:List UInt8} (h:w.ownsRow B' 5 1 v n (bcs l)) (hB:B<=B'):Own8 w B v l:=by
 have hlen:=h.1;rw [Zae,Nat.mul_one] at hlen;rcases h.2 with ⟨rfl,h0⟩ | ⟨g,cap,cur,rfl,hb,hg,hnc,hcm,hcs,htk⟩
 ·exact .inl ⟨rfl,List.eq_nil_of_length_eq_zero (by omega)⟩
 ·subst hlen;rw [Nat.mul_one] at htk hcs;refine .inr ⟨g,cap,rfl,by omega,(aG.1 hg).1,hnc,hcm,?_,?_⟩
  ·intro j b hj;have hj2:j<l.length:=(List.getElem?_eq_some_iff.1 hj).1;rw [cell_of_row w g j cur _ _ hg]
   have:(cur.toList.take l.length)[j]?=some (.int .u8 (b.toNat:Int)):=by
    rw [htk];simp [bcs,hj]
   rw [List.getElem?_take,if_pos hj2] at this;simpa using this
  ·intro j ha hb2;rw [cell_of_row w g j cur _ _ hg];refine ⟨?_,?_⟩
   ·rw [Array.getElem?_eq_getElem (by omega)];rfl
   ·simp [World.frozen?,hg]
theorem Own8.of_string (w:World) (s:ByteArray) (hs:s.size<=140737488355328) (B:Nat) (hB:B<=w.heap.size) :
 ∃ v w',(convert 9 93 (.string s)).run Tryz.prog w=.ok v w'/\Own8 w' B v s.data.toList/\Below w.heap.size w w'/\v ≠ .slice none 0 0/\(∀ g,v.ownBlock=some g->w.heap.size<=g):=by
 refine ⟨_,_,run_bytes_of_string w _ _ _ s U9 U93 U5,?_,?_,by simp,fun g hg=>by simp [Value.ownBlock] at hg;omega⟩
 ·have hge:=grownCap_ge w s.size 0 5;have hcm:grownCap w s.size 0 5<=maxLen:=grownCap_le_maxLen w s.size 0 _ (ZaK hs)
  have hrs:(bytesRow s (grownCap w s.size 0 5)).size=grownCap w s.size 0 5:=by
   simp [bytesRow];have:s.data.size=s.size:=rfl;omega
  have hlen:s.data.toList.length=s.size:=by simp
  refine .inr ⟨w.heap.size,grownCap w s.size 0 5,by rw [hlen],hB,by simp,by omega,hcm,?_,?_⟩
  ·intro j b hj;have hj2:j<s.data.toList.length:=(List.getElem?_eq_some_iff.1 hj).1;show ((w.drew).alloc _).cell? ⟨w.drew.heap.size,j,none⟩=_;rw [World.cell?_alloc_mark];have hjs:j<s.data.size:=by simpa using hj2
   rw [bytesRow_at s _ j hjs]
   have:s.data[j]=b:=by
    rw [List.getElem?_eq_getElem hj2] at hj;simpa using hj
   rw [this]
  ·intro j ha hb;constructor
   ·show (((w.drew).alloc _).cell? ⟨w.drew.heap.size,j,none⟩).isSome=true;rw [World.cell?_alloc_mark,Array.getElem?_eq_getElem (by omega)];rfl
   ·show ((w.drew).alloc _).frozen? ⟨w.drew.heap.size,j,none⟩=false;rw [World.frozen?_alloc_mark];simp;omega
 ·exact ((bR _ w).drew).alloc (nl _) _
structure App (w w':World) (B:Nat) (v v':Value) (l':List UInt8):Prop where
 own:Own8 w' B v' l'
 below:Below B w w'
 block:∀ g,g<w.heap.size->some g ≠ v.ownBlock->w'.heap[g]?=w.heap[g]?
 at_:∀ g,v'.ownBlock=some g->v.ownBlock=some g\/w.heap.size<=g
 some_:v ≠ .slice none 0 0->v' ≠ .slice none 0 0
theorem App.cell {w w':World} {B:Nat} {v v':Value} {l':List UInt8} (h:App w w' B v v' l') {g o:Nat} (hg:g<w.heap.size) (hne:some g ≠ v.ownBlock):w'.cell? ⟨g,o,none⟩=w.cell? ⟨g,o,none⟩ :=
 cB (w:=w) (h.block g hg hne)
theorem Own8.form {w:World} {B:Nat} {v:Value} {l:List UInt8} (h:Own8 w B v l) (hv:v ≠ .slice none 0 0) :
 ∃ g cap,v=.slice (some ⟨g,0,none⟩) l.length cap/\B<=g/\g<w.heap.size/\l.length<=cap/\cap<=maxLen/\(∀ j b,l[j]?=some b->w.cell? ⟨g,j,none⟩=some (.int .u8 (b.toNat:Int))):=by
 rcases h with ⟨h,_⟩ | ⟨g,cap,h0,h1,h2,h3,h4,h5,_⟩
 ·exact absurd h hv
 ·exact ⟨g,cap,h0,h1,h2,h3,h4,h5⟩
theorem ZoB {w:World} {base n:Nat} {e:TypeId} {v:Value} {xs:List Value} (h:w.ownsRow base e 1 v n xs):∀ g,v.ownBlock=some g->base<=g:=fun g hg=>(h.lt g hg).1
theorem Zif {w:World} {B:Nat} {v:Value} {l:List UInt8} (h:Own8 w B v l) (ty:TypeId) (b:UInt8) (ad:Addr) (c:Nat) (hx:w.cell? ad=some (.int .u8 (b.toNat:Int))) (hlen:l.length+1<=140737488355328) (hB:B<=w.heap.size) (hz:ad.spot=none) :
 ∃ v' w',(Builtin.append_ #[93,93] ty #[v,.slice (some ad) 1 c]).run Tryz.prog w=.ok v' w'/\App w w' B v v' (l++[b]):=by
 obtain ⟨i0,hi,hz0,hz1,hz2⟩:=info_parts Zct
 have hnews:∀ j u,[Value.int .u8 (b.toNat:Int)][j]?=some u->w.cell? (ad.add j)=some u:=by
  intro j u hj
  cases j with
  | zero =>
   simp at hj;subst hj;have:ad.add 0=ad:=by obtain ⟨a1,a2,a3⟩:=ad;simp at hz;subst hz;unfold Addr.add;split <;> simp_all
   rw [this];exact hx
  | succ j=>simp at hj
 rcases h with ⟨rfl,rfl⟩ | ⟨g,cap,rfl,h1,h2,h3,h4,h5,h6⟩
 ·obtain ⟨v',w',hr,ho,hg,_⟩:=run_append_own (P:=Tryz.prog) w w.heap.size 93 ty 5 i0 (.int .u8 0) 1 1 U93 hi hz0 hz1 hz2 rfl (by decide) _ 0 [] (World.ownsRow_nil w w.heap.size 5 1) ad 1 c [.int .u8 (b.toNat:Int)] rfl hnews (ZdO _) (ZaK (by omega)) (by omega) (nl _);exact ⟨v',w',hr,Own8.of_row (l:=[b]) (by simpa [bcs] using ho) hB,(bR _ _).grown hg hB (by simp [Value.ownBlock]),fun k hk hne=>hg.block k hk hne,fun g hg2=>Or.inr (ZoB ho g hg2),fun h=>absurd rfl h⟩
 ·by_cases hroom:l.length+1<=cap
  ·have hr:=run_append_room_cells (P:=Tryz.prog) w 93 ty 5 i0 U93 hi g 0 l.length cap ad 1 c [.int .u8 (b.toNat:Int)] (by rw [hz1];rfl) hnews (ZdO _) hroom
    (fun j hj=>by have:j=0:=(by simpa using hj);subst this;rw [hz1];simpa using (h6 l.length (nl _) (by omega)).1)
    (fun j hj=>by have:j=0:=(by simpa using hj);subst this;rw [hz1];simpa using (h6 l.length (nl _) (by omega)).2)
   rw [hz1] at hr;simp only [Nat.zero_add,Nat.mul_one] at hr;refine ⟨_,_,hr,.inr ⟨g,cap,by simp,h1,?_,by simp;omega,h4,?_,?_⟩,?_,?_,fun g' hg'=>Or.inl hg',by simp⟩
   ·simp [World.setCells,World.setCell];exact h2
   ·intro j u hj;by_cases hjl:j<l.length
    ·rw [List.getElem?_append_left hjl] at hj;rw [World.cell?_setCells_out _ _ _ _ _ (by intro _ _;left;exact hjl)];exact h5 j u hj
    ·have hjl2:j<l.length+1:=by
      have:=(List.getElem?_eq_some_iff.1 hj).1;simpa using this
     obtain rfl:j=l.length:=by omega
     rw [List.getElem?_append_right (Nat.le_refl _),Nat.sub_self] at hj;simp at hj;subst hj
     have:=World.cell?_setCells_in g [.int .u8 (b.toNat:Int)] l.length w (fun j hj=>by
      have:j=0:=by simpa using hj
      subst this
      exact (h6 l.length (nl _) (by omega)).1) 0 (by simp)
     simpa using this
   ·intro j ha hb;simp only [List.length_append,List.length_singleton] at ha;rw [World.cell?_setCells_out _ _ _ _ _ (by intro _ _;right;simp;omega),World.frozen?_setCells];exact h6 j (by omega) hb
   ·simp only [World.setCells];exact (bR _ _).setCell (p:=⟨g,l.length,none⟩) h1 _
   ·intro k hk hne;simp only [World.setCells];exact zhS _ _ _ _ (fun e=>hne (by simp [Value.ownBlock,e]))
  ·obtain ⟨v',w',hr,ho,hg⟩:=run_append_arg_grows (P:=Tryz.prog) w 93 ty 5 i0 (.int .u8 0) 1 1 U93 hi hz0 hz1 hz2 rfl (by decide) ⟨g,0,none⟩ l.length cap (bcs l) (by rw [Zae,Nat.mul_one])
    (fun j u hj=>by
     simp only [bcs,List.getElem?_map,Option.map_eq_some_iff] at hj;obtain ⟨b',hb',rfl⟩:=hj;rw [ZaZ]
     exact h5 j b' hb') ad 1 c [.int .u8 (b.toNat:Int)] rfl hnews (by omega) (ZaK (by omega)) (by omega)
   refine ⟨v',w',hr,Own8.of_row (l:=l++[b]) (n:=l.length+1) (by rw [ZbV];exact ho) hB,(bR _ _).grown hg hB (by simp),fun k hk _=>hg.block k hk (by simp),fun g hg2=>Or.inr (ZoB ho g hg2),fun _ e=>?_⟩;subst e;rcases ho.2 with ⟨_,h0⟩ | ⟨g',cap',cur',h0,_⟩
   ·omega
   ·simp at h0
theorem ZdI (s:ByteArray):Lib.strCells s=bcs s.data.toList:=rfl
theorem Zhn {w:World} {B:Nat} {v:Value} {l:List UInt8} (h:Own8 w B v l) (ty:TypeId) (s:ByteArray) (hlen:l.length+s.size<=140737488355328) (hB:B<=w.heap.size) :
 ∃ v' w',(Builtin.append_ #[93,9] ty #[v,.string s]).run Tryz.prog w=.ok v' w'/\App w w' B v v' (l++s.data.toList):=by
 obtain ⟨i0,hi,hz0,hz1,hz2⟩:=info_parts Zct;have hsl:s.data.toList.length=s.size:=by simp
 rcases h with ⟨rfl,rfl⟩ | ⟨g,cap,rfl,h1,h2,h3,h4,h5,h6⟩
 ·obtain ⟨v',w',hr,ho,hg,_⟩:=Lib.run_append_own_string (P:=Tryz.prog) w w.heap.size 93 9 ty 5 i0 U93 U9 hi hz0 hz1 hz2 _ 0 [] (World.ownsRow_nil w w.heap.size 5 1) s (ZaK (by simpa using hlen)) (by simpa using hlen) (nl _);exact ⟨v',w',hr,Own8.of_row (l:=s.data.toList) (by rw [<-ZdI];exact ho) hB,(bR _ _).grown hg hB (by simp [Value.ownBlock]),fun k hk hne=>hg.block k hk hne,fun g hg2=>Or.inr (ZoB ho g hg2),fun h=>absurd rfl h⟩
 ·by_cases hroom:l.length+s.size<=cap
  ·have hf:=Lib.run_firstCells_string (P:=Tryz.prog) w 1 s;have hst:=run_storeCells_cells (P:=Tryz.prog) g l.length (Lib.strCells s) 0 w
    (fun j hj=>by rw [Lib.strCells_length] at hj;exact (h6 _ (by omega) (by omega)).1)
    (fun j hj=>by rw [Lib.strCells_length] at hj;exact (h6 _ (by omega) (by omega)).2) (Lib.strCells_oneCell s)
   simp only [Nat.add_zero] at hst
   have hr:(Builtin.append_ #[93,9] ty #[.slice (some ⟨g,0,none⟩) l.length cap,.string s]).run Tryz.prog w=.ok (.slice (some ⟨g,0,none⟩) (l.length+s.size) cap) (w.setCells g l.length (Lib.strCells s)):=by
    simp [Builtin.append_,run_underlying Tryz.underlying93,run_underlying Tryz.underlying9,sizeOf,typeInfo,hi,hz1,Builtin.lenOf,hroom,hf,Addr.add_lit,hst]
   have hsize:∀ (vs:List Value) (o:Nat) (w:World),(w.setCells g o vs).heap.size=w.heap.size:=by
    intro vs
    induction vs with
    | nil=>intro o w;rfl
    | cons a vs ih=>intro o w;rw [World.setCells,ih];simp [World.setCell]
   have hblk:∀ (vs:List Value) (o:Nat) (w:World) (k:Nat),k ≠ g->(w.setCells g o vs).heap[k]?=w.heap[k]?:=by
    intro vs
    induction vs with
    | nil=>intro o w k _;rfl
    | cons a vs ih=>intro o w k hk;rw [World.setCells,ih _ _ _ hk];exact zhS _ _ _ _ hk
   have hbel:∀ (vs:List Value) (o:Nat) (a w:World),Below B a w->Below B a (w.setCells g o vs):=by
    intro vs
    induction vs with
    | nil=>intro o a w h;exact h
    | cons x vs ih=>intro o a w h;rw [World.setCells];exact ih _ _ _ (h.setCell (p:=⟨g,o,none⟩) h1 _)
   refine ⟨_,_,hr,.inr ⟨g,cap,by simp,h1,?_,by simp;omega,h4,?_,?_⟩,hbel _ _ _ _ (bR _ _),?_,fun g' hg'=>Or.inl hg',by simp⟩
   ·rw [hsize];exact h2
   ·intro j u hj;by_cases hjl:j<l.length
    ·rw [List.getElem?_append_left hjl] at hj;rw [World.cell?_setCells_out _ _ _ _ _ (by intro _ _;left;exact hjl)];exact h5 j u hj
    ·rw [List.getElem?_append_right (by omega)] at hj
     have hj2:j - l.length<(Lib.strCells s).length:=by
      rw [Lib.strCells_length];have:=(List.getElem?_eq_some_iff.1 hj).1;omega
     have hin:=World.cell?_setCells_in g (Lib.strCells s) l.length w (fun j hj=>by
      rw [Lib.strCells_length] at hj
      exact (h6 _ (by omega) (by omega)).1) (j - l.length) hj2
     rw [show l.length+(j - l.length)=j by omega] at hin;rw [hin];have:(Lib.strCells s)[j - l.length]?=some (.int .u8 (u.toNat:Int)):=by simp [Lib.strCells,hj]
     rw [List.getElem?_eq_getElem hj2] at this;exact this
   ·intro j ha hb;simp only [List.length_append,hsl] at ha;rw [World.cell?_setCells_out _ _ _ _ _ (by intro _ _;right;rw [Lib.strCells_length];omega),World.frozen?_setCells];exact h6 j (by omega) hb
   ·intro k hk hne;exact hblk _ _ _ _ (fun e=>hne (by simp [Value.ownBlock,e]))
  ·have hr:=Lib.run_append_grow_string (P:=Tryz.prog) w 93 9 ty 5 i0 (.int .u8 0) U93 U9 hi hz0 ⟨g,0,none⟩ l.length cap (bcs l) (by rw [Zae,hz1,Nat.mul_one])
    (fun j u hj=>by
     simp only [bcs,List.getElem?_map,Option.map_eq_some_iff] at hj;obtain ⟨b',hb',rfl⟩:=hj;rw [ZaZ]
     exact h5 j b' hb') s (by omega) (by omega) (by rw [hz2];exact growslice_fits (by omega) (by omega))
   have hge:=grownCap_ge w (l.length+s.size) cap 5;have hcm:grownCap w (l.length+s.size) cap 5<=maxLen:=grownCap_le_maxLen w (l.length+s.size) cap _ (ZaK hlen);refine ⟨_,_,hr,Own8.of_row (B':=w.heap.size) (n:=l.length+s.size) ⟨?_,.inr ⟨w.heap.size,_,_,rfl,nl _,heap_alloc_new w.drew _,hge,hcm,?_,?_⟩⟩ hB,?_,?_,fun g' hg'=>by simp [Value.ownBlock] at hg';omega,by simp⟩
   ·rw [Zae];simp
   ·have hz1':(Value.int IntKind.u8 0).cells.size=1:=rfl;simp only [Array.size_append,List.size_toArray,size_zeroCells,hz1',Zae,Lib.strCells_length];omega
   ·simp only [Array.toList_append,List.append_assoc];rw [<-List.append_assoc,ZdI];have:(l.length+s.size)*1=(bcs l++bcs s.data.toList).length:=by rw [List.length_append,Zae,Zae,hsl];omega
    rw [this,ZbV];exact List.take_left
   ·exact ((bR B w).drew).alloc (by exact hB) _
   ·intro k hk _;exact Below.heap_alloc w.drew _ k hk
theorem Own8.conv {w:World} {l:List UInt8} {g:Nat} (h:∀ j b,l[j]?=some b->w.cell? ⟨g,j,none⟩=some (.int .u8 (b.toNat:Int))) (d c:Nat) :
 (convert 93 9 (.slice (some ⟨g,d,none⟩) (l.length - d) c)).run Tryz.prog w=.ok (.string ⟨(l.drop d).toArray⟩) w:=by
 have e:l.length - d=(l.drop d).length:=by simp
 rw [e];refine run_convert_bytes_back w _ _ _ ⟨g,d,none⟩ c (l.drop d) U93 U5 U9 (fun j hj=>?_);have ha:(⟨g,d,none⟩:Addr).add j=⟨g,d+j,none⟩:=by unfold Addr.add;split <;> simp_all
 rw [ha];refine h (d+j) _ ?_;rw [<-List.getElem?_drop,List.getElem?_eq_getElem hj]
section
variable {ops:Array Oper} {rest:List Oper} {o:Oper} {a:Act} {Q:Exit->Act->World->Prop}
theorem ZkS (w:World) (hgd:o.guard=none) (s x:Operand) (ho:o.op=.call { callee:=.builtin .append,args:=#[s,x],argTypes:=#[93,93] })
 (B:Nat) (v:Value) (l:List UInt8) (hs:a.eval s=v) (h:Own8 w B v l) (b:UInt8) (g c:Nat) (hx:a.eval x=.slice (some ⟨g,0,none⟩) 1 c) (hc:w.cell? ⟨g,0,none⟩=some (.int .u8 (b.toNat:Int)))
 (hlen:l.length+1<=140737488355328) (hB:B<=w.heap.size)
 (hK:∀ v' w',App w w' B v v' (l++[b])->wpList Tryz.prog ops Q rest (a.put o.dst v') w'):wpList Tryz.prog ops Q (o :: rest) a w:=by
 refine wpList_plain hgd fun K hK'=>?_
 obtain ⟨v',w',hr,r1⟩:=Zif h o.type b ⟨g,0,none⟩ c hc hlen hB rfl;unfold Oper.wp execOp;simp only [ho,resolve,invoke,builtin,Sem.run_bind,Sem.run_pure,Result.andThen_ok,List.map_toArray,List.map_cons,List.map_nil,hs,hx,hr];exact hK' _ _ (hK v' w' r1)
theorem Zco (w:World) (hgd:o.guard=none) (sl x:Operand) (ho:o.op=.call { callee:=.builtin .append,args:=#[sl,x],argTypes:=#[93,9] })
 (B:Nat) (v:Value) (l:List UInt8) (hs:a.eval sl=v) (h:Own8 w B v l) (s:ByteArray) (hx:a.eval x=.string s)
 (hlen:l.length+s.size<=140737488355328) (hB:B<=w.heap.size)
 (hK:∀ v' w',App w w' B v v' (l++s.data.toList)->wpList Tryz.prog ops Q rest (a.put o.dst v') w'):wpList Tryz.prog ops Q (o :: rest) a w:=by
 refine wpList_plain hgd fun K hK'=>?_
 obtain ⟨v',w',hr,r1⟩:=Zhn h o.type s hlen hB;unfold Oper.wp execOp;simp only [ho,resolve,invoke,builtin,Sem.run_bind,Sem.run_pure,Result.andThen_ok,List.map_toArray,List.map_cons,List.map_nil,hs,hx,hr];exact hK' _ _ (hK v' w' r1)
end
theorem ZhM (s:ByteArray):s.toList.isEmpty=true ↔ s.size=0:=by
 rw [Lib.toList_data,List.isEmpty_iff_length_eq_zero];have:s.data.toList.length=s.size:=by simp
 rw [this]
theorem Zaq {s:ByteArray} (h:s.size=0):s.toList.isEmpty=true:=(ZhM s).2 h
theorem ZX {s:ByteArray} (h:s.size ≠ 0):s.toList.isEmpty=false:=by
 cases e:s.toList.isEmpty with
 | false=>rfl
 | true=>exact absurd ((ZhM s).1 e) h
def fits (D M:Int) (L:Bool) (lit:ByteArray) (far len:Int):Bool :=
 if lit.size ≠ 0 then decide (far=0/\len=0/\L=false) else decide (3<=len/\len<=64/\1<=far/\far<=D+M)
theorem Zqh (g:Nat) (D M:Int) (L:Bool) (lit:ByteArray) (far len:Int) (w:World) (hg:g<w.heap.size)
 (h2:w.cell? ⟨g,2,none⟩=some (.bool L)) (hl:lit.size ≠ 0) :
 Calls Tryz.prog 206 #[.pointer (some ⟨g,0,none⟩),.agg #[.string lit,.int .i64 far,.int .i64 len]] w fun e w'=>e=.returned (.bool (fits D M L lit far len))/\Below w.heap.size w w':=by
 have hE:=ZX hl;by_cases hf:far=0
 ·have hf':(far == 0)=true:=by simp [hf]
  by_cases hn:len=0
  ·have hn':(len == 0)=true:=by simp [hn]
   have HR:Hid (fits D M L lit far len=!L):=by
    show fits D M L lit far len=!L;unfold fits;rw [if_pos hl]
    cases L <;> simp [hf,hn]
   clear hf hn;go_enter Tryz.func206,Tryz.ntmps206
   go_wp2_with fail
   go_ret
   exact ⟨by rw [HR.out];rfl,(bR _ _).alloc (nl _) _⟩
  ·have hn':(len == 0)=false:=by simp [hn]
   have HR:Hid (fits D M L lit far len=false):=by
    show fits D M L lit far len=false;unfold fits;rw [if_pos hl];simp [hn]
   clear hf hn;go_enter Tryz.func206,Tryz.ntmps206
   go_wp2_with fail
   go_ret
   exact ⟨by rw [HR.out];rfl,(bR _ _).alloc (nl _) _⟩
 ·have hf':(far == 0)=false:=by simp [hf]
  have HR:Hid (fits D M L lit far len=false):=by
   show fits D M L lit far len=false;unfold fits;rw [if_pos hl];simp [hf]
  clear hf;go_enter Tryz.func206,Tryz.ntmps206
  go_wp2_with fail
  go_ret
  exact ⟨by rw [HR.out];rfl,(bR _ _).alloc (nl _) _⟩
theorem Zny (g:Nat) (D M:Int) (L:Bool) (lit:ByteArray) (far len:Int) (w:World) (hg:g<w.heap.size)
 (h0:w.cell? ⟨g,0,none⟩=some (.int .i64 D)) (h1:w.cell? ⟨g,1,none⟩=some (.int .i64 M))
 (hD0:0<=D) (hD1:D<=256) (hM0:0<=M) (hM1:M<=512) (hl:lit.size=0) :
 Calls Tryz.prog 206 #[.pointer (some ⟨g,0,none⟩),.agg #[.string lit,.int .i64 far,.int .i64 len]] w fun e w'=>e=.returned (.bool (fits D M L lit far len))/\Below w.heap.size w w':=by
 have hE:=Zaq hl;have hF:fits D M L lit far len=decide (3<=len/\len<=64/\1<=far/\far<=D+M):=by unfold fits;rw [if_neg (by omega)]
 have hr1:IntKind.i64.wrap (D+M)=D+M:=IntWalk.i64_in _ ⟨by omega,by omega⟩;by_cases a1:3<=len
 ·have b1:decide (3<=len)=true:=by simp;omega
  by_cases a2:len<=64
  ·have b2:decide (len<=64)=true:=by simp;omega
   by_cases a3:1<=far
   ·have b3:decide (1<=far)=true:=by simp;omega
    by_cases a4:far<=D+M
    ·have b4:decide (far<=D+M)=true:=by simp;omega
     have HR:Hid (fits D M L lit far len=true):=by rw [hF];show decide _=true;simp;omega
     clear hF;go_enter Tryz.func206,Tryz.ntmps206
     go_wp2_with fail
     go_quiet (fail)
     go_wp2_with fail
     go_ret
     exact ⟨by rw [HR.out];rfl,below_drewN ((bR _ _).alloc (nl _) _) _⟩
    ·have b4:decide (far<=D+M)=false:=by simp;omega
     have HR:Hid (fits D M L lit far len=false):=by rw [hF];show decide _=false;simp;omega
     clear hF;go_enter Tryz.func206,Tryz.ntmps206
     go_wp2_with fail
     go_quiet (fail)
     go_wp2_with fail
     go_ret
     exact ⟨by rw [HR.out];rfl,below_drewN ((bR _ _).alloc (nl _) _) _⟩
   ·have b3:decide (1<=far)=false:=by simp;omega
    have HR:Hid (fits D M L lit far len=false):=by rw [hF];show decide _=false;simp;omega
    clear hF;go_enter Tryz.func206,Tryz.ntmps206
    go_wp2_with fail
    go_quiet (fail)
    go_wp2_with fail
    go_ret
    exact ⟨by rw [HR.out];rfl,below_drewN ((bR _ _).alloc (nl _) _) _⟩
  ·have b2:decide (len<=64)=false:=by simp;omega
   have HR:Hid (fits D M L lit far len=false):=by rw [hF];show decide _=false;simp;omega
   clear hF;go_enter Tryz.func206,Tryz.ntmps206
   go_wp2_with fail
   go_quiet (fail)
   go_wp2_with fail
   go_ret
   exact ⟨by rw [HR.out];rfl,below_drewN ((bR _ _).alloc (nl _) _) _⟩
 ·have b1:decide (3<=len)=false:=by simp;omega
  have HR:Hid (fits D M L lit far len=false):=by rw [hF];show decide _=false;simp;omega
  clear hF;go_enter Tryz.func206,Tryz.ntmps206
  go_wp2_with fail
  go_quiet (fail)
  go_wp2_with fail
  go_ret
  exact ⟨by rw [HR.out];rfl,below_drewN ((bR _ _).alloc (nl _) _) _⟩
theorem ZqC (g:Nat) (D M:Int) (L:Bool) (lit:ByteArray) (far len:Int) (w:World) (hg:g<w.heap.size)
 (h0:w.cell? ⟨g,0,none⟩=some (.int .i64 D)) (h1:w.cell? ⟨g,1,none⟩=some (.int .i64 M)) (h2:w.cell? ⟨g,2,none⟩=some (.bool L))
 (hD0:0<=D) (hD1:D<=256) (hM0:0<=M) (hM1:M<=512) :
 Calls Tryz.prog 206 #[.pointer (some ⟨g,0,none⟩),.agg #[.string lit,.int .i64 far,.int .i64 len]] w fun e w'=>e=.returned (.bool (fits D M L lit far len))/\Below w.heap.size w w':=by
 by_cases hl:lit.size=0
 ·exact Zny g D M L lit far len w hg h0 h1 hD0 hD1 hM0 hM1 hl
 ·exact Zqh g D M L lit far len w hg h2 hl
def MkAt (w:World) (B g:Nat) (D M:Int) (L:Bool):Prop :=
 B<=g/\g<w.heap.size/\w.cell? ⟨g,0,none⟩=some (.int .i64 D)/\w.cell? ⟨g,1,none⟩=some (.int .i64 M)/\w.cell? ⟨g,2,none⟩=some (.bool L)/\w.frozen? ⟨g,1,none⟩=false/\w.frozen? ⟨g,2,none⟩=false
theorem MkAt.below {w w':World} {B g:Nat} {D M:Int} {L:Bool} (h:MkAt w B g D M L) (hb:Below w.heap.size w w'):MkAt w' B g D M L:=by
 obtain ⟨a,b,c0,c1,c2,f1,f2⟩:=h;exact ⟨a,nT b hb.size,(hb.cell (by exact b)).trans c0,(hb.cell (by exact b)).trans c1,(hb.cell (by exact b)).trans c2,(hb.frozen (by exact b)).trans f1,(hb.frozen (by exact b)).trans f2⟩
theorem MkAt.set2 {w:World} {B g:Nat} {D M:Int} {L:Bool} (h:MkAt w B g D M L) (n:Nat) (M':Int) (L':Bool) :
 MkAt (((w.drewN n).setCell ⟨g,1,none⟩ (.int .i64 M')).setCell ⟨g,2,none⟩ (.bool L')) B g D M' L':=by
 obtain ⟨a,b,c0,c1,c2,f1,f2⟩:=h;have d0:(w.drewN n).cell? ⟨g,0,none⟩=some (.int .i64 D):=c0;have d1:(w.drewN n).cell? ⟨g,1,none⟩=some (.int .i64 M):=c1;have d2:(w.drewN n).cell? ⟨g,2,none⟩=some (.bool L):=c2;refine ⟨a,by simpa [World.setCell] using b,?_,?_,?_,?_,?_⟩
 ·rw [World.cell?_setCell_other _ _ _ _ (by simp),World.cell?_setCell_other _ _ _ _ (by simp)];exact d0
 ·rw [World.cell?_setCell_other _ _ _ _ (by simp)];exact cS _ _ _ d1
 ·refine cS _ _ _ (u:=.bool L) ?_;rw [World.cell?_setCell_other _ _ _ _ (by simp)];exact d2
 ·rw [World.frozen?_setCell,World.frozen?_setCell];exact f1
 ·rw [World.frozen?_setCell,World.frozen?_setCell];exact f2
theorem MkAt.alloc {w:World} {B g:Nat} {D M:Int} {L:Bool} (h:MkAt w B g D M L) (o:Obj):MkAt (w.alloc o) B g D M L:=h.below ((Below.refl _ _).alloc (Nat.le_refl _) o)
theorem ZhY {w:World} {B g:Nat} {D M:Int} {L:Bool} (h:MkAt w B g D M L) (lit:ByteArray) (far len:Int) (hD0:0<=D) (hD1:D<=256) (hM0:0<=M) (hM1:M<=512) :
 Calls Tryz.prog 206 #[.pointer (some ⟨g,0,none⟩),.agg #[.string lit,.int .i64 far,.int .i64 len]] w fun e w'=>e=.returned (.bool (fits D M L lit far len))/\Below w.heap.size w w' :=
 ZqC g D M L lit far len w h.2.1 h.2.2.1 h.2.2.2.1 h.2.2.2.2.1 hD0 hD1 hM0 hM1
theorem ZjC (B g:Nat) (D M:Int) (L:Bool) (lit:ByteArray) (far len:Int) (w:World) (h:MkAt w B g D M L)
 (hD0:0<=D) (hD1:D<=256) (hM0:0<=M) (hM1:M<=512) (hF:fits D M L lit far len=false) :
 Calls Tryz.prog 178 #[.pointer (some ⟨g,0,none⟩),.agg #[.string lit,.int .i64 far,.int .i64 len]] w fun e w'=>e=.returned (.int .i64 1)/\Below w.heap.size w w':=by
 go_enter Tryz.func178,Tryz.ntmps178
 go_wp2_with fail
 refine (ZhY (h.alloc _) lit far len hD0 hD1 hM0 hM1).mono ?_;rintro e w1 ⟨rfl,hb⟩;go_wp2_with fail
 go_ret
 exact ⟨rfl,bch ((bR _ _).alloc (nl _) _) hb (nl _)⟩
theorem ZgI {w w1:World} {x y z:Value} {T:TypeId} (hb:Below (w.alloc (.cells #[x,y,z] T)).heap.size (w.alloc (.cells #[x,y,z] T)) w1) :
 w1.cell? ⟨w.heap.size,0,none⟩=some x/\w1.cell? ⟨w.heap.size,1,none⟩=some y/\w1.cell? ⟨w.heap.size,2,none⟩=some z:=by
 refine ⟨(hb.cell (by simp)).trans ?_,(hb.cell (by simp)).trans ?_,(hb.cell (by simp)).trans ?_⟩ <;> (rw [World.cell?_alloc_mark];rfl)
theorem Zjx (B g:Nat) (D M:Int) (L:Bool) (lit:ByteArray) (far len:Int) (w:World) (h:MkAt w B g D M L)
 (hD0:0<=D) (hD1:D<=256) (hM0:0<=M) (hM1:M<=512) (hlit:lit.size<=140737488355328) (hln:0<=len/\len<=64) (hF:fits D M L lit far len=true) (hbig:512<M+lit.size+len) :
 Calls Tryz.prog 178 #[.pointer (some ⟨g,0,none⟩),.agg #[.string lit,.int .i64 far,.int .i64 len]] w fun e w'=>e=.returned (.int .i64 2)/\Below w.heap.size w w':=by
 obtain ⟨hl0,hl1⟩:=hln;have hs:(lit.size:Int)<=140737488355328:=by omega
 have hr1:IntKind.i64.wrap (M+(lit.size:Int))=M+(lit.size:Int):=IntWalk.i64_in _ ⟨by omega,by omega⟩;have hr2:IntKind.i64.wrap (M+(lit.size:Int)+len)=M+(lit.size:Int)+len:=IntWalk.i64_in _ ⟨by omega,by omega⟩;have hd:decide (512<M+(lit.size:Int)+len)=true:=by simp;omega
 go_enter Tryz.func178,Tryz.ntmps178
 go_wp2_with fail
 refine (ZhY (h.alloc _) lit far len hD0 hD1 hM0 hM1).mono ?_;rintro e w1 ⟨rfl,hb⟩;have hm:=(h.alloc (.cells #[.string lit,.int .i64 far,.int .i64 len] 165)).below hb;obtain ⟨k0,k1,k2⟩:=ZgI hb;have m1:=hm.2.2.2.1;clear hm;go_wp2_with fail
 go_quiet (fail)
 go_wp2_with fail
 go_ret
 exact ⟨rfl,below_drewN (bch ((bR _ _).alloc (nl _) _) hb (nl _)) _⟩
theorem Zrv (B g:Nat) (D M:Int) (L:Bool) (lit:ByteArray) (far len:Int) (w:World) (h:MkAt w B g D M L)
 (hD0:0<=D) (hD1:D<=256) (hM0:0<=M) (hM1:M<=512) (hln:0<=len/\len<=64) (hF:fits D M L lit far len=true) (hok:M+lit.size+len<=512) :
 Calls Tryz.prog 178 #[.pointer (some ⟨g,0,none⟩),.agg #[.string lit,.int .i64 far,.int .i64 len]] w fun e w'=>e=.returned (.int .i64 0)/\Below B w w'/\MkAt w' B g D (M+lit.size+len) (!lit.toList.isEmpty)/\Hid (∀ k,k<w.heap.size->k ≠ g->w'.heap[k]?=w.heap[k]?):=by
 obtain ⟨hl0,hl1⟩:=hln;have hs:(lit.size:Int)<=512:=by omega
 have hr1:IntKind.i64.wrap (M+(lit.size:Int))=M+(lit.size:Int):=IntWalk.i64_in _ ⟨by omega,by omega⟩;have hr2:IntKind.i64.wrap (M+(lit.size:Int)+len)=M+(lit.size:Int)+len:=IntWalk.i64_in _ ⟨by omega,by omega⟩;have hd:decide (512<M+(lit.size:Int)+len)=false:=by simp;omega
 have hgw:=h.2.1;have hBg:=h.1;go_enter Tryz.func178,Tryz.ntmps178
 go_wp2_with fail
 refine (ZhY (h.alloc _) lit far len hD0 hD1 hM0 hM1).mono ?_;rintro e w1 ⟨rfl,hb⟩;have hm:=(h.alloc (.cells #[.string lit,.int .i64 far,.int .i64 len] 165)).below hb;obtain ⟨k0,k1,k2⟩:=ZgI hb;have HM:Hid (MkAt w1 B g D M L):=hm;obtain ⟨_,m0,m1,m2,m3,m4,m5⟩:=hm;have hne:¬ g=w.heap.size:=by omega
 have hne2:¬ w.heap.size=g:=by omega
 go_wp2_with fail
 go_quiet (fail)
 go_wp2_with fail
 go_ret
 have hB1:Below B w w1:=(((bR _ _).alloc (nl _) _).trans (hb.mono (by simp))).mono (by omega);refine ⟨rfl,((below_drewN hB1 nq).setCell (p:=⟨g,1,none⟩) hBg _).setCell (p:=⟨g,2,none⟩) hBg _,HM.out.set2 nq _ _,fun k hk hkg=>?_⟩;rw [Below.heap_setCell _ _ _ _ (by exact hkg),Below.heap_setCell _ _ _ _ (by exact hkg)];show w1.heap[k]?=_;rw [hb.block k (by simp;omega)];exact Below.heap_alloc _ _ _ hk
theorem ZjF (d:Nat) (s:List UInt8) (p:Bool) (t:Tk.T) (M:Int) (hM:M=(s.length:Int) - d) :
 Tk.err d s p t=if fits d M p t.lit t.far t.len=false then 1 else if 512<M+t.lit.size+t.len then 2 else 0:=by
 unfold Tk.err fits;by_cases h0:t.lit.size ≠ 0
 ·rw [if_pos h0,if_pos h0];by_cases h1:t.far ≠ 0\/t.len ≠ 0\/p=true
  ·rw [if_pos h1,if_pos];simp only [decide_eq_false_iff_not];rintro ⟨a,b,c⟩;rcases h1 with h | h | h
   ·exact h a
   ·exact h b
   ·rw [c] at h;cases h
  ·have ha:t.far=0:=by
    by_cases e:t.far=0
    ·exact e
    ·exact absurd (Or.inl e) h1
   have hb:t.len=0:=by
    by_cases e:t.len=0
    ·exact e
    ·exact absurd (Or.inr (Or.inl e)) h1
   have hc:p=false:=by
    cases p
    ·rfl
    ·exact absurd (Or.inr (Or.inr rfl)) h1
   rw [if_neg h1];rw [if_neg (c:=decide (t.far=0/\t.len=0/\p=false)=false) (by simp [ha,hb,hc])];rw [hb,hM];simp
 ·rw [if_neg h0,if_neg h0];by_cases h1:3<=t.len/\t.len<=64/\1<=t.far/\t.far<=s.length
  ·rw [if_neg (by simpa using h1),if_neg (c:=decide (3<=t.len/\t.len<=64/\1<=t.far/\t.far<=(d:Int)+M)=false) (by simp;omega),hM];have:(t.lit.size:Int)=0:=by omega
   rw [this,Int.add_zero]
  ·rw [if_pos h1,if_pos];simp only [decide_eq_false_iff_not];omega
def TkAt (w:World) (b off:Nat) (l:List Tk.T):Prop :=
 ∀ i (h:i<l.length),w.cell? ⟨b,off+i*3,none⟩=some (.string l[i].lit)/\w.cell? ⟨b,off+i*3+1,none⟩=some (.int .i64 l[i].far)/\w.cell? ⟨b,off+i*3+2,none⟩=some (.int .i64 l[i].len)
def SlAt (w:World) (ad:Option Addr) (l:List Tk.T):Prop:=l=[]\/∃ b off,ad=some ⟨b,off,none⟩/\b<w.heap.size/\TkAt w b off l
theorem SlAt.below {w w':World} {ad:Option Addr} {l:List Tk.T} (h:SlAt w ad l) (hb:Below w.heap.size w w'):SlAt w' ad l:=by
 rcases h with h | ⟨b,off,rfl,hlt,ht⟩
 ·exact .inl h
 ·refine .inr ⟨b,off,rfl,nT hlt hb.size,fun i hi=>?_⟩;have:=ht i hi;rw [hb.cell (by exact hlt),hb.cell (by exact hlt),hb.cell (by exact hlt)];exact this
def Sane (l:List Tk.T):Prop:=l.length<=140737488355328/\∀ t ∈ l,t.lit.size<=140737488355328
def Zo (dict:ByteArray) (l:List Tk.T):Int:=if 256<dict.size then 2 else (Tk.run dict.size dict.data.toList false l).1
theorem Zkw {D M:Int} {L:Bool} {lit:ByteArray} {far len:Int} (h:fits D M L lit far len=true):0<=len/\len<=64:=by
 unfold fits at h;split at h
 ·have:=of_decide_eq_true h;omega
 ·have:=of_decide_eq_true h;omega
theorem ZlR (dict:ByteArray) (ad:Option Addr) (n cap:Nat) (w:World) (hd:256<dict.size) :
 Calls Tryz.prog 158 #[.string dict,.slice ad n cap] w fun e w'=>e=.returned (.int .i64 2)/\Below w.heap.size w w':=by
 have h:decide ((256:Int)<(dict.size:Int))=true:=by simp;omega
 have h':(256:Int)<(dict.size:Int):=by omega
 go_enter Tryz.func158,Tryz.ntmps158
 go_wp2_with fail
 go_ret
 exact ⟨rfl,bR _ _⟩
theorem Zeo (dict:ByteArray) (ad:Option Addr) (cap:Nat) (w:World) (hd:dict.size<=256) :
 Calls Tryz.prog 158 #[.string dict,.slice ad 0 cap] w fun e w'=>e=.returned (.int .i64 0)/\Below w.heap.size w w':=by
 have h:decide ((256:Int)<(dict.size:Int))=false:=by simp;omega
 have h':(dict.size:Int)<=256:=by omega
 go_enter Tryz.func158,Tryz.ntmps158
 go_wp2_with fail
 refine wp_loop_rounds 1 ?_;rw [rounds_succ];go_wp2_with fail
 go_ret
 exact ⟨rfl,(bR _ _).alloc (nl _) _⟩
theorem Zdt (dict:ByteArray) (b off cap:Nat) (l:List Tk.T) (w:World) (hd:dict.size<=256) (hb:b<w.heap.size) (hl:TkAt w b off l) (hs:Sane l) :
 Calls Tryz.prog 158 #[.string dict,.slice (some ⟨b,off,none⟩) l.length cap] w fun e w'=>e=.returned (.int .i64 (Tk.run dict.size dict.data.toList false l).1)/\Below w.heap.size w w':=by
 have h:decide ((256:Int)<(dict.size:Int))=false:=by simp;omega
 have h':(dict.size:Int)<=256:=by omega
 have hn:=hs.1;have hn':(l.length:Int)<=140737488355328:=by omega
 go_enter Tryz.func158,Tryz.ntmps158
 go_wp2_with fail
 go_loopw [17] (fun i wr=>∃ (k:Nat) (s:List UInt8) (p:Bool),k<=l.length/\i=.int .i64 k/\Hid (Tk.run dict.size dict.data.toList false l=Tk.run dict.size s p (l.drop k)) ∧
  dict.size<=s.length/\s.length<=dict.size+512/\MkAt wr w.heap.size w.heap.size dict.size ((s.length:Int) - dict.size) p/\Below w.heap.size w wr)
  (fun i _=>l.length - (intOf i).toNat)
 case atStart =>
  refine ⟨0,dict.data.toList,false,by omega,rfl,rfl,?_,?_,?_,(bR _ _).alloc (nl _) _⟩
  ·simp
  ·simp
  ·have e:((dict.data.toList.length:Int) - dict.size)=0:=by simp
   rw [e];exact ⟨nl _,by simp,by rw [World.cell?_alloc_mark];rfl,by rw [World.cell?_alloc_mark];rfl,by rw [World.cell?_alloc_mark];rfl,by rw [World.frozen?_alloc_mark];simp,by rw [World.frozen?_alloc_mark];simp⟩
 case round =>
  obtain ⟨k,s,p,hk,rfl,hrun,hs1,hs2,hm,G⟩:=hrel;by_cases hlt:k<l.length
  ·have hdrop:l.drop k=l[k] :: l.drop (k+1):=List.drop_eq_getElem_cons hlt;have hef:=ZjF dict.size s p l[k] _ rfl;obtain ⟨c0,c1,c2⟩:=hl k hlt;have hlit:=hs.2 l[k] (gM hlt);rw [<-G.cell (by exact hb)] at c0 c1 c2;generalize l[k]=t at *;have Hm:Hid (MkAt wr w.heap.size w.heap.size dict.size ((s.length:Int) - dict.size) p):=hm;have hM0:0<=(s.length:Int) - dict.size:=by omega
   have hM1:(s.length:Int) - dict.size<=512:=by omega
   have hD0:(0:Int)<=(dict.size:Int):=by omega
   have HE:Hid (Tk.err dict.size s p t=if fits dict.size ((s.length:Int) - dict.size) p t.lit t.far t.len=false then 1 else if 512<(s.length:Int) - dict.size+t.lit.size+t.len then 2 else 0):=hef
   have HR:Hid (Tk.run dict.size dict.data.toList false l=Tk.run dict.size s p (t :: l.drop (k+1))):=by
    show _=_;rw [hrun.out,hdrop]
   have hgs:=G.size;have hgs2:=hm.2.1;clear hm hef hdrop hrun hl hs
   cases hF:fits dict.size ((s.length:Int) - dict.size) p t.lit t.far t.len with
   | false =>
    have HX:Hid ((Tk.run dict.size dict.data.toList false l).1=1):=by
     have he:Tk.err dict.size s p t=1:=by rw [HE.out,if_pos hF]
     show _=_;rw [HR.out,Tk.Zaf (by omega),he]
    go_wp2_with fail
    refine (ZjC w.heap.size w.heap.size dict.size ((s.length:Int) - dict.size) p t.lit t.far t.len _ (Hm.out.alloc _) hD0 h' hM0 hM1 hF).mono ?_;rintro e w1 ⟨rfl,hb1⟩;go_wp2_with fail
    go_ret
    exact ⟨by rw [HX.out];rfl,bch (G.alloc hgs _) hb1 (nl _)⟩
   | true =>
    have hln:=Zkw hF;by_cases hbig:512<(s.length:Int) - dict.size+t.lit.size+t.len
    ·have HX:Hid ((Tk.run dict.size dict.data.toList false l).1=2):=by
      have he:Tk.err dict.size s p t=2:=by rw [HE.out,if_neg (by rw [hF];simp),if_pos hbig]
      show _=_;rw [HR.out,Tk.Zaf (by omega),he]
     go_wp2_with fail
     refine (Zjx w.heap.size w.heap.size dict.size ((s.length:Int) - dict.size) p t.lit t.far t.len _ (Hm.out.alloc _) hD0 h' hM0 hM1 hlit hln hF hbig).mono ?_;rintro e w1 ⟨rfl,hb1⟩;go_wp2_with fail
     go_ret
     exact ⟨by rw [HX.out];rfl,bch (G.alloc hgs _) hb1 (nl _)⟩
    ·have he:Tk.err dict.size s p t=0:=by rw [HE.out,if_neg (by rw [hF];simp),if_neg hbig]
     have hmk:=Tk.Zcs he
     have HX:Hid (Tk.run dict.size dict.data.toList false l=Tk.run dict.size (Tk.make s t) (decide (t.lit.size ≠ 0)) (l.drop (k+1))):=by
      show _=_;rw [HR.out,Tk.Zal he]
     have HK:Hid ((Tk.make s t).length=s.length+t.lit.size+t.len.toNat):=hmk.1
     have HD:Hid ((!t.lit.toList.isEmpty)=decide (t.lit.size ≠ 0)):=by
      show _=_;by_cases h0:t.lit.size=0
      ·rw [Zaq h0];simp [h0]
      ·rw [ZX h0];simp [h0]
     clear he hmk;go_wp2_with fail
     refine (Zrv w.heap.size w.heap.size dict.size ((s.length:Int) - dict.size) p t.lit t.far t.len _ (Hm.out.alloc _) hD0 h' hM0 hM1 hln hF (by omega)).mono ?_;rintro e w1 ⟨rfl,hb1,hm1,_⟩;have HM1:Hid (MkAt w1 w.heap.size w.heap.size dict.size ((s.length:Int) - dict.size+t.lit.size+t.len) (!t.lit.toList.isEmpty)):=hm1;clear hm1;go_wp2_with fail
     go_roundw
     case rel =>
      have hk1:=HK.out;refine ⟨k+1,Tk.make s t,decide (t.lit.size ≠ 0),by omega,by go_num,HX,by omega,by omega,?_,(G.alloc hgs _).trans hb1⟩;rw [<-HD.out,show ((Tk.make s t).length:Int) - dict.size=(s.length:Int) - dict.size+t.lit.size+t.len by omega];exact HM1.out
     case measure=>simp [intOf];omega
  ·have HX:Hid ((Tk.run dict.size dict.data.toList false l).1=0):=by
    show _=_;rw [hrun.out,List.drop_eq_nil_of_le (by omega)];rfl
   clear hm hrun hl hs;go_wp2_with fail
   go_ret
   exact ⟨by rw [HX.out];rfl,G⟩
theorem Zhl (dict:ByteArray) (ad:Option Addr) (cap:Nat) (l:List Tk.T) (w:World) (hl:SlAt w ad l) (hs:Sane l) :
 Calls Tryz.prog 158 #[.string dict,.slice ad l.length cap] w fun e w'=>e=.returned (.int .i64 (Zo dict l))/\Below w.heap.size w w':=by
 unfold Zo;by_cases hd:256<dict.size
 ·rw [if_pos hd];exact ZlR dict ad _ cap w hd
 ·rw [if_neg hd];rcases hl with rfl | ⟨b,off,rfl,hb,ht⟩
  ·exact Zeo dict ad cap w (by omega)
  ·exact Zdt dict b off cap l w (by omega) hb ht hs
theorem App.box {wr w3:World} {B:Nat} {v v':Value} {l':List UInt8} {x y z:Value} {T:TypeId} (hA:App (wr.alloc (.cells #[x,y,z] T)) w3 B v v' l') (hne:∀ g,v.ownBlock=some g->g<wr.heap.size) :
 w3.cell? ⟨wr.heap.size,0,none⟩=some x/\w3.cell? ⟨wr.heap.size,1,none⟩=some y/\w3.cell? ⟨wr.heap.size,2,none⟩=some z:=by
 have h1:wr.heap.size<(wr.alloc (.cells #[x,y,z] T)).heap.size:=by simp
 have h2:some wr.heap.size ≠ v.ownBlock:=fun e=>Nat.lt_irrefl _ (hne _ e.symm)
 refine ⟨(hA.cell h1 h2).trans ?_,(hA.cell h1 h2).trans ?_,(hA.cell h1 h2).trans ?_⟩ <;> (rw [World.cell?_alloc_mark];rfl)
theorem Zpz (dict:ByteArray) (ad:Option Addr) (cap:Nat) (l:List Tk.T) (w:World) (hl:SlAt w ad l) (hs:Sane l) (e0:Int) (he:Zo dict l=e0) (hne:(e0 != 0)=true) :
 Calls Tryz.prog 188 #[.string dict,.slice ad l.length cap] w fun e w'=>e=.returned (.tuple #[.string ⟨#[]⟩,.int .i64 e0])/\Below w.heap.size w w':=by
 have hc:=fun w hl=>Zhl dict ad cap l w hl hs
 rw [he] at hc;clear he;go_enter Tryz.func188,Tryz.ntmps188
 go_wp2_with fail
 refine (hc _ hl).mono ?_;rintro e w1 ⟨rfl,G⟩;clear hc;go_wp2_with fail
 go_ret2
 exact ⟨rfl,G⟩
theorem ZrY (dict:ByteArray) (b off cap:Nat) (l:List Tk.T) (w:World) (hb:b<w.heap.size) (hl:TkAt w b off l) (hs:Sane l) (hd:dict.size<=256) (s1:List UInt8) (hr:Tk.run dict.size dict.data.toList false l=(0,s1)) :
 Calls Tryz.prog 188 #[.string dict,.slice (some ⟨b,off,none⟩) l.length cap] w fun e w'=>e=.returned (.tuple #[.string ⟨(s1.drop dict.size).toArray⟩,.int .i64 0])/\Below w.heap.size w w':=by
 have hc:=Zdt dict b off cap l w hd hb hl hs;rw [hr] at hc;have hd':(dict.size:Int)<=256:=by omega
 have hn':(l.length:Int)<=140737488355328:=by have:=hs.1;omega
 go_enter Tryz.func188,Tryz.ntmps188
 go_wp2_with fail
 refine hc.mono ?_;rintro e w1 ⟨rfl,G⟩;clear hc;obtain ⟨v,w2,hcv,ho,G2,hv,hvg⟩:=Own8.of_string w1 dict (by omega) w.heap.size G.size;obtain ⟨g,cp,rfl,hg1,hg2,hg3,hg4,_⟩:=ho.form hv;have G3:=bch G G2 (nl _);have Hr:Hid (Tk.run dict.size dict.data.toList false l=(0,s1)):=hr;clear hr;go_wp2_with fail
 clear hcv hv hvg
 go_loopw [7,20] (fun x i wr=>∃ (k g cp:Nat) (s:List UInt8) (p:Bool),k<=l.length/\i=.int .i64 k/\x=.slice (some ⟨g,0,none⟩) s.length cp/\Own8 wr w.heap.size (.slice (some ⟨g,0,none⟩) s.length cp) s ∧
  Hid (Tk.run dict.size s p (l.drop k)=(0,s1))/\dict.size<=s.length/\s.length<=dict.size+512/\Below w.heap.size w wr)
  (fun _ i _=>l.length - (intOf i).toNat)
 case atStart =>
  exact ⟨0,g,cp,dict.data.toList,false,by omega,rfl,by simp,by simpa using ho,Hr,by simp,by simp,G3⟩
 case round =>
  clear ho hg1 hg2 hg3 hg4 G G2 G3;obtain ⟨k,g',cp',s,p,hk,rfl,rfl,ho,hrun,hs1,hs2,G⟩:=hrel;by_cases hlt:k<l.length
  ·have hdrop:l.drop k=l[k] :: l.drop (k+1):=List.drop_eq_getElem_cons hlt;obtain ⟨c0,c1,c2⟩:=hl k hlt;rw [<-G.cell (by exact hb)] at c0 c1 c2;rw [hdrop] at hrun;clear hdrop hl hs;generalize l[k]=t at *
   have he:Tk.err dict.size s p t=0:=by
    by_cases h:Tk.err dict.size s p t=0
    ·exact h
    ·have:=hrun.out;rw [Tk.Zaf h] at this;simp only [Prod.mk.injEq] at this;exact absurd this.1 h
   have HR:Hid (Tk.run dict.size (Tk.make s t) (decide (t.lit.size ≠ 0)) (l.drop (k+1))=(0,s1)):=by
    have:=hrun.out;rw [Tk.Zal he] at this;exact this
   have hmk:=Tk.Zcs he;have hgs:=G.size;have HO:Hid (Own8 wr w.heap.size (.slice (some ⟨g',0,none⟩) s.length cp') s):=ho;clear ho he hrun;go_wp2_with (at_builtin;refine Zco _ rfl _ _ rfl w.heap.size (.slice (some ⟨g',0,none⟩) s.length cp') s rfl (HO.out.alloc _) t.lit rfl (by omega) (ZH _ hgs) ?_;intro v1 w3 hA;obtain ⟨k0,k1,k2⟩:=hA.box (fun g hg=>(HO.out.lt g hg).2))
   obtain ⟨wo,rfl⟩:∃ wo:World,wo=wr:=⟨_,rfl⟩
   have hown:=hA.own;have hnn:=hA.some_ (by simp);obtain ⟨g1,cp1,rfl,hh1,hh2,hh3,hh4,_⟩:=hown.form hnn;have hat:=hA.at_ g1 rfl;have hgo:=HO.out.lt g' rfl
   have hne1:g1 ≠ wo.heap.size:=by
    rcases hat with h | h
    ·simp [Value.ownBlock] at h;omega
    ·simp at h;omega
   have G1:Below w.heap.size w w3:=(G.alloc hgs _).trans hA.below
   have hsz1:wo.heap.size<w3.heap.size:=by
    have:=hA.below.size;simp at this;omega
   have hlen0:(s++t.lit.data.toList).length=s.length+t.lit.size:=by simp
   have HK:Hid (Tk.make s t=Tk.copy t.far.toNat t.len.toNat (s++t.lit.data.toList)):=by
    show _=_;unfold Tk.make;by_cases h0:t.lit.size=0
    ·have:t.lit.data.toList=[]:=List.eq_nil_of_length_eq_zero (by simpa using h0);rw [if_neg (by omega),this,List.append_nil]
    ·rw [if_pos h0,(hmk.2.2.2.1 h0).2];rfl
   have hmk1:=hmk.1;have hmk2:=hmk.2.1;have hl00:0<=t.len:=hmk.2.1;have hmk5:=hmk.2.2.2.2
   have HF:Hid (0<t.len->1<=t.far/\t.far<=s.length/\t.lit.size=0/\t.len<=64):=by
    intro hp;by_cases h0:t.lit.size=0
    ·have:=hmk.2.2.1 h0;omega
    ·have:=hmk.2.2.2.1 h0;omega
   clear hmk hA hnn hat k0 c0 c1 c2;generalize hS:s++t.lit.data.toList=S at *;clear hS
   have hl64:t.len<=64\/t.len<=0:=by
    by_cases hp:0<t.len
    ·left;exact (HF.out hp).2.2.2
    ·right;omega
   have hl65:t.len<=64:=by omega
   have HL0:Hid (S.length=s.length+t.lit.size):=hlen0;have HM1:Hid ((Tk.make s t).length=s.length+t.lit.size+t.len.toNat):=hmk1;clear hl64 hmk2 hlen0 hmk1
   go_loopw [7,30] (fun x i wi=>∃ (j g cp:Nat),(j:Int)<=t.len/\i=.int .i64 j/\x=.slice (some ⟨g,0,none⟩) (Tk.copy t.far.toNat j S).length cp/\Own8 wi w.heap.size (.slice (some ⟨g,0,none⟩) (Tk.copy t.far.toNat j S).length cp) (Tk.copy t.far.toNat j S) ∧
    g ≠ wo.heap.size/\wo.heap.size<wi.heap.size/\wi.cell? ⟨wo.heap.size,1,none⟩=some (.int .i64 t.far)/\Below w.heap.size w wi)
    (fun _ i _=>64 - (intOf i).toNat)
   case atStart=>exact ⟨0,g1,cp1,by omega,rfl,rfl,hown,hne1,hsz1,k1,G1⟩
   case round =>
    clear hown hne1 hsz1 k1 G1 hh1 hh2 hh3 hh4 k2 G hgo;obtain ⟨j,g2,cp2,hj,rfl,rfl,hown,hne2,hsz2,k1,G⟩:=hrel;by_cases hjl:(j:Int)<t.len
    ·obtain ⟨f1,f2,f3,f4⟩:=HF.out (by omega);have hlen0:=HL0.out;obtain ⟨F,hF⟩:=Int.eq_ofNat_of_zero_le (a:=t.far) (by omega);have hcl:=Tk.ZeE t.far.toNat j S;have hcs:=Tk.Zew t.far.toNat j S;generalize hfn:t.far.toNat=fn at *;generalize Tk.copy fn j S=X at *;obtain ⟨ga,ca,hq,_,q2,_,_,q5⟩:=hown.form (by simp);simp only [Value.slice.injEq,Option.some.injEq,Addr.mk.injEq,and_true,true_and] at hq;obtain ⟨rfl,rfl⟩:=hq;have hfF:fn=F:=by omega
     subst hfF;rw [hF] at k1;have HFF:Hid (t.far=(fn:Int)):=hF;have hXl:fn<=X.length:=by omega
     have hix:X.length - fn<X.length:=by omega
     obtain ⟨bt,hbt⟩:∃ bt,X[X.length - fn]?=some bt:=⟨_,List.getElem?_eq_getElem hix⟩
     have hld:=q5 _ _ hbt
     have HX1:Hid (Tk.copy fn (j+1) S=X++[bt]):=by
      show _=_;rw [hcs];simp [List.getD,hbt]
     have HO2:Hid (Own8 wr w.heap.size (.slice (some ⟨g2,0,none⟩) X.length cp2) X):=hown;have hi1:(0:Int)<=(X.length:Int) - (fn:Int):=by omega
     have hi2:(X.length:Int) - (fn:Int)<(X.length:Int):=by omega
     have hXb:(X.length:Int)<=1000:=by omega
     have hgs2:=G.size;have HCL:Hid (X.length=S.length+j):=hcl;clear hown hcs q5 hbt hfn HF hF hcl f3 f1 f2 f4 hlen0;go_wp2_with (at_builtin;refine ZkS _ rfl _ _ rfl w.heap.size (.slice (some ⟨g2,0,none⟩) X.length cp2) X rfl (HO2.out.alloc _) bt wr.heap.size 1 rfl (by rw [World.cell?_alloc_mark];rfl) (by omega) (ZH _ hgs2) ?_;intro v4 w4 hA4)
     go_roundw
     case rel =>
      obtain ⟨g3,cp3,rfl,r1,r2,r3,r4,_⟩:=hA4.own.form (hA4.some_ (by simp));have hat:=hA4.at_ g3 rfl;have hsz4:=hA4.below.size;simp at hsz4;refine ⟨j+1,g3,cp3,by omega,by go_num,by rw [HX1.out],by rw [HX1.out];exact hA4.own,?_,by omega,?_,(G.alloc hgs2 _).trans hA4.below⟩
      ·rcases hat with h | h
       ·have:g2=g3:=by simpa [Value.ownBlock] using h
        omega
       ·simp at h;omega
      ·rw [hA4.cell (by simp;omega) (by simp [Value.ownBlock];omega),HFF.out,<-k1];exact (bR _ _ |>.alloc (nl _) _).cell (by exact hsz2)
     case measure=>simp [intOf];omega
    ·have hjt:j=t.len.toNat:=by omega
     subst hjt;have HK2:=HK.out;rw [<-HK2] at hown;clear HK2 k1;go_wp2_with fail
     go_roundw
     case rel =>
      have h9:=HM1.out;refine ⟨k+1,g2,cp2,Tk.make s t,_,by omega,by go_num,by rw [HK.out],hown,HR,by omega,by omega,G⟩
     case measure=>simp [intOf];omega
  ·have hs1':s=s1:=by
    have:=hrun.out;rw [List.drop_eq_nil_of_le (by omega)] at this;simpa [Tk.run] using this
   subst hs1';obtain ⟨ga,ca,hq,_,q2,q3,q4,q5⟩:=ho.form (by simp);simp only [Value.slice.injEq,Option.some.injEq,Addr.mk.injEq,and_true,true_and] at hq;obtain ⟨rfl,rfl⟩:=hq;have hcv:=fun c=>Own8.conv q5 dict.size c
   have hi1:(dict.size:Int)<=(s.length:Int):=by omega
   have hi2:(s.length:Int)<=(cp':Int):=by omega
   have hi3:(s.length:Int)<=1000:=by omega
   have hi4:(cp':Int)<=9223372036854775807:=by unfold maxLen at q4;omega
   have hd1:decide ((k:Int)<(l.length:Int))=false:=by simp;omega
   have hd2:decide (k<l.length)=false:=by simp;omega
   by_cases hcd:cp'=dict.size
   ·have hsl:s.length=dict.size:=by omega
    have hcv0:∀ c,(convert 93 9 (.slice (some ⟨g',0,none⟩) 0 c)).run Tryz.prog wr=.ok (.string ⟨#[]⟩) wr:=fun c =>
     Own8.conv (w:=wr) (l:=[]) (g:=g') (fun j b hj=>by simp at hj) 0 c
    have HS:Hid (s.drop dict.size=[]):=List.drop_eq_nil_of_le (by omega);subst hcd;clear hrun q5 hl hs ho hcv;go_wp2_with fail
    go_ret2
    exact ⟨by rw [HS.out];rfl,G⟩
   ·clear hrun q5 hl hs ho;go_wp2_with fail
    go_ret2
    exact ⟨rfl,G⟩
theorem ZqK (dict:ByteArray) (ad:Option Addr) (cap:Nat) (w:World) (hd:dict.size<=256) :
 Calls Tryz.prog 188 #[.string dict,.slice ad 0 cap] w fun e w'=>e=.returned (.tuple #[.string ⟨#[]⟩,.int .i64 0])/\Below w.heap.size w w':=by
 have hc:=Zeo dict ad cap w hd;have hd':(dict.size:Int)<=256:=by omega
 go_enter Tryz.func188,Tryz.ntmps188
 go_wp2_with fail
 refine hc.mono ?_;rintro e w1 ⟨rfl,G⟩;clear hc;obtain ⟨v,w2,hcv,ho,G2,hv,hvg⟩:=Own8.of_string w1 dict (by omega) w.heap.size G.size;obtain ⟨g,cp,rfl,hg1,hg2,hg3,hg4,q5⟩:=ho.form hv;have G3:=bch G G2 (nl _);have hlen:dict.data.toList.length=dict.size:=by simp
 rw [hlen] at hcv hg3;have hcv1:=fun c=>Own8.conv q5 dict.size c
 rw [hlen,Nat.sub_self,List.drop_eq_nil_of_le (by omega)] at hcv1
 have hcv0:∀ c,(convert 93 9 (.slice (some ⟨g,0,none⟩) 0 c)).run Tryz.prog w2=.ok (.string ⟨#[]⟩) w2:=fun c =>
  Own8.conv (w:=w2) (l:=[]) (g:=g) (fun j b hj=>by simp at hj) 0 c
 have hi2:(dict.size:Int)<=(cp:Int):=by omega
 have hi4:(cp:Int)<=9223372036854775807:=by unfold maxLen at hg4;omega
 clear q5 hv hvg ho hlen;by_cases hcd:cp=dict.size
 ·subst hcd;go_wp2_with fail
  refine wp_loop_rounds 1 ?_;rw [rounds_succ];go_wp2_with fail
  go_ret2
  exact ⟨rfl,G3⟩
 ·go_wp2_with fail
  refine wp_loop_rounds 1 ?_;rw [rounds_succ];go_wp2_with fail
  go_ret2
  exact ⟨rfl,G3⟩
def Zau (dict:ByteArray) (l:List Tk.T):ByteArray:=if Zo dict l ≠ 0 then ⟨#[]⟩ else ⟨((Tk.run dict.size dict.data.toList false l).2.drop dict.size).toArray⟩
theorem ZpK (dict:ByteArray) (ad:Option Addr) (cap:Nat) (l:List Tk.T) (w:World) (hl:SlAt w ad l) (hs:Sane l) :
 Calls Tryz.prog 188 #[.string dict,.slice ad l.length cap] w fun e w'=>e=.returned (.tuple #[.string (Zau dict l),.int .i64 (Zo dict l)])/\Below w.heap.size w w':=by
 unfold Zau;by_cases h0:Zo dict l=0
 ·rw [if_neg (by simpa using h0),h0]
  have hd:dict.size<=256:=by
   unfold Zo at h0;by_cases h:256<dict.size
   ·rw [if_pos h] at h0;omega
   ·omega
  have h1:(Tk.run dict.size dict.data.toList false l).1=0:=by
   unfold Zo at h0
   rwa [if_neg (by omega)] at h0
  rcases hl with rfl | ⟨b,off,rfl,hb,ht⟩
  ·have e:(Tk.run dict.size dict.data.toList false []).2.drop dict.size=[]:=List.drop_eq_nil_of_le (by simp [Tk.run]);rw [e];exact ZqK dict ad cap w hd
  ·exact ZrY dict b off cap l w hb ht hs hd _ (by rw [<-h1])
 ·rw [if_pos h0];exact Zpz dict ad cap l w hl hs _ rfl (by simpa using h0)
theorem ZV (n a b:Int) (w:World) (h1:a<=n) (h2:n<=b) :
 Calls Tryz.prog 57 #[.int .i64 n,.int .i64 a,.int .i64 b] w fun e w'=>e=.returned (.bool true)/\w'=w:=by
 have d1:decide (a<=n)=true:=by simpa using h1
 have d2:decide (n<=b)=true:=by simpa using h2
 go_enter Tryz.func57,Tryz.ntmps57
 go_wp2_with fail
 go_ret
 exact ⟨rfl,rfl⟩
theorem ZbF (n a b:Int) (w:World) (h:¬ (a<=n/\n<=b)) :
 Calls Tryz.prog 57 #[.int .i64 n,.int .i64 a,.int .i64 b] w fun e w'=>e=.returned (.bool false)/\w'=w:=by
 by_cases h1:a<=n
 ·have d1:decide (a<=n)=true:=by simpa using h1
  have d2:decide (n<=b)=false:=by simp;omega
  clear h;go_enter Tryz.func57,Tryz.ntmps57
  go_wp2_with fail
  go_ret
  exact ⟨rfl,rfl⟩
 ·have d1:decide (a<=n)=false:=by simp;omega
  clear h;go_enter Tryz.func57,Tryz.ntmps57
  go_wp2_with fail
  go_ret
  exact ⟨rfl,rfl⟩
def Zdr (l:List Tk.T) (k:Nat):Bool:=decide (0<k) && decide ((l[k - 1]?.map (fun t=>t.lit.size)).getD 0 ≠ 0)
theorem Zpq (dict:ByteArray) (ad:Option Addr) (n cap:Nat) (w:World) (hd:256<dict.size) :
 Calls Tryz.prog 144 #[.string dict,.slice ad n cap] w fun e w'=>e=.returned (.tuple #[.string ⟨#[]⟩,.int .i64 2])/\Below w.heap.size w w':=by
 have h:decide ((256:Int)<(dict.size:Int))=true:=by simp;omega
 have h':(256:Int)<(dict.size:Int):=by omega
 go_enter Tryz.func144,Tryz.ntmps144
 go_wp2_with fail
 go_ret2
 exact ⟨rfl,bR _ _⟩
theorem ZrR (dict:ByteArray) (ad:Option Addr) (cap:Nat) (w:World) (hd:dict.size<=256) :
 Calls Tryz.prog 144 #[.string dict,.slice ad 0 cap] w fun e w'=>e=.returned (.tuple #[.string ⟨#[]⟩,.int .i64 0])/\Below w.heap.size w w':=by
 have h:decide ((256:Int)<(dict.size:Int))=false:=by simp;omega
 have h':(dict.size:Int)<=256:=by omega
 have he:dict.extract dict.size dict.size=⟨#[]⟩:=by
  apply Nm.ZG;rw [Lib.extract_data];simp
 go_enter Tryz.func144,Tryz.ntmps144
 go_wp2_with fail
 refine wp_loop_rounds 1 ?_;rw [rounds_succ];go_wp2_with fail
 go_ret2
 exact ⟨rfl,bR _ _⟩
theorem Zf (S:ByteArray):S.data.toList.length=S.size:=by simp
theorem ZqP (dict:ByteArray) (b off cap:Nat) (l:List Tk.T) (w:World) (hd:dict.size<=256) (hb:b<w.heap.size) (hl:TkAt w b off l) (hs:Sane l) :
 Calls Tryz.prog 144 #[.string dict,.slice (some ⟨b,off,none⟩) l.length cap] w fun e w'=>e=.returned (.tuple #[.string (if (Tk.run dict.size dict.data.toList false l).1 ≠ 0 then ⟨#[]⟩ else ⟨((Tk.run dict.size dict.data.toList false l).2.drop dict.size).toArray⟩),.int .i64 (Tk.run dict.size dict.data.toList false l).1])/\Below w.heap.size w w':=by
 have h:decide ((256:Int)<(dict.size:Int))=false:=by simp;omega
 have h':(dict.size:Int)<=256:=by omega
 have hn:=hs.1;have hn':(l.length:Int)<=140737488355328:=by omega
 generalize hR:Tk.run dict.size dict.data.toList false l=R at *
 obtain ⟨E,hE⟩:∃ E:Int,R.1=E:=⟨_,rfl⟩
 obtain ⟨Z,hZ⟩:∃ Z:ByteArray,(if R.1 ≠ 0 then (⟨#[]⟩:ByteArray) else ⟨(R.2.drop dict.size).toArray⟩)=Z:=⟨_,rfl⟩
 rw [hZ,hE]
 have HZ0:Hid (∀ e x,R=(e,x)->e ≠ 0->E=e/\Z=⟨#[]⟩):=by
  intro e x he hne;subst he;exact ⟨hE.symm,by rw [<-hZ,if_pos hne]⟩
 have HZ1:Hid (∀ x,R=(0,x)->E=0/\Z=⟨(x.drop dict.size).toArray⟩):=by
  intro x he;subst he;exact ⟨hE.symm,by rw [<-hZ,if_neg (by simp)]⟩
 have HR:Hid (Tk.run dict.size dict.data.toList false l=R):=hR;clear hR hE hZ;go_enter Tryz.func144,Tryz.ntmps144
 go_wp2_with fail
 go_loopw [6,7] (fun x i wr=>∃ (k:Nat) (S:ByteArray) (p:Bool),k<=l.length/\i=.int .i64 k/\x=.string S/\Hid (Tk.run dict.size S.data.toList p (l.drop k)=R)/\Hid (p=Zdr l k) ∧
  dict.size<=S.size/\S.size<=dict.size+512/\Below w.heap.size w wr)
  (fun _ i _=>l.length - (intOf i).toNat)
 case atStart=>exact ⟨0,dict,false,by omega,rfl,rfl,HR,rfl,by omega,by omega,bR _ _⟩
 case round =>
  obtain ⟨k,S,p,hk,rfl,rfl,hrun,hp,hs1,hs2,G⟩:=hrel;have hS:(S.size:Int)<=1000:=by omega
  by_cases hlt:k<l.length
  ·have hdrop:l.drop k=l[k] :: l.drop (k+1):=List.drop_eq_getElem_cons hlt;obtain ⟨c0,c1,c2⟩:=hl k hlt;have hlit:=hs.2 l[k] (gM hlt);rw [<-G.cell (by exact hb)] at c0 c1 c2;rw [hdrop] at hrun
   have HP:Hid (0<k->wr.cell? ⟨b,off+(k - 1)*3,none⟩=some (.string (l[k - 1]'(by omega)).lit)):=by
    intro hk0;rw [G.cell (by exact hb)];exact (hl (k - 1) (by omega)).1
   have HQ:Hid (Zdr l (k+1)=decide (l[k].lit.size ≠ 0)):=by
    show _=_;simp [Zdr,List.getElem?_eq_getElem hlt]
   generalize l[k]=t at *;have hgs:=G.size;have hpl:k=0\/0<k:=by omega
   clear hdrop hl hs;by_cases h0:t.lit.size ≠ 0
   ·have hE0:=ZX h0;by_cases hf:t.far ≠ 0
    ·have hf':(t.far != 0)=true:=by simp [hf]
     have he:Tk.err dict.size S.data.toList p t=1:=by
      unfold Tk.err;rw [if_pos h0,if_pos (Or.inl hf)]
     have HX:Hid (E=1/\Z=⟨#[]⟩):=HZ0.out _ _ (hrun.out.symm.trans (Tk.Zaf (by rw [he];omega))) (by rw [he];omega) |>.imp (fun h=>h.trans he) id
     go_wp2_with fail
     go_ret2
     exact ⟨by rw [HX.out.1,HX.out.2];rfl,G.alloc hgs _⟩
    ·have hf':(t.far != 0)=false:=by simpa using hf
     by_cases hn:t.len ≠ 0
     ·have hn':(t.len != 0)=true:=by simp [hn]
      have he:Tk.err dict.size S.data.toList p t=1:=by
       unfold Tk.err;rw [if_pos h0,if_pos (Or.inr (Or.inl hn))]
      have HX:Hid (E=1/\Z=⟨#[]⟩):=HZ0.out _ _ (hrun.out.symm.trans (Tk.Zaf (by rw [he];omega))) (by rw [he];omega) |>.imp (fun h=>h.trans he) id
      go_wp2_with fail
      go_ret2
      exact ⟨by rw [HX.out.1,HX.out.2];rfl,G.alloc hgs _⟩
     ·have hn':(t.len != 0)=false:=by simpa using hn
      cases hpt:p with
      | true =>
       have hk0:0<k:=by
        have:=hp.out;rw [hpt] at this;rcases hpl with h | h
        ·subst h;simp [Zdr] at this
        ·exact h
       have c3:=HP.out hk0
       have hq:(l[k - 1]'(by omega)).lit.size ≠ 0:=by
        have:=hp.out;rw [hpt] at this;simp [Zdr,List.getElem?_eq_getElem (show k - 1<l.length by omega)] at this;exact fun e=>this.2 (by simpa using e)
       have hqe:=ZX hq;generalize (l[k - 1]'(by omega)).lit=q at *;have hbw:b<wr.heap.size:=nT hb G.size;have c4:∀ o,(wr.alloc o).cell? ⟨b,off+(k - 1)*3,none⟩=some (.string q):=fun o=>(((bR wr.heap.size wr).alloc (nl _) o).cell (by exact hbw)).trans c3
       have hk0':decide ((0:Int)<(k:Int))=true:=by simp;omega
       have hk0'':decide (0<k)=true:=by simp;omega
       have hi1:(0:Int)<=(k:Int) - 1:=by omega
       have hi2:(k:Int) - 1<(l.length:Int):=by omega
       have he:Tk.err dict.size S.data.toList p t=1:=by
        unfold Tk.err;rw [if_pos h0,if_pos (Or.inr (Or.inr hpt))]
       clear hpl HQ;have HX:Hid (E=1/\Z=⟨#[]⟩):=HZ0.out _ _ (hrun.out.symm.trans (Tk.Zaf (by rw [he];omega))) (by rw [he];omega) |>.imp (fun h=>h.trans he) id
       go_wp2_with fail
       go_ret2
       exact ⟨by rw [HX.out.1,HX.out.2];rfl,G.alloc hgs _⟩
      | false =>
       rcases hpl with hk0 | hk0
       ·have hk0':decide ((0:Int)<(k:Int))=false:=by simp;omega
        have hk0'':decide (0<k)=false:=by simp;omega
        clear hk0;by_cases hbig:512<(S.size:Int) - dict.size+t.lit.size
        ·have hb':decide (512 - ((S.size:Int) - (dict.size:Int))<(t.lit.size:Int))=true:=by simp;omega
         have he:Tk.err dict.size S.data.toList p t=2:=by
          unfold Tk.err;rw [if_pos h0,if_neg (by simp [hf,hn,hpt]),if_pos (by rw [Zf];exact hbig)]
         clear HQ hbig;have HX:Hid (E=2/\Z=⟨#[]⟩):=HZ0.out _ _ (hrun.out.symm.trans (Tk.Zaf (by rw [he];omega))) (by rw [he];omega) |>.imp (fun h=>h.trans he) id
         go_wp2_with fail
         go_ret2
         exact ⟨by rw [HX.out.1,HX.out.2];rfl,G.alloc hgs _⟩
        ·have hb':decide (512 - ((S.size:Int) - (dict.size:Int))<(t.lit.size:Int))=false:=by simp;omega
         have hb2:(t.lit.size:Int)<=512:=by omega
         have Hle:Hid ((S.size:Int) - dict.size+t.lit.size<=512):=by show _<=_;omega
         have he:Tk.err dict.size S.data.toList p t=0:=by
          unfold Tk.err;rw [if_pos h0,if_neg (by simp [hf,hn,hpt]),if_neg (by rw [Zf];exact hbig)]
         have HX:Hid (Tk.run dict.size (S++t.lit).data.toList (decide (t.lit.size ≠ 0)) (l.drop (k+1))=R):=by
          show _=_;rw [<-hrun.out,Tk.Zal he];unfold Tk.make;rw [if_pos h0,Nm.appd]
         clear hbig he;go_wp2_with fail
         go_roundw
         case rel=>exact ⟨k+1,S++t.lit,_,by omega,by go_num,rfl,HX,HQ.out.symm,by rw [Nm.apps];omega,by have:=Hle.out;rw [Nm.apps];omega,G.alloc hgs _⟩
         case measure=>simp [intOf];omega
       ·have c3:=HP.out hk0
        have hq:(l[k - 1]'(by omega)).lit.size=0:=by
         have:=hp.out;rw [hpt] at this;simp [Zdr,List.getElem?_eq_getElem (show k - 1<l.length by omega),hk0] at this;simpa using this
        have hqe:=Zaq hq;generalize (l[k - 1]'(by omega)).lit=q at *;have hbw:b<wr.heap.size:=nT hb G.size;have c4:∀ o,(wr.alloc o).cell? ⟨b,off+(k - 1)*3,none⟩=some (.string q):=fun o=>(((bR wr.heap.size wr).alloc (nl _) o).cell (by exact hbw)).trans c3
        have hk0':decide ((0:Int)<(k:Int))=true:=by simp;omega
        have hk0'':decide (0<k)=true:=by simp;omega
        have hi1:(0:Int)<=(k:Int) - 1:=by omega
        have hi2:(k:Int) - 1<(l.length:Int):=by omega
        by_cases hbig:512<(S.size:Int) - dict.size+t.lit.size
        ·have hb':decide (512 - ((S.size:Int) - (dict.size:Int))<(t.lit.size:Int))=true:=by simp;omega
         have he:Tk.err dict.size S.data.toList p t=2:=by
          unfold Tk.err;rw [if_pos h0,if_neg (by simp [hf,hn,hpt]),if_pos (by rw [Zf];exact hbig)]
         clear HQ hbig;have HX:Hid (E=2/\Z=⟨#[]⟩):=HZ0.out _ _ (hrun.out.symm.trans (Tk.Zaf (by rw [he];omega))) (by rw [he];omega) |>.imp (fun h=>h.trans he) id
         go_wp2_with fail
         go_ret2
         exact ⟨by rw [HX.out.1,HX.out.2];rfl,G.alloc hgs _⟩
        ·have hb':decide (512 - ((S.size:Int) - (dict.size:Int))<(t.lit.size:Int))=false:=by simp;omega
         have hb2:(t.lit.size:Int)<=512:=by omega
         have Hle:Hid ((S.size:Int) - dict.size+t.lit.size<=512):=by show _<=_;omega
         have he:Tk.err dict.size S.data.toList p t=0:=by
          unfold Tk.err;rw [if_pos h0,if_neg (by simp [hf,hn,hpt]),if_neg (by rw [Zf];exact hbig)]
         have HX:Hid (Tk.run dict.size (S++t.lit).data.toList (decide (t.lit.size ≠ 0)) (l.drop (k+1))=R):=by
          show _=_;rw [<-hrun.out,Tk.Zal he];unfold Tk.make;rw [if_pos h0,Nm.appd]
         clear hbig he;go_wp2_with fail
         go_roundw
         case rel=>exact ⟨k+1,S++t.lit,_,by omega,by go_num,rfl,HX,HQ.out.symm,by rw [Nm.apps];omega,by have:=Hle.out;rw [Nm.apps];omega,G.alloc hgs _⟩
         case measure=>simp [intOf];omega
   ·have h00:t.lit.size=0:=by omega
    have hE0:=Zaq h00;have HL:Hid (S.data.toList.length=S.size):=Zf S;clear HP hp hpl;by_cases ha:3<=t.len/\t.len<=64
    ·obtain ⟨ha1,ha2⟩:=ha;by_cases hbf:1<=t.far/\t.far<=(S.size:Int)
     ·obtain ⟨hb1,hb2⟩:=hbf;by_cases hbig:512<(S.size:Int) - dict.size+t.len
      ·have hb':decide (512 - ((S.size:Int) - (dict.size:Int))<t.len)=true:=by simp;omega
       have he:Tk.err dict.size S.data.toList p t=2:=by
        unfold Tk.err;rw [if_neg h0,if_neg (by rw [Zf];simp;omega),if_pos (by rw [Zf];exact hbig)]
       clear HQ hbig;have HX:Hid (E=2/\Z=⟨#[]⟩):=HZ0.out _ _ (hrun.out.symm.trans (Tk.Zaf (by rw [he];omega))) (by rw [he];omega) |>.imp (fun h=>h.trans he) id
       go_wp2_with fail
       refine (ZV t.len 3 64 _ ha1 ha2).mono ?_;rintro e w9 ⟨rfl,rfl⟩;go_wp2_with fail
       refine (ZV t.far 1 S.size _ hb1 hb2).mono ?_;rintro e w9 ⟨rfl,rfl⟩;go_wp2_with fail
       go_ret2
       exact ⟨by rw [HX.out.1,HX.out.2];rfl,G.alloc hgs _⟩
      ·have hb':decide (512 - ((S.size:Int) - (dict.size:Int))<t.len)=false:=by simp;omega
       have he:Tk.err dict.size S.data.toList p t=0:=by
        unfold Tk.err;rw [if_neg h0,if_neg (by rw [Zf];simp;omega),if_neg (by rw [Zf];exact hbig)]
       obtain ⟨F,hF⟩:=Int.eq_ofNat_of_zero_le (a:=t.far) (by omega)
       have HX:Hid (Tk.run dict.size (Tk.copy F t.len.toNat S.data.toList) (decide (t.lit.size ≠ 0)) (l.drop (k+1))=R):=by
        show _=_;rw [<-hrun.out,Tk.Zal he];unfold Tk.make;rw [if_neg h0,hF,Int.toNat_natCast]
       have Hle:Hid ((S.size:Int) - dict.size+t.len<=512):=by show _<=_;omega
       have hc1:=ZV t.len 3 64;have hc2:=ZV t.far 1 S.size;rw [hF] at c1 hb1 hb2 hc2;clear hbig he hrun hF;go_wp2_with fail
       refine (hc1 _ ha1 ha2).mono ?_;rintro e w9 ⟨rfl,rfl⟩;go_wp2_with fail
       refine (hc2 _ hb1 hb2).mono ?_;rintro e w9 ⟨rfl,rfl⟩;clear hc1 hc2;go_wp2_with fail
       have hl0:0<=t.len:=by omega
       go_loop [6,9] (fun x i=>∃ (j:Nat) (X:ByteArray),(j:Int)<=t.len/\i=.int .i64 j/\x=.string X/\Hid (X.data.toList=Tk.copy F j S.data.toList)/\Hid (X.size=S.size+j)/\S.size<=X.size/\X.size<=S.size+64) (fun _ i=>64 - (intOf i).toNat)
       case atStart=>exact ⟨0,S,by omega,rfl,rfl,rfl,rfl,by omega,by omega⟩
       case round =>
        obtain ⟨j,X,hj,rfl,rfl,hX,hXs,hX1,hX2⟩:=hrel;have hXb:(X.size:Int)<=2000:=by omega
        by_cases hjl:(j:Int)<t.len
        ·have hjd:decide ((j:Int)<t.len)=true:=by simpa using hjl
         have hi1:(0:Int)<=(X.size:Int) - (F:Int):=by omega
         have hi2:(X.size:Int) - (F:Int)<=(X.size:Int) - (F:Int)+1:=by omega
         have hi3:(X.size:Int) - (F:Int)+1<=(X.size:Int):=by omega
         have HN:Hid ((X++X.extract (X.size - F) (X.size - F+1)).data.toList=Tk.copy F (j+1) S.data.toList):=by
          show _=_;rw [Nm.appd,Lib.extract_data,Tk.Zew,<-hX.out,Zf,show X.size - F+1 - (X.size - F)=1 by omega];have hlt2:X.size - F<X.data.toList.length:=by rw [Zf];omega
          rw [List.drop_eq_getElem_cons hlt2,List.take_succ_cons,List.take_zero,List.getD_eq_getElem?_getD,List.getElem?_eq_getElem hlt2];rfl
         have HNS:Hid ((X++X.extract (X.size - F) (X.size - F+1)).size=S.size+(j+1)):=by
          show _=_;rw [Nm.apps,<-Zf (X.extract _ _),Lib.extract_data,List.length_take,List.length_drop,Zf,hXs.out];omega
         go_wp2_with fail
         go_round
         case rel=>exact ⟨j+1,_,by omega,by go_num,rfl,HN,HNS,by rw [HNS.out];omega,by rw [HNS.out];omega⟩
         case measure=>simp [intOf];omega
        ·have hjd:decide ((j:Int)<t.len)=false:=by simp;omega
         have hjt:j=t.len.toNat:=by omega
         go_wp2_with fail
         go_roundw
         case rel =>
          have:=Hle.out;have:=hXs.out;refine ⟨k+1,X,_,by omega,by go_num,rfl,?_,HQ.out.symm,by omega,by omega,G.alloc hgs _⟩;rw [hX.out,hjt];exact HX
         case measure=>simp [intOf];omega
     ·have he:Tk.err dict.size S.data.toList p t=1:=by
       unfold Tk.err;rw [if_neg h0,if_pos (by rw [Zf];omega)]
      clear HQ;have HX:Hid (E=1/\Z=⟨#[]⟩):=HZ0.out _ _ (hrun.out.symm.trans (Tk.Zaf (by rw [he];omega))) (by rw [he];omega) |>.imp (fun h=>h.trans he) id
      go_wp2_with fail
      refine (ZV t.len 3 64 _ ha1 ha2).mono ?_;rintro e w9 ⟨rfl,rfl⟩;go_wp2_with fail
      refine (ZbF t.far 1 S.size _ hbf).mono ?_;rintro e w9 ⟨rfl,rfl⟩;go_wp2_with fail
      go_ret2
      exact ⟨by rw [HX.out.1,HX.out.2];rfl,G.alloc hgs _⟩
    ·have he:Tk.err dict.size S.data.toList p t=1:=by
      unfold Tk.err;rw [if_neg h0,if_pos (by rw [Zf];omega)]
     clear HQ;have HX:Hid (E=1/\Z=⟨#[]⟩):=HZ0.out _ _ (hrun.out.symm.trans (Tk.Zaf (by rw [he];omega))) (by rw [he];omega) |>.imp (fun h=>h.trans he) id
     go_wp2_with fail
     refine (ZbF t.len 3 64 _ ha).mono ?_;rintro e w9 ⟨rfl,rfl⟩;go_wp2_with fail
     go_ret2
     exact ⟨by rw [HX.out.1,HX.out.2];rfl,G.alloc hgs _⟩
  ·have hd1:decide ((k:Int)<(l.length:Int))=false:=by simp;omega
   have hd2:decide (k<l.length)=false:=by simp;omega
   have HX:Hid (E=0/\Z=⟨(S.data.toList.drop dict.size).toArray⟩):=by
    refine HZ1.out _ ?_;rw [<-hrun.out,List.drop_eq_nil_of_le (by omega)];rfl
   have HE:Hid (S.extract dict.size S.size=⟨(S.data.toList.drop dict.size).toArray⟩):=by
    show _=_;apply Nm.ZG;rw [Lib.extract_data,List.take_of_length_le];rw [List.length_drop,Zf];exact nl _
   have hi1:(dict.size:Int)<=(S.size:Int):=by omega
   clear hl hs hrun hp;go_wp2_with fail
   go_ret2
   exact ⟨by rw [HX.out.1,HX.out.2,<-HE.out];rfl,G⟩
theorem ZnJ (dict:ByteArray) (ad:Option Addr) (cap:Nat) (l:List Tk.T) (w:World) (hl:SlAt w ad l) (hs:Sane l) :
 Calls Tryz.prog 144 #[.string dict,.slice ad l.length cap] w fun e w'=>e=.returned (.tuple #[.string (Zau dict l),.int .i64 (Zo dict l)])/\Below w.heap.size w w':=by
 unfold Zau Zo;by_cases hd:256<dict.size
 ·rw [if_pos hd];simp only [ne_eq,Int.reduceEq,not_false_eq_true,if_true];exact Zpq dict ad _ cap w hd
 ·rw [if_neg hd];rcases hl with rfl | ⟨b,off,rfl,hb,ht⟩
  ·have e:(Tk.run dict.size dict.data.toList false [])=(0,dict.data.toList):=rfl;rw [e,if_neg (by simp),List.drop_eq_nil_of_le (by simp)];exact ZrR dict ad cap w (by omega)
  ·exact ZqP dict b off cap l w (by omega) hb ht hs
theorem w64 {x:Int} (h0:-9223372036854775808<=x) (h1:x<=9223372036854775807):wrap64 x=x:=by
 unfold wrap64;omega
theorem Zrd {s x:Int} (hs:0<=s/\s<=262144) (h0:0<x) (h1:x<=15):wrap64 (s+wrap64 (2 ^ (15 - x).toNat))=s+Cd.wt x:=by
 have h:=Cd.wt_b (x:=x) (by omega) h1;rw [<-Cd.Zfo h0,w64 (x:=Cd.wt x) (by omega) (by omega),w64 (by omega) (by omega)]
theorem Zaa (f:Nat->Int) (w:World) :
 Calls Tryz.prog 181 #[.agg (arr f)] w fun e w'=>e=.returned (.int .i64 (Cd.chk f))/\Below w.heap.size w w':=by
 have hat:=Zcc f;have hin:=Zc f;have hix:=ZjP f;have hbel:∀ o,Below w.heap.size w (w.alloc o):=fun o=>(bR _ _).alloc (nl _) o
 generalize hE:Cd.chk f=E at *;have HE:Hid (Cd.chk f=E):=hE;clear hE;generalize arr f=c at *;go_enter Tryz.func181,Tryz.ntmps181
 go_wp2_with (refine wpList_load_row rfl 127 _ rfl w.heap.size rfl 127 c (0,0) _ (heap_alloc_last w _) U127 rfl hin ?_)
 go_loop [3,7] (fun s i=>∃ k:Nat,k<=16/\i=.int .i64 k/\s=.int .i64 (Cd.sm f k)/\Hid (Cd.InR f 15 k)) (fun _ i=>16 - (intOf i).toNat)
 case atStart=>exact ⟨0,by omega,rfl,rfl,fun i h=>by omega⟩
 case round =>
  obtain ⟨k,hk,rfl,rfl,hR⟩:=hrel;have HS:Hid (0<=Cd.sm f k/\Cd.sm f k<=262144):=by have:=Cd.sm_b k hR.out;show _/\_;omega
  by_cases hlt:k<16
  ·have hi:=hix k hlt;have HX:Hid (Cd.sm f (k+1)=Cd.sm f k+Cd.wt (f k)):=rfl;have HB:Hid (f k<0\/15<f k->E=3):=fun h=>HE.out.symm.trans (Cd.Zow hlt h)
   have HN:Hid (0<=f k->f k<=15->Cd.InR f 15 (k+1)):=fun h1 h2=>hR.out.succ h1 h2
   clear hat hix hin;generalize f k=x at *;generalize Cd.sm f k=s at *;have hk1:decide ((k:Int)<16)=true:=by simp;omega
   have hk2:decide (k<16)=true:=by simp;omega
   by_cases h1:x<0
   ·have d1:decide (x<0)=true:=by simp;omega
    have HE3:=HB.out (.inl h1);subst HE3;go_wp2_with fail
    go_ret
    exact ⟨rfl,hbel _⟩
   ·have d1:decide (x<0)=false:=by simp;omega
    by_cases h2:15<x
    ·have d2:decide (15<x)=true:=by simp;omega
     have HE3:=HB.out (.inr h2);subst HE3;go_wp2_with fail
     go_ret
     exact ⟨rfl,hbel _⟩
    ·have d2:decide (15<x)=false:=by simp;omega
     by_cases h3:0<x
     ·have d3:decide (0<x)=true:=by simp;omega
      go_wp2_with fail
      refine ⟨⟨k+1,by omega,by go_num,?_,HN.out (by omega) (by omega)⟩,by simp [intOf];omega⟩;rw [HX.out,Zrd HS.out h3 (by omega)]
     ·have d3:decide (0<x)=false:=by simp;omega
      go_wp2_with fail
      refine ⟨⟨k+1,by omega,by go_num,?_,HN.out (by omega) (by omega)⟩,by simp [intOf];omega⟩;rw [HX.out,Cd.Zdn (by omega)];simp
  ·obtain rfl:k=16:=by omega
   have HF:Hid (Cd.sm f 16=0\/32768<Cd.sm f 16->E=1):=fun h=>HE.out.symm.trans (Cd.Zko hR.out h)
   have HO:Hid (¬ (Cd.sm f 16=0\/32768<Cd.sm f 16)->E=0):=fun h=>HE.out.symm.trans (Cd.Zhj hR.out h)
   clear hat hix hin;generalize Cd.sm f 16=s at *;by_cases h1:s=0
   ·have:=HF.out (.inl h1);subst h1 this;go_wp2_with fail
    go_ret
    exact ⟨rfl,hbel _⟩
   ·have d1:(s == 0)=false:=by simpa using h1
    by_cases h2:32768<s
    ·have d2:decide (32768<s)=true:=by simp;omega
     have:=HF.out (.inr h2);subst this;go_wp2_with fail
     go_ret
     exact ⟨rfl,hbel _⟩
    ·have d2:decide (32768<s)=false:=by simp;omega
     have:=HO.out (by omega);subst this;go_wp2_with fail
     go_ret
     exact ⟨rfl,hbel _⟩
theorem Zar (f:Nat->Int) (w:World) :
 Calls Tryz.prog 139 #[.agg (arr f)] w fun e w'=>e=.returned (.int .i64 (Cd.chk f))/\Below w.heap.size w w':=by
 have hat:=Zcc f;have hbel:∀ o,Below w.heap.size w (w.alloc o):=fun o=>(bR _ _).alloc (nl _) o
 generalize hE:Cd.chk f=E at *;have HE:Hid (Cd.chk f=E):=hE;clear hE;generalize arr f=c at *;go_enter Tryz.func139,Tryz.ntmps139
 go_wp2_with fail
 go_loop [3,4,5] (fun s u i=>∃ k:Nat,k<=16/\i=.int .i64 k/\s=.int .i64 (Cd.sm f k)/\u=.bool (Cd.used f k)/\Hid (Cd.InR f 15 k)) (fun _ _ i=>16 - (intOf i).toNat)
 case atStart=>exact ⟨0,by omega,rfl,rfl,rfl,fun i h=>by omega⟩
 case round =>
  obtain ⟨k,hk,rfl,rfl,rfl,hR⟩:=hrel;have HS:Hid (0<=Cd.sm f k/\Cd.sm f k<=262144):=by have:=Cd.sm_b k hR.out;show _/\_;omega
  by_cases hlt:k<16
  ·have hi:=hat k hlt;have HX:Hid (Cd.sm f (k+1)=Cd.sm f k+Cd.wt (f k)):=rfl;have HU:Hid (Cd.used f (k+1)=(Cd.used f k || decide (0<f k))):=rfl;have HB:Hid (f k<0\/15<f k->E=3):=fun h=>HE.out.symm.trans (Cd.Zow hlt h)
   have HN:Hid (0<=f k->f k<=15->Cd.InR f 15 (k+1)):=fun h1 h2=>hR.out.succ h1 h2
   clear hat;generalize f k=x at *;generalize Cd.sm f k=s at *;generalize Cd.used f k=u at *;have hk1:decide ((k:Int)<16)=true:=by simp;omega
   have hk2:decide (k<16)=true:=by simp;omega
   by_cases h1:0<=x/\x<=15
   ·obtain ⟨h1,h2⟩:=h1;by_cases h3:0<x
    ·have d3:decide (0<x)=true:=by simp;omega
     go_wp2_with fail
     refine (ZV x 0 15 _ h1 h2).mono ?_;rintro e w9 ⟨rfl,rfl⟩;go_wp2_with fail
     refine ⟨⟨k+1,by omega,by go_num,?_,?_,HN.out (by omega) (by omega)⟩,by simp [intOf];omega⟩
     ·rw [HX.out,Zrd HS.out h3 (by omega)]
     ·rw [HU.out,d3,Bool.or_true]
    ·have d3:decide (0<x)=false:=by simp;omega
     go_wp2_with fail
     refine (ZV x 0 15 _ h1 h2).mono ?_;rintro e w9 ⟨rfl,rfl⟩;go_wp2_with fail
     refine ⟨⟨k+1,by omega,by go_num,?_,?_,HN.out (by omega) (by omega)⟩,by simp [intOf];omega⟩
     ·rw [HX.out,Cd.Zdn (by omega)];simp
     ·rw [HU.out,d3,Bool.or_false]
   ·have HE3:=HB.out (by omega);subst HE3;go_wp2_with fail
    refine (ZbF x 0 15 _ h1).mono ?_;rintro e w9 ⟨rfl,rfl⟩;go_wp2_with fail
    go_ret
    exact ⟨rfl,hbel _⟩
  ·obtain rfl:k=16:=by omega
   have HF:Hid (Cd.sm f 16=0\/32768<Cd.sm f 16->E=1):=fun h=>HE.out.symm.trans (Cd.Zko hR.out h)
   have HO:Hid (¬ (Cd.sm f 16=0\/32768<Cd.sm f 16)->E=0):=fun h=>HE.out.symm.trans (Cd.Zhj hR.out h)
   have HV:Hid (Cd.sm f 16=0 ↔ Cd.used f 16=false):=Cd.ZsA 16 hR.out;clear hat;generalize Cd.sm f 16=s at *;generalize Cd.used f 16=u at *
   cases u with
   | false =>
    have:=HF.out (.inl (HV.out.2 rfl));subst this;go_wp2_with fail
    go_ret
    exact ⟨rfl,hbel _⟩
   | true =>
    by_cases h2:32768<s
    ·have d2:decide (32768<s)=true:=by simp;omega
     have:=HF.out (.inr h2);subst this;go_wp2_with fail
     go_ret
     exact ⟨rfl,hbel _⟩
    ·have d2:decide (32768<s)=false:=by simp;omega
     have:=HO.out (fun h=>h.elim (fun h=>by have:=HV.out.1 h;cases this) (fun h=>h2 h));subst this;go_wp2_with fail
     go_ret
     exact ⟨rfl,hbel _⟩
theorem ZcS (f:Nat->Int) (w:World) :
 Calls Tryz.prog 179 #[.agg (arr f)] w fun e w'=>e=.returned (.bool (decide (Cd.InR f 2048 16)))/\Below w.heap.size w w':=by
 have hin:=Zc f;have hix:=ZjP f;have hbel:∀ o,Below w.heap.size w (w.alloc o):=fun o=>(bR _ _).alloc (nl _) o
 generalize hE:decide (Cd.InR f 2048 16)=E at *;have HE:Hid (decide (Cd.InR f 2048 16)=E):=hE;clear hE;generalize arr f=c at *;go_enter Tryz.func179,Tryz.ntmps179
 go_wp2_with (refine wpList_load_row rfl 127 _ rfl w.heap.size rfl 127 c (0,0) _ (heap_alloc_last w _) U127 rfl hin ?_)
 go_loop [6] (fun i=>∃ k:Nat,k<=16/\i=.int .i64 k/\Hid (Cd.InR f 2048 k)) (fun i=>16 - (intOf i).toNat)
 case atStart=>exact ⟨0,by omega,rfl,fun i h=>by omega⟩
 case round =>
  obtain ⟨k,hk,rfl,hR⟩:=hrel;by_cases hlt:k<16
  ·have hi:=hix k hlt;have HB:Hid (f k<0\/2048<f k->E=false):=fun h=>HE.out.symm.trans (dF (Cd.Zik hlt h))
   have HN:Hid (0<=f k->f k<=2048->Cd.InR f 2048 (k+1)):=fun h1 h2=>hR.out.succ h1 h2
   clear hix hin;generalize f k=x at *;have hk1:decide ((k:Int)<16)=true:=by simp;omega
   have hk2:decide (k<16)=true:=by simp;omega
   by_cases h1:x<0
   ·have d1:decide (x<0)=true:=by simp;omega
    have HE3:=HB.out (.inl h1);subst HE3;go_wp2_with fail
    go_ret
    exact ⟨rfl,hbel _⟩
   ·have d1:decide (x<0)=false:=by simp;omega
    by_cases h2:2048<x
    ·have d2:decide (2048<x)=true:=by simp;omega
     have HE3:=HB.out (.inr h2);subst HE3;go_wp2_with fail
     go_ret
     exact ⟨rfl,hbel _⟩
    ·have d2:decide (2048<x)=false:=by simp;omega
     go_wp2_with fail
     exact ⟨⟨k+1,by omega,by go_num,HN.out (by omega) (by omega)⟩,by simp [intOf];omega⟩
  ·obtain rfl:k=16:=by omega
   have:=HE.out.symm.trans (zdT hR.out);subst this;clear hix hin;go_wp2_with fail
   go_ret
   exact ⟨rfl,hbel _⟩
theorem Zcd (f:Nat->Int) (w:World) :
 Calls Tryz.prog 184 #[.agg (arr f)] w fun e w'=>e=.returned (.bool (decide (Cd.InR f 2048 16)))/\Below w.heap.size w w':=by
 have hat:=Zcc f;have hbel:∀ o,Below w.heap.size w (w.alloc o):=fun o=>(bR _ _).alloc (nl _) o
 generalize hE:decide (Cd.InR f 2048 16)=E at *;have HE:Hid (decide (Cd.InR f 2048 16)=E):=hE;clear hE;generalize arr f=c at *;go_enter Tryz.func184,Tryz.ntmps184
 go_wp2_with fail
 go_loop [3] (fun i=>∃ k:Nat,k<=16/\i=.int .i64 k/\Hid (Cd.InR f 2048 k)) (fun i=>16 - (intOf i).toNat)
 case atStart=>exact ⟨0,by omega,rfl,fun i h=>by omega⟩
 case round =>
  obtain ⟨k,hk,rfl,hR⟩:=hrel;by_cases hlt:k<16
  ·have hi:=hat k hlt;have HB:Hid (f k<0\/2048<f k->E=false):=fun h=>HE.out.symm.trans (dF (Cd.Zik hlt h))
   have HN:Hid (0<=f k->f k<=2048->Cd.InR f 2048 (k+1)):=fun h1 h2=>hR.out.succ h1 h2
   clear hat;generalize f k=x at *;have hk1:decide ((k:Int)<16)=true:=by simp;omega
   have hk2:decide (k<16)=true:=by simp;omega
   by_cases h1:0<=x/\x<=2048
   ·obtain ⟨h1,h2⟩:=h1;go_wp2_with fail
    refine (ZV x 0 2048 _ h1 h2).mono ?_;rintro e w9 ⟨rfl,rfl⟩;go_wp2_with fail
    exact ⟨⟨k+1,by omega,by go_num,HN.out (by omega) (by omega)⟩,by simp [intOf];omega⟩
   ·have HE3:=HB.out (by omega);subst HE3;go_wp2_with fail
    refine (ZbF x 0 2048 _ h1).mono ?_;rintro e w9 ⟨rfl,rfl⟩;go_wp2_with fail
    go_ret
    exact ⟨rfl,hbel _⟩
  ·obtain rfl:k=16:=by omega
   have:=HE.out.symm.trans (zdT hR.out);subst this;clear hat;go_wp2_with fail
   go_ret
   exact ⟨rfl,hbel _⟩
theorem ZnA {f c:Nat->Int} (h:Cd.chk f=0) (h1:Cd.InR c 2048 16) (h2:Cd.cst f c 16=none):Cd.cost f c=(0,5):=by rw [Cd.cost,if_neg (by simpa using h),if_neg (by simpa using h1),h2]
def RowAt (w:World) (g:Nat) (f:Nat->Int):Prop:=g<w.heap.size/\w.heap[g]?=some (.cells (arr f) 127 (0,0))
theorem RowAt.below {g:Nat} {w w':World} {f:Nat->Int} (h:RowAt w g f) (hb:Below w.heap.size w w'):RowAt w' g f:=⟨Nat.lt_of_lt_of_le h.1 hb.size,by rw [hb.block g h.1];exact h.2⟩
theorem RowAt.cell {g:Nat} {w:World} {f:Nat->Int} (h:RowAt w g f) (k:Nat) (hk:k<16):w.cell? ⟨g,k,none⟩=some (.int .i64 (f k)):=by rw [cell_of_row w g k _ _ _ h.2,Zcc f k hk]
theorem RowAt.new (w:World) (f:Nat->Int):RowAt (w.alloc (.cells (arr f) 127)) w.heap.size f:=⟨by simp,heap_alloc_last w _⟩
theorem RowAt.alloc {g:Nat} {w:World} {f:Nat->Int} (h:RowAt w g f) (o:Obj):RowAt (w.alloc o) g f:=h.below ((Below.refl _ _).alloc (Nat.le_refl _) o)
theorem RowAt.two (w:World) (f c:Nat->Int):RowAt ((w.alloc (.cells (arr f) 127)).alloc (.cells (arr c) 127)) w.heap.size f/\RowAt ((w.alloc (.cells (arr f) 127)).alloc (.cells (arr c) 127)) (w.heap.size+1) c :=
 ⟨(RowAt.new w f).alloc _,by have:=RowAt.new (w.alloc (.cells (arr f) 127)) c;simpa using this⟩
theorem Zkk (w:World) (o p:Obj):Below w.heap.size w ((w.alloc o).alloc p):=((Below.refl _ _).alloc (Nat.le_refl _) o).alloc (by simp) p
end Go.Proofs.YtbjbjbpgmojcbabGreat
