/- A part of the proof: what it leans on. -/
import Derived.Maps.GroupsBeside
import Derived.Deep.AppendLies
import Derived.BigQuiet
import Derived.Deep.QuietTactic
import Derived.Lib.Strings
import Derived.Deep.DrawnRows
import Derived.Deep.RegionHeld3
import Derived.Test.YtbjbjbpgmojcbabGreatLsBook01
import Derived.Test.YtbjbjbpgmojcbabGreatLsBook02
import Derived.Test.YtbjbjbpgmojcbabGreatLsBook03
set_option maxRecDepth 4000
set_option maxHeartbeats 4000000
namespace Go.Proofs.YtbjbjbpgmojcbabGreat
open Go.RowKit Go.Maps Go.WideElems Go.ChangeShapes
open Go.WideMaps (keyOf_string_mk)
theorem slaw:Keyed Tryz.prog 9:=string_keyed Tryz.underlying9
theorem Zby (w:World):(zeroValue 191).run Tryz.prog w=.ok (.slice none 0 0) w:=by kernel_rfl
theorem skey (k:ByteArray) (h:k.size<=maxLen):keyOf Tryz.prog 9 (.string k)=some (.string k.data.toList):=keyOf_string_mk Tryz.underlying9 h
def ZmJ:DataW Value->List (DataW Value)
 | .slice es _=>es
 | _=>[]
def Zlk (D:DataW Value) (s:ByteArray) (r:Nat):Prop:=∀ k:List UInt8,ZmJ (D.atKey (.string k) .nil)=lits .i64 ((Tk.plc s.data.toList k r).map (fun p:Nat=>(p:Int)))
theorem Zka:∀ {a b:List Int},lits (H:=Value) .i64 a=lits .i64 b->a=b:=by
 intro a
 induction a with
 | nil=>intro b h;cases b with
  | nil=>rfl
  | cons x b=>simp [lits] at h
 | cons x a ih=>intro b h;cases b with
  | nil=>simp [lits] at h
  | cons y b =>
   simp only [lits,List.map_cons,List.cons.injEq,DataW.lit.injEq,Lit.int.injEq,true_and] at h;rw [h.1,ih (by unfold lits;exact h.2)]
theorem ZeV {w:World} {base:Nat} {v:Value} {zs:List Int} (h:w.ownsInts base 3 .i64 v zs):ZmJ (rowDatum .i64 v zs)=lits .i64 zs:=by
 rcases h.datum (H:=Value) with ⟨h1,rfl⟩ | h1
 ·rw [h1];rfl
 ·rw [h1];rfl
theorem ZgI {P:Program} {k E t:TypeId} {w w':World} {b:Nat} {R:Value->Option (DataW Value × List MemPlace)} {es:Array MapEntry} {clock:Nat} {z key v:Value} {kl:Lit} (K:Keyed P k) (ht:P.underlying t=some (.map k E))
 (hz:(zeroValue E).run P w=.ok z w) (hz':(zeroValue E).run P w'=.ok z w') (hb:w.heap[b]?=some (.map es clock)) (hb':w'.heap[b]?=w.heap[b]?) (F:Fit P k R es clock) (hkey:keyOf P k key=some kl)
 (h:(Instr.lookup t (.map (some b)) key false).run P w=.ok v w):(Instr.lookup t (.map (some b)) key false).run P w'=.ok v w':=by
 have F0:Fit P k (fun v=>some ((.held v:DataW Value),([]:List MemPlace))) es clock:=⟨F.size,F.stamped,fun x hx=>by
  obtain ⟨y,hy⟩:=F.reads x hx
  exact ⟨(y.1,.held x.val),by simp [rd,rd_key hy]⟩⟩
 rw [hb] at hb';rcases fit_look false K ht hz hb F0 hkey with ⟨r1,_,a1⟩ | ⟨e1,y1,_,_,r1,y1e,a1,_⟩ <;> rcases fit_look false K ht hz' hb' F0 hkey with ⟨r2,_,a2⟩ | ⟨e2,y2,_,_,r2,y2e,a2,_⟩
 ·rw [r1] at h;rw [r2];simp at h |-
  exact h
 ·exfalso
  have:=(a1 .nil).symm.trans (a2 .nil);have h2:=(a1 (.agg [])).symm.trans (a2 (.agg []));rw [<-this] at h2
  cases h2
 ·exfalso
  have:=(a2 .nil).symm.trans (a1 .nil);have h2:=(a2 (.agg [])).symm.trans (a1 (.agg []));rw [<-this] at h2
  cases h2
 ·rw [r1] at h;rw [r2];simp at h y1e y2e |-
  have:=(a1 .nil).symm.trans (a2 .nil);rw [<-y1e,<-y2e] at this;simp at this;rw [<-this,h]
structure PastAt (w:World) (base gp bm:Nat) (No:Nat->Prop) (s:ByteArray) (r:Nat):Prop where
 c0:w.cell? ⟨gp,0,none⟩=some (.string s)
 c1:w.cell? ⟨gp,1,none⟩=some (.map (some bm))
 c2:w.cell? ⟨gp,2,none⟩=some (.int .i64 (r:Nat))
 f2:w.frozen? ⟨gp,2,none⟩=false
 gb:gp<base
 ne:gp ≠ bm
 bs:base<=w.heap.size
 map:∃ D:DataW Value,IsMap D/\w.ownsGroups Tryz.prog 9 base 3 .i64 bm r D/\w.Shuns bm No/\Zlk D s r
structure Keeps (w w':World) (base gp bm:Nat) (No:Nat->Prop):Prop where
 os:w'.os=w.os
 tape:w'.tape=w.tape
 output:w'.output=w.output
 size:w.heap.size<=w'.heap.size
 block:∀ k,k<w.heap.size->k ≠ gp->k ≠ bm->(k<base\/No k)->w'.heap[k]?=w.heap[k]?
theorem Keeps.refl (w:World) (base gp bm:Nat) (No:Nat->Prop):Keeps w w base gp bm No:=⟨rfl,rfl,rfl,nl _,fun _ _ _ _ _=>rfl⟩
theorem Keeps.trans {a b c:World} {base gp bm:Nat} {No:Nat->Prop} (h:Keeps a b base gp bm No) (k:Keeps b c base gp bm No):Keeps a c base gp bm No :=
 ⟨k.os.trans h.os,k.tape.trans h.tape,k.output.trans h.output,Nat.le_trans h.size k.size,fun i h1 h2 h3 h4=>(k.block i (nT h1 h.size) h2 h3 h4).trans (h.block i h1 h2 h3 h4)⟩
theorem PastAt.below {w w':World} {base gp bm r:Nat} {No:Nat->Prop} {s:ByteArray} (h:PastAt w base gp bm No s r) (hb:Below w.heap.size w w'):PastAt w' base gp bm No s r:=by
 obtain ⟨D,hm,ho,hsh,hr⟩:=h.map
 have hg:w.grownBy w' none:=⟨hb.os,hb.tape,hb.output,hb.size,fun k hk _=>hb.block k hk⟩
 have hlt:gp<w.heap.size:=nT h.gb h.bs;have hbm:bm<w.heap.size:=by obtain ⟨es,clock,hb,_⟩:=ho;exact (Array.getElem?_eq_some_iff.1 hb).1
 refine ⟨?_,?_,?_,?_,h.gb,h.ne,Nat.le_trans h.bs hb.size,D,hm,ho.kept hg (by simp) (fun es clock _ x _=>by cases x.val.ownBlock <;> simp),hsh.kept hg hbm (by simp),hr⟩
 ·rw [hb.cell (by exact hlt)];exact h.c0
 ·rw [hb.cell (by exact hlt)];exact h.c1
 ·rw [hb.cell (by exact hlt)];exact h.c2
 ·rw [hb.frozen (by exact hlt)];exact h.f2
theorem ZoE {D:DataW Value} {s:ByteArray} {r:Nat} (hm:IsMap D) (h:Zlk D s r) {k:List UInt8} (hk:Tk.win s.data.toList r=k) {d:DataW Value} {zs:List Int} (hz:ZmJ (D.atKey (.string k) .nil)=lits .i64 zs) (hd:ZmJ d=lits .i64 (zs++[(r:Int)])):Zlk (D.put (.string k) d) s (r+1):=by
 intro k';rw [Tk.ZqP];by_cases e:k'=k
 ·subst e;rw [atKey_put_same hm (k:=.string k') (by exact trivial),hd,if_pos hk];have:=Zka ((h k').symm.trans hz);rw [List.map_append,this];rfl
 ·have e3:¬ Tk.win s.data.toList r=k':=fun e2=>e (e2.symm.trans hk)
  rw [atKey_put_other (by simp;exact e),h k',if_neg e3,List.append_nil]
theorem Zlj {w:World} {base gp bm r:Nat} {No:Nat->Prop} {s k:ByteArray} (h:PastAt w base gp bm No s r) (hr:r<1000000) (hk:k.size<=maxLen) (hwin:Tk.win s.data.toList r=k.data.toList) :
 ∃ (v:Value) (zs:List Int),(∀ w',w'.heap[bm]?=w.heap[bm]?->(Instr.lookup 173 (.map (some bm)) (.string k) false).run Tryz.prog w'=.ok v w')/\w.ownsRow base 3 1 v zs.length (zs.map (Value.int .i64))/\zs.length<=r ∧
  ∀ w1 v',w.grownBy w1 v.ownBlock->w1.ownsRow base 3 1 v' (zs.length+1) (zs.map (Value.int .i64)++[.int .i64 (r:Nat)])->(v.ownBlock=v'.ownBlock\/∃ g,v'.ownBlock=some g/\w.heap.size<=g/\¬ No g) →
   ∃ w2,(Instr.mapUpdate 173 (.map (some bm)) (.string k) v').run Tryz.prog w1=.ok () w2/\w1.grownBy w2 (some bm) ∧
    (∃ D:DataW Value,IsMap D/\w2.ownsGroups Tryz.prog 9 base 3 .i64 bm (r+1) D/\w2.Shuns bm No/\Zlk D s (r+1))/\Keeps w w2 base bm bm No:=by
 obtain ⟨D,hm,ho,hsh,hrd⟩:=h.map;have hbb:bm<base:=by obtain ⟨_,_,_,_,_,_,hbb,_⟩:=ho;exact hbb
 have hr2:r<maxLen:=by unfold maxLen;omega
 obtain ⟨v,zs,hrun,hat,hoi,hzl,hback⟩:=ho.at slaw Tryz.underlying173 (Zby w) hr2 (skey k hk)
 have hsv:∀ g,v.ownBlock=some g->¬ No g:=by
  obtain ⟨es,clock,hb,F,_⟩:=ho;rcases fit_look false slaw Tryz.underlying173 (Zby w) hb F (skey k hk) with ⟨hrun',_,_⟩ | ⟨e0,y,hm0,_,hrun',_,_,_⟩
  ·rw [hrun] at hrun';obtain rfl:v=.slice none 0 0:=by simpa using hrun'
   intro g hg'
   cases hg'
  ·rw [hrun] at hrun';obtain rfl:v=e0.val:=by simpa using hrun'
   exact fun g hg'=>hsh es clock hb e0 hm0 g hg'
 refine ⟨v,zs,fun w' hw'=>?_,hoi.1,hzl,fun w1 v' hg hown' hloc=>?_⟩
 ·obtain ⟨es,clock,hb,F,_⟩:=ho;exact ZgI slaw Tryz.underlying173 (Zby w) (Zby w') hb hw' F (skey k hk) hrun
 ·have hoi':=hoi.appended hown' (WalkArith.wf_i64 (by omega))
  have hloc':v'.ownBlock=v.ownBlock\/∃ g,v'.ownBlock=some g/\w.heap.size<=g:=by
   rcases hloc with h1 | ⟨g,h1,h2,_⟩
   ·exact .inl h1.symm
   ·exact .inr ⟨g,h1,h2⟩
  obtain ⟨w2,hrun2,ho2,hg2⟩:=hback w1 v' (zs++[(r:Int)]) hg hoi' (by simp;omega) hloc';refine ⟨w2,hrun2,hg2,⟨_,hm.put _ _,ho2,?_,?_⟩,?_⟩
  ·obtain ⟨es,clock,hb,F,hs,_,hbb,_⟩:=ho;have hblt:bm<w.heap.size:=(Array.getElem?_eq_some_iff.1 hb).1;have hb1:w1.heap[bm]?=some (.map es clock):=(hg.block bm hblt (fun e1=>by have:=(hoi.1.lt bm e1.symm).1;omega)).trans hb;obtain ⟨es',clock',hb2,hwho⟩:=stored_who slaw Tryz.underlying173 hb1 F (Nat.lt_of_le_of_lt hs hr2) (skey k hk) hrun2;intro es2 clock2 hb2' y hy g hyg;obtain ⟨rfl,rfl⟩:es'=es2/\clock'=clock2:=by rw [hb2] at hb2';simpa using hb2'
   rcases hwho y hy with ⟨hy0,_⟩ | ⟨_,hval⟩
   ·exact hsh es clock hb y hy0 g hyg
   ·rw [hval] at hyg;rcases hloc with h1 | ⟨g1,h1,_,h3⟩
    ·exact hsv g (by rw [h1];exact hyg)
    ·rw [h1] at hyg
     cases hyg
     exact h3
  ·exact ZoE hm hrd hwin (by rw [hat];exact ZeV hoi) (ZeV hoi')
  ·refine ⟨hg2.os.trans hg.os,hg2.tape.trans hg.tape,hg2.output.trans hg.output,Nat.le_trans hg.size hg2.size,fun i h1 _ h3 h4=>?_⟩;rw [hg2.block i (Nat.lt_of_lt_of_le h1 hg.size) (by simp;exact h3)];refine hg.block i h1 (fun e1=>?_);rcases h4 with h4 | h4
   ·have:=(hoi.1.lt i e1.symm).1;omega
   ·exact hsv i e1.symm h4
theorem Keeps.wide {w w':World} {base bm:Nat} {No:Nat->Prop} (h:Keeps w w' base bm bm No) (gp:Nat):Keeps w w' base gp bm No:=⟨h.os,h.tape,h.output,h.size,fun k h1 _ h3 h4=>h.block k h1 h3 h3 h4⟩
theorem Keeps.cell {w w':World} {base gp bm:Nat} {No:Nat->Prop} (h:Keeps w w' base gp bm No) {p:Addr} (h1:p.block<w.heap.size) (h2:p.block ≠ gp) (h3:p.block ≠ bm) (h4:p.block<base\/No p.block):w'.cell? p=w.cell? p:=cB (w:=w) (h.block p.block h1 h2 h3 h4)
theorem Keeps.frozen {w w':World} {base gp bm:Nat} {No:Nat->Prop} (h:Keeps w w' base gp bm No) {p:Addr} (h1:p.block<w.heap.size) (h2:p.block ≠ gp) (h3:p.block ≠ bm) (h4:p.block<base\/No p.block):w'.frozen? p=w.frozen? p:=fB (w:=w) (h.block p.block h1 h2 h3 h4)
theorem Keeps.below {w w':World} {base gp bm B:Nat} {No:Nat->Prop} (h:Keeps w w' base gp bm No) (h1:B<=gp) (h2:B<=bm) (h3:B<=base) (h4:B<=w.heap.size):Below B w w' :=
 ⟨h.os,h.tape,h.output,h.size,fun k hk=>h.block k (by omega) (by omega) (by omega) (.inl (by omega))⟩
theorem Keeps.of_below {w w':World} {base gp bm:Nat} {No:Nat->Prop} (h:Below w.heap.size w w'):Keeps w w' base gp bm No:=⟨h.os,h.tape,h.output,h.size,fun k hk _ _ _=>h.block k hk⟩
theorem Keeps.setCell {w w':World} {base gp bm:Nat} {No:Nat->Prop} (h:Keeps w w' base gp bm No) (o:Nat) (u:Value):Keeps w (w'.setCell ⟨gp,o,none⟩ u) base gp bm No :=
 h.trans ⟨rfl,rfl,rfl,by simp,fun k _ h2 _ _=>Below.heap_setCell _ _ _ _ h2⟩
theorem ZnL {w:World} {base gp bm r:Nat} {No:Nat->Prop} {s:ByteArray} (c0:w.cell? ⟨gp,0,none⟩=some (.string s)) (c1:w.cell? ⟨gp,1,none⟩=some (.map (some bm))) (c2:w.cell? ⟨gp,2,none⟩=some (.int .i64 (r:Nat))) (f2:w.frozen? ⟨gp,2,none⟩=false)
 (hgb:gp<base) (hne:gp ≠ bm) (hbs:base<=w.heap.size) (hmap:∃ D:DataW Value,IsMap D/\w.ownsGroups Tryz.prog 9 base 3 .i64 bm (r+1) D/\w.Shuns bm No/\Zlk D s (r+1)) :
 PastAt (w.setCell ⟨gp,2,none⟩ (.int .i64 ((r+1:Nat):Int))) base gp bm No s (r+1):=by
 obtain ⟨D,hm,ho,hsh,hrd⟩:=hmap;have hlt:gp<w.heap.size:=nT hgb hbs;have hbm:bm<w.heap.size:=by obtain ⟨es,clock,hb,_⟩:=ho;exact (Array.getElem?_eq_some_iff.1 hb).1
 have hg:w.grownBy (w.setCell ⟨gp,2,none⟩ (.int .i64 ((r+1:Nat):Int))) (some gp):=⟨rfl,rfl,rfl,by simp,fun k _ h2=>Below.heap_setCell _ _ _ _ (fun e=>h2 (by rw [e]))⟩
 refine ⟨?_,?_,?_,?_,hgb,hne,by simpa using hbs,D,hm,ho.kept hg (by simp;exact fun e=>hne e.symm) (ho.rowsAbove (fun j hj=>by cases hj;exact hgb)),hsh.kept hg hbm (by simp;exact fun e=>hne e.symm),hrd⟩
 ·exact (World.cell?_setCell_other w ⟨gp,2,none⟩ ⟨gp,0,none⟩ _ (by simp)).trans c0
 ·exact (World.cell?_setCell_other w ⟨gp,2,none⟩ ⟨gp,1,none⟩ _ (by simp)).trans c1
 ·exact cS w _ _ c2
 ·rw [fS];exact f2
theorem Zny (s:ByteArray) (a b:Nat) (ha:a<s.size) (hb:b<s.size):((s[a].toNat:Int) == (s[b].toNat:Int))=decide (s.data.toList[a]?=s.data.toList[b]?):=by
 rw [Nm.ZN s a ha,Nm.ZN s b hb];by_cases h:s[a]=s[b]
 ·simp [h]
 ·have:¬ (s[a].toNat:Int)=(s[b].toNat:Int):=fun e=>h (UInt8.toNat_inj.1 (by omega))
  simp [h,this]
theorem ZoT (w:World) (n m:Nat):(w.drewN n).drewN m=w.drewN (n+m):=by simp [World.drewN,Nat.add_assoc]
theorem Zji (s:ByteArray) (i:Int) (n:Nat) (h:i=(n:Int)) (hn:n<s.size) (w:World):(Instr.index 9 (.string s) (.int .i64 i)).run Tryz.prog w=.ok (.int .u8 (s[n].toNat:Int)) w:=by
 subst h;rw [run_index_string w _ _ _ _ Tryz.underlying9];simp [hn]
theorem Zqn (s:ByteArray) (at_ far:Nat) (w:World) (hs:s.size<=2000) (ha:at_<=s.size) (hf1:1<=far) (hf:far<=at_) :
 Calls Tryz.prog 165 #[.string s,.int .i64 at_,.int .i64 far] w fun e w'=>e=.returned (.int .i64 (Tk.alk s.data.toList (at_ - far) at_ (min 64 (s.size - at_)):Nat))/\Below w.heap.size w w':=by
 have hs2:(s.size:Int)<=2000:=by omega
 have ha2:(at_:Int)<=2000:=by omega
 have hf2:(far:Int)<=(at_:Int):=by omega
 go_enter Tryz.func165,Tryz.ntmps165
 go_wp2_with fail
 go_loopw [7] (fun x wr=>∃ k:Nat,k<=64/\at_+k<=s.size/\x=.int .i64 k/\Hid (∀ j,j<k->s.data.toList[at_ - far+j]?=s.data.toList[at_+j]?)/\Below w.heap.size w wr) (fun x _=>64 - (intOf x).toNat)
 case atStart=>exact ⟨0,by omega,by omega,rfl,fun j h=>by omega,bR _ _⟩
 case round =>
  obtain ⟨k,hk,hka,rfl,hall,G⟩:=hrel;have hr1:IntKind.i64.wrap ((at_:Int)+(k:Int))=(at_:Int)+(k:Int):=IntWalk.i64_in _ ⟨by omega,by omega⟩;have hr2:IntKind.i64.wrap ((at_:Int)+(k:Int) - (far:Int))=(at_:Int)+(k:Int) - (far:Int):=IntWalk.i64_in _ ⟨by omega,by omega⟩;by_cases h64:k<64
  ·have d1:decide ((k:Int)<64)=true:=by simp;omega
   have d1':decide (k<64)=true:=by simp;omega
   by_cases hend:at_+k<s.size
   ·have d2:decide ((at_:Int)+(k:Int)<(s.size:Int))=true:=by simp;omega
    have hb:=Zny s (at_+k) (at_+k - far) hend (by omega);have hx1:=Zji s ((at_:Int)+(k:Int)) (at_+k) (by omega) hend;have hx2:=Zji s ((at_:Int)+(k:Int) - (far:Int)) (at_+k - far) (by omega) (by omega);generalize (s[at_+k].toNat:Int)=x at *;generalize (s[at_+k - far].toNat:Int)=y at *;by_cases he:s.data.toList[at_+k]?=s.data.toList[at_+k - far]?
    ·rw [zdT he] at hb
     have HE:Hid (s.data.toList[at_ - far+k]?=s.data.toList[at_+k]?):=by
      show _=_;rw [he,show at_ - far+k=at_+k - far by omega]
     clear he;go_wp2_with fail
     go_quiet (fail)
     go_wp2_with fail
     go_roundw
     case rel =>
      refine ⟨k+1,by omega,by omega,by go_num,?_,below_drewN G _⟩;intro j hj;by_cases hjk:j=k
      ·subst hjk;exact HE.out
      ·exact hall.out j (by omega)
     case measure=>simp [intOf];omega
    ·rw [dF he] at hb
     have HE:Hid (Tk.alk s.data.toList (at_ - far) at_ (min 64 (s.size - at_))=k):=by
      refine Tk.ZhK _ _ _ _ _ (by omega) hall.out (Or.inr (fun e=>he ?_));rw [<-e,show at_ - far+k=at_+k - far by omega]
     clear he;go_wp2_with fail
     go_quiet (fail)
     go_wp2_with fail
     go_ret
     exact ⟨by rw [HE.out];rfl,below_drewN G _⟩
   ·have d2:decide ((at_:Int)+(k:Int)<(s.size:Int))=false:=by simp;omega
    have HE:Hid (Tk.alk s.data.toList (at_ - far) at_ (min 64 (s.size - at_))=k):=Tk.ZhK _ _ _ _ _ (by omega) hall.out (Or.inl (by omega));go_wp2_with fail
    go_quiet (fail)
    go_wp2_with fail
    go_ret
    exact ⟨by rw [HE.out];rfl,below_drewN G _⟩
  ·have d1:decide ((k:Int)<64)=false:=by simp;omega
   have d1':decide (k<64)=false:=by simp;omega
   have HE:Hid (Tk.alk s.data.toList (at_ - far) at_ (min 64 (s.size - at_))=k):=Tk.ZhK _ _ _ _ _ (by omega) hall.out (Or.inl (by omega));go_wp2_with fail
   go_quiet (fail)
   go_wp2_with fail
   go_ret
   exact ⟨by rw [HE.out];rfl,below_drewN G _⟩
theorem Znh (gp:Nat) (s:ByteArray) (a b m:Nat) (w:World) (hc:w.cell? ⟨gp,0,none⟩=some (.string s)) (hs:s.size<=2000) (ha:a+m<=s.size) (hb0:b+m<=s.size) :
 Calls Tryz.prog 177 #[.pointer (some ⟨gp,0,none⟩),.int .i64 a,.int .i64 b,.int .i64 m] w fun e w'=>e=.returned (.int .i64 (Tk.alk s.data.toList a b m:Nat))/\∃ n,w'=w.drewN n:=by
 have hs2:(s.size:Int)<=2000:=by omega
 have hm2:(m:Int)<=2000:=by omega
 go_enter Tryz.func177,Tryz.ntmps177
 go_wp2_with fail
 go_loopw [9] (fun x wr=>∃ k:Nat,k<=m/\x=.int .i64 k/\Hid (∀ j,j<k->s.data.toList[a+j]?=s.data.toList[b+j]?)/\∃ n,wr=w.drewN n) (fun x _=>m - (intOf x).toNat)
 case atStart=>exact ⟨0,by omega,rfl,fun j h=>by omega,0,rfl⟩
 case round =>
  obtain ⟨k,hk,rfl,hall,n,rfl⟩:=hrel;by_cases h64:k<m
  ·have d1:decide ((k:Int)<(m:Int))=true:=by simp;omega
   have d1':decide (k<m)=true:=by simp;omega
   have hr1:IntKind.i64.wrap ((a:Int)+(k:Int))=(a:Int)+(k:Int):=IntWalk.i64_in _ ⟨by omega,by omega⟩;have hr2:IntKind.i64.wrap ((b:Int)+(k:Int))=(b:Int)+(k:Int):=IntWalk.i64_in _ ⟨by omega,by omega⟩;have hb:=Zny s (a+k) (b+k) (by omega) (by omega);have hx1:=Zji s ((a:Int)+(k:Int)) (a+k) (by omega) (by omega);have hx2:=Zji s ((b:Int)+(k:Int)) (b+k) (by omega) (by omega);generalize (s[a+k].toNat:Int)=x at *;generalize (s[b+k].toNat:Int)=y at *;by_cases he:s.data.toList[a+k]?=s.data.toList[b+k]?
   ·rw [zdT he] at hb;have HE:Hid (s.data.toList[a+k]?=s.data.toList[b+k]?):=he;clear he;go_wp2_with fail
    go_quiet (fail)
    go_wp2_with fail
    go_roundw
    case rel =>
     refine ⟨k+1,by omega,by go_num,?_,_,rfl⟩;intro j hj;by_cases hjk:j=k
     ·subst hjk;exact HE.out
     ·exact hall.out j (by omega)
    case measure=>simp [intOf];omega
   ·rw [dF he] at hb;have HE:Hid (Tk.alk s.data.toList a b m=k):=Tk.ZhK _ _ _ _ _ (by omega) hall.out (Or.inr he);clear he;go_wp2_with fail
    go_quiet (fail)
    go_wp2_with fail
    go_ret
    exact ⟨by rw [HE.out];rfl,_,ZoT _ _ _⟩
  ·have d1:decide ((k:Int)<(m:Int))=false:=by simp;omega
   have d1':decide (k<m)=false:=by simp;omega
   have HE:Hid (Tk.alk s.data.toList a b m=k):=Tk.ZhK _ _ _ _ _ (by omega) hall.out (Or.inl (by omega));go_wp2_with fail
   go_quiet (fail)
   go_wp2_with fail
   go_ret
   exact ⟨by rw [HE.out];rfl,_,ZoT _ _ _⟩
theorem Zmf {w:World} {base gp bm r:Nat} {No:Nat->Prop} {s k:ByteArray} (h:PastAt w base gp bm No s r) (hr:r<1000000) (hk:k.size<=maxLen) :
 ∃ ad cap,(∀ w',w'.heap[bm]?=w.heap[bm]?->(Instr.lookup 173 (.map (some bm)) (.string k) false).run Tryz.prog w'=.ok (.slice ad (Tk.plc s.data.toList k.data.toList r).length cap) w') ∧
  (Tk.plc s.data.toList k.data.toList r=[]\/∃ g,ad=some ⟨g,0,none⟩/\∀ i p,(Tk.plc s.data.toList k.data.toList r)[i]?=some p->w.cell? ⟨g,i,none⟩=some (.int .i64 (p:Nat))):=by
 obtain ⟨D,hm,ho,hsh,hrd⟩:=h.map;have hr2:r<maxLen:=by unfold maxLen;omega
 obtain ⟨v,zs,hrun,hat,hoi,hzl,hback⟩:=ho.at slaw Tryz.underlying173 (Zby w) hr2 (skey k hk);have hz:zs=(Tk.plc s.data.toList k.data.toList r).map (fun p:Nat=>(p:Int)):=Zka ((ZeV hoi).symm.trans ((congrArg ZmJ hat).symm.trans (hrd k.data.toList)));subst hz
 have hrun':∀ w',w'.heap[bm]?=w.heap[bm]?->(Instr.lookup 173 (.map (some bm)) (.string k) false).run Tryz.prog w'=.ok v w':=fun w' hw'=>by
  obtain ⟨es,clock,hb,F,_⟩:=ho;exact ZgI slaw Tryz.underlying173 (Zby w) (Zby w') hb hw' F (skey k hk) hrun
 rcases hoi.1.2 with ⟨rfl,h0⟩ | ⟨g,cap,cur,rfl,_⟩
 ·have h1:Tk.plc s.data.toList k.data.toList r=[]:=List.eq_nil_of_length_eq_zero (by simpa using h0);refine ⟨none,0,fun w' hw'=>?_,.inl h1⟩;rw [h1];exact hrun' w' hw'
 ·refine ⟨some ⟨g,0,none⟩,cap,fun w' hw'=>?_,.inr ⟨g,rfl,fun i p hp=>?_⟩⟩
  ·have:=hrun' w' hw';simpa using this
  ·have hi:i<(Tk.plc s.data.toList k.data.toList r).length:=(List.getElem?_eq_some_iff.1 hp).1;have:=hoi.1.cellAt i (by simpa using hi);rw [this];simp [hp]
theorem Zeb (s:ByteArray) (i j:Int) (a b:Nat) (hi:i=(a:Int)) (hj:j=(b:Int)) (hab:a<=b) (hb:b<=s.size) (w:World):(Instr.slice 9 (.string s) (some (.int .i64 i)) (some (.int .i64 j)) none).run Tryz.prog w=.ok (.string (s.extract a b)) w:=by
 subst hi hj;have:=run_slice_string (P:=Tryz.prog) w 9 s .i64 .i64 (a:Int) (b:Int) Tryz.underlying9 (by omega) (by omega) (by omega);simpa using this
theorem Zgj (gp:Nat) (s:ByteArray) (a:Nat) (w:World) (hc:w.cell? ⟨gp,0,none⟩=some (.string s)) (hs:s.size<=2000) (hm:s.size<a+3) (ha:a<=s.size) :
 Calls Tryz.prog 157 #[.pointer (some ⟨gp,0,none⟩),.int .i64 a] w fun e w'=>e=.returned (.tuple #[.int .i64 0,.int .i64 0])/\∃ n,w'=w.drewN n:=by
 have _hs:=hs;have hw:IntKind.i64.wrap ((s.size:Int) - (a:Int))=(s.size:Int) - (a:Int):=IntWalk.i64_in _ ⟨by omega,by omega⟩;have d1:decide ((s.size:Int) - (a:Int)<3)=true:=by simp;omega
 go_enter Tryz.func157,Tryz.ntmps157
 go_wp2_with fail
 go_ret2
 exact ⟨rfl,0,rfl⟩
theorem ZmS {l:List UInt8} {a m j p:Nat} {zs:List Nat} {b:Nat × Nat} (h:zs[j]?=some p):((zs.take (j+1)).reverse).foldl (Tk.stp l a m) b=((zs.take j).reverse).foldl (Tk.stp l a m) (Tk.stp l a m b p):=by
 rw [List.take_add_one,h];simp
theorem ZdL (gp bm g cap:Nat) (s:ByteArray) (a m:Nat) (zs:List Nat) (ad:Option Addr) (w:World) (hc:w.cell? ⟨gp,0,none⟩=some (.string s)) (hc1:w.cell? ⟨gp,1,none⟩=some (.map (some bm))) (hs:s.size<=2000) (hm:a+3<=s.size)
 (hmm:Hid (m=min 64 (s.size - a))) (hz:zs.length<=2000)
 (hlk:∀ w',w'.heap[bm]?=w.heap[bm]?->(Instr.lookup 173 (.map (some bm)) (.string (s.extract a (a+3))) false).run Tryz.prog w'=.ok (.slice ad zs.length cap) w')
 (hcl:zs=[]\/(ad=some ⟨g,0,none⟩/\∀ i p,zs[i]?=some p->p<a/\w.cell? ⟨g,i,none⟩=some (.int .i64 (p:Nat)))) :
 Calls Tryz.prog 157 #[.pointer (some ⟨gp,0,none⟩),.int .i64 a] w fun e w'=>e=.returned (.tuple #[.int .i64 ((zs.reverse.foldl (Tk.stp s.data.toList a m) (0,0)).1:Nat),.int .i64 ((zs.reverse.foldl (Tk.stp s.data.toList a m) (0,0)).2:Nat)])/\∃ n,w'=w.drewN n:=by
 have hw:IntKind.i64.wrap ((s.size:Int) - (a:Int))=(s.size:Int) - (a:Int):=IntWalk.i64_in _ ⟨by omega,by omega⟩;have hw2:IntKind.i64.wrap ((a:Int)+3)=(a:Int)+3:=IntWalk.i64_in _ ⟨by omega,by omega⟩;have d1:decide ((m:Int)<3)=false:=by have:=hmm.out;simp;omega
 have hmin:min ((s.size:Int) - (a:Int)) 64=(m:Int):=by have:=hmm.out;omega
 have hlk1:∀ n,(Instr.lookup 173 (.map (some bm)) (.string (s.extract a (a+3))) false).run Tryz.prog (w.drewN n)=.ok (.slice ad zs.length cap) (w.drewN n):=fun n=>hlk _ rfl
 have hsl:=Zeb s (a:Int) ((a:Int)+3) a (a+3) rfl (by omega) (by omega) (by omega);have hsn:¬ (64:Int)<(m:Int):=by have:=hmm.out;omega
 obtain ⟨bb,hbb⟩:∃ bb,zs.reverse.foldl (Tk.stp s.data.toList a m) (0,0)=bb:=⟨_,rfl⟩
 rw [hbb];have HB:Hid (zs.reverse.foldl (Tk.stp s.data.toList a m) (0,0)=bb):=hbb;clear hbb hlk;go_enter Tryz.func157,Tryz.ntmps157
 go_wp2_with fail
 go_quiet (fail)
 go_wp2_with fail
 go_loopw [10,7,8,11] (fun x y z _ wr=>∃ (i:Int) (j far n:Nat),x=.int .i64 i/\Hid (i=(j:Int) - 1)/\j<=zs.length/\y=.int .i64 far/\z=.int .i64 n/\far<=a/\n<=m/\Hid (((zs.take j).reverse).foldl (Tk.stp s.data.toList a m) (far,n)=bb)/\∃ k,wr=w.drewN k) (fun x _ _ _ _=>(intOf x+1).toNat)
 case atStart=>exact ⟨_,zs.length,0,0,rfl,rfl,nl _,rfl,rfl,by omega,by omega,by show _=_;rw [List.take_length];exact HB.out,_,rfl⟩
 case round =>
  obtain ⟨i,j,far,n,rfl,hi,hj,rfl,rfl,hfar,hn,hfold,kk,rfl⟩:=hrel
  cases j with
  | zero =>
   have h1:i=-1:=by have:=hi.out;omega
   subst h1
   have HE:Hid (bb=(far,n)):=by
    show _=_;rw [<-hfold.out];rfl
   clear hfold hcl hi;go_wp2_with fail
   go_ret2
   rw [HE.out];exact ⟨rfl,_,rfl⟩
  | succ j =>
   have h1:i=(j:Int):=by have:=hi.out;omega
   subst h1;clear hi;by_cases hfull:n<m
   ·have d2:decide ((n:Int)<(m:Int))=true:=by simp;omega
    have d2':decide (n<m)=true:=by simp;omega
    obtain ⟨p,hp⟩:∃ p,zs[j]?=some p:=⟨zs[j],List.getElem?_eq_getElem (by omega)⟩
    rcases hcl with h0 | ⟨rfl,hcell⟩
    ·rw [h0] at hj;simp at hj
    ·obtain ⟨hpa,hce⟩:=hcell j p hp;have hfs:=ZmS (l:=s.data.toList) (a:=a) (m:=m) (b:=(far,n)) hp;have hcd:(w.drewN kk).cell? ⟨gp,0,none⟩=some (.string s):=hc;have hced:∀ k,(w.drewN k).cell? ⟨g,j,none⟩=some (.int .i64 (p:Nat)):=fun _=>hce
     have hm3:=hmm.out;have hal:=Znh gp s p a m (w.drewN kk) hcd hs (by omega) (by omega);have hjl:j<zs.length:=by omega
     have hjl2:(j:Int)<(zs.length:Int):=by omega
     have hkm:=Tk.Zkr s.data.toList m p a;have hwp:IntKind.i64.wrap ((a:Int) - (p:Int))=(a:Int) - (p:Int):=IntWalk.i64_in _ ⟨by omega,by omega⟩
     obtain ⟨k,hk⟩:∃ k,Tk.alk s.data.toList p a m=k:=⟨_,rfl⟩
     rw [hk] at hal hkm;by_cases hbig:n<k
     ·have HF:Hid (((zs.take j).reverse).foldl (Tk.stp s.data.toList a m) (a - p,k)=bb):=by
       show _=_;rw [<-hfold.out,hfs];unfold Tk.stp;rw [hk,if_pos (by exact hbig)]
      have d3:decide ((n:Int)<(k:Int))=true:=by simp;omega
      have d3':decide (n<k)=true:=by simp;omega
      have HM:Hid (m=min 64 (s.size - a)):=hm3;clear hm3 hfs hfold hk hp hcell;go_wp2_with (go_at_call 177;go_must (refine hal.mono ?_;rintro e w1 ⟨rfl,k2,rfl⟩;rw [ZoT]))
      go_roundw
      case rel=>exact ⟨_,j,a - p,k,rfl,by show _=_;omega,by omega,by simp;omega,rfl,by omega,hkm,HF,_,rfl⟩
      case measure=>simp [intOf]
     ·have HF:Hid (((zs.take j).reverse).foldl (Tk.stp s.data.toList a m) (far,n)=bb):=by
       show _=_;rw [<-hfold.out,hfs];unfold Tk.stp;rw [hk,if_neg (by exact hbig)]
      have d3:decide ((n:Int)<(k:Int))=false:=by simp;omega
      have d3':decide (n<k)=false:=by simp;omega
      have HM:Hid (m=min 64 (s.size - a)):=hm3;clear hm3 hfs hfold hk hp hcell;go_wp2_with (go_at_call 177;go_must (refine hal.mono ?_;rintro e w1 ⟨rfl,k2,rfl⟩;rw [ZoT]))
      go_roundw
      case rel=>exact ⟨_,j,far,n,rfl,by show _=_;omega,by omega,rfl,rfl,hfar,hn,HF,_,rfl⟩
      case measure=>simp [intOf]
   ·have d2:decide ((n:Int)<(m:Int))=false:=by simp;omega
    have d2':decide (n<m)=false:=by simp;omega
    have HE:Hid (bb=(far,n)):=by
     show _=_;rw [<-hfold.out,Tk.ZoM (by simp;omega)]
    clear hfold hcl;go_wp2_with fail
    go_ret2
    rw [HE.out];exact ⟨rfl,_,rfl⟩
namespace Go.Proofs.YtbjbjbpgmojcbabGreat.Tk
open Go.Proofs.YtbjbjbpgmojcbabGreat
def one (s:ByteArray):Option (T × Nat) :=
 match Nm.Zk s.data.toList with
 | none=>none
 | some x =>
  if x.1 % 2=1 then
   match Nm.Zk (s.extract x.2 s.size).data.toList with
   | none=>none
   | some y=>some (⟨⟨#[]⟩,y.1,(x.1 / 2:Nat)⟩,x.2+y.2)
  else if s.size - x.2<x.1 / 2 then none else some (⟨s.extract x.2 (x.2+x.1 / 2),0,0⟩,x.2+x.1 / 2)
theorem Zac (s:ByteArray) (a b:Nat):(s.extract a b).data.toList=(s.data.toList.drop a).take (b - a):=Lib.extract_data s a b
theorem ZS (s:ByteArray) (a:Nat):(s.extract a s.size).data.toList=s.data.toList.drop a:=by
 rw [Zac,List.take_of_length_le];rw [List.length_drop];simp
theorem Zn (s:ByteArray) (a:Nat):(s.extract a s.size).size=s.size - a:=by simp
theorem Zdk {s:ByteArray} {t:T} {k:Nat} (h:one s=some (t,k)):1<=k/\k<=s.size:=by
 unfold one at h
 cases hf:Nm.Zk s.data.toList with
 | none=>rw [hf] at h;simp at h
 | some x =>
  rw [hf] at h;have hb:=Nm.Zah (n:=x.1) (k:=x.2) hf;have hk:x.2<=s.size:=by simpa using hb.2.2.1
  simp only at h;by_cases ho:x.1 % 2=1
  ·rw [if_pos ho] at h
   cases hg:Nm.Zk (s.extract x.2 s.size).data.toList with
   | none=>rw [hg] at h;simp at h
   | some y =>
    rw [hg] at h;have hb2:=Nm.Zah (n:=y.1) (k:=y.2) hg;rw [ZS] at hb2;simp only [Option.some.injEq,Prod.mk.injEq] at h;have h3:=hb2.2.2.1;rw [List.length_drop] at h3;have h4:s.data.toList.length=s.size:=by simp
    omega
  ·rw [if_neg ho] at h;by_cases hl:s.size - x.2<x.1 / 2
   ·rw [if_pos hl] at h;simp at h
   ·rw [if_neg hl] at h;simp only [Option.some.injEq,Prod.mk.injEq] at h;omega
def dec:Nat->ByteArray->Option (List T)
 | 0,s=>if s.size=0 then some [] else none
 | f+1,s=>if s.size=0 then some [] else
  match one s with
  | none=>none
  | some (t,k)=>(dec f (s.extract k s.size)).map (t :: ·)
theorem ZeB (f:Nat) {s:ByteArray} (h:s.size=0):dec f s=some []:=by cases f <;> simp [dec,h]
theorem Zpy:∀ (f g:Nat) (s:ByteArray),s.size<=f->s.size<=g->dec f s=dec g s:=by
 intro f
 induction f with
 | zero =>
  intro g s h1 h2;rw [ZeB _ (by omega),ZeB _ (by omega)]
 | succ f ih =>
  intro g s h1 h2;by_cases h0:s.size=0
  ·rw [ZeB _ h0,ZeB _ h0]
  ·cases g with
   | zero=>omega
   | succ g =>
    simp only [dec,h0,if_false]
    cases ho:one s with
    | none=>rfl
    | some x =>
     obtain ⟨t,k⟩:=x;have hp:=Zdk ho;simp only;rw [ih g (s.extract k s.size) (by rw [Zn];omega) (by rw [Zn];omega)]
def D (s:ByteArray):Option (List T):=dec s.size s
theorem Zpb {s:ByteArray} (h:s.size=0):D s=some []:=ZeB _ h
theorem ZgG {s:ByteArray} (h0:s.size ≠ 0) (h:one s=none):D s=none:=by
 unfold D
 obtain ⟨n,hn⟩:∃ n,s.size=n+1:=⟨s.size - 1,by omega⟩
 rw [hn,dec,if_neg (by omega),h]
theorem Zhl {s:ByteArray} {t:T} {k:Nat} (h:one s=some (t,k)):D s=(D (s.extract k s.size)).map (t :: ·):=by
 have hp:=Zdk h;unfold D
 obtain ⟨n,hn⟩:∃ n,s.size=n+1:=⟨s.size - 1,by omega⟩
 have e:dec s.size s=dec (n+1) s:=by rw [hn]
 rw [e,dec,if_neg (by omega),h];simp only;rw [Zpy n (s.extract k s.size).size (s.extract k s.size) (by rw [Zn];omega) (Nat.le_refl _)]
theorem Zid (d:Nat):∀ (l:List T) (s:List UInt8) (p:Bool) (s1:List UInt8),d<=s.length->s.length<=d+512->run d s p l=(0,s1)->s.length+l.length<=s1.length/\s1.length<=d+512:=by
 intro l
 induction l with
 | nil=>intro s p s1 h1 h2 h;simp [run] at h;subst h;simp;exact h2
 | cons t l ih =>
  intro s p s1 h1 h2 h
  have he:err d s p t=0:=by
   by_cases e:err d s p t=0
   ·exact e
   ·rw [Zaf e] at h;simp only [Prod.mk.injEq] at h;exact absurd h.1 e
  rw [Zam he] at h;have hm:=Zcu he;have h3:=hm.2.2.2.2
  have h5:1<=t.lit.size+t.len.toNat:=by
   by_cases h0:t.lit.size=0
   ·have:=hm.2.2.1 h0;omega
   ·omega
  have:=ih (make s t) _ s1 (by omega) (by omega) h;simp only [List.length_cons];omega
end Go.Proofs.YtbjbjbpgmojcbabGreat.Tk
attribute [local go_sem ↓] Go.wp_at_zero Go.wp_at_succ
theorem box6 {w w1:World} {x y z:Value} {T:TypeId} (hb:Below (w.alloc (.cells #[x,y,z] T)).heap.size (w.alloc (.cells #[x,y,z] T)) w1) :
 w1.cell? ⟨w.heap.size,0,none⟩=some x/\w1.cell? ⟨w.heap.size,1,none⟩=some y/\w1.cell? ⟨w.heap.size,2,none⟩=some z ∧
  w1.frozen? ⟨w.heap.size,0,none⟩=false/\w1.frozen? ⟨w.heap.size,1,none⟩=false/\w1.frozen? ⟨w.heap.size,2,none⟩=false:=by
 refine ⟨(hb.cell (by simp)).trans ?_,(hb.cell (by simp)).trans ?_,(hb.cell (by simp)).trans ?_,(hb.frozen (by simp)).trans ?_,(hb.frozen (by simp)).trans ?_,(hb.frozen (by simp)).trans ?_⟩
 ·rw [World.cell?_alloc_mark];rfl
 ·rw [World.cell?_alloc_mark];rfl
 ·rw [World.cell?_alloc_mark];rfl
 ·rw [World.frozen?_alloc_mark];simp
 ·rw [World.frozen?_alloc_mark];simp
 ·rw [World.frozen?_alloc_mark];simp
theorem set3 {B:Nat} {a w:World} (h:Below B a w) {g:Nat} (hg:B<=g) (x y z:Value):Below B a (((w.setCell ⟨g,0,none⟩ x).setCell ⟨g,1,none⟩ y).setCell ⟨g,2,none⟩ z) :=
 ((h.setCell (p:=⟨g,0,none⟩) hg _).setCell (p:=⟨g,1,none⟩) hg _).setCell (p:=⟨g,2,none⟩) hg _
theorem Zlv (s:ByteArray) (w:World) (hs:s.size<=281474976710656) (h:Nm.Zk s.data.toList=none) :
 Calls Tryz.prog 208 #[.string s] w fun e w'=>e=.returned (.tuple #[.agg #[.string ⟨#[]⟩,.int .i64 0,.int .i64 0],.string ⟨#[]⟩,.int .i64 1])/\Below w.heap.size w w':=by
 have hc:=fun w=>Zgs s w hs h
 clear h;go_enter Tryz.func208,Tryz.ntmps208
 go_wp2_with fail
 refine (hc _).mono ?_;rintro e w1 ⟨rfl,G⟩;clear hc;obtain ⟨q0,q1,q2,q3,q4,q5⟩:=box6 G;have G1:=bch ((bR _ _).alloc (nl _) _) G (nl _);go_wp2_with fail
 exact bodyPost_ret (v:=.tuple #[.agg #[.string ⟨#[]⟩,.int .i64 0,.int .i64 0],.string ⟨#[]⟩,.int .i64 1]) (by simp [results,Tryz.results208,go_sem,q0,q1,q2]) rfl ⟨rfl,set3 G1 (Nat.le_refl _) _ _ _⟩
theorem ZoN (s r:ByteArray) (w:World) (hs:s.size<=281474976710656) (n k f j:Nat) (h:Nm.Zk s.data.toList=some (n,k)) (hr:s.extract k s.size=r) (ho:n % 2=1) (hf:Nm.Zk r.data.toList=some (f,j)) :
 Calls Tryz.prog 208 #[.string s] w fun e w'=>e=.returned (.tuple #[.agg #[.string ⟨#[]⟩,.int .i64 f,.int .i64 (n / 2:Nat)],.string (r.extract j r.size),.int .i64 0])/\Below w.heap.size w w':=by
 have hc:=fun w=>Zbv s w n k hs h
 have hn:(n:Int)<=2147483647:=by have:=Nm.Zah h;omega
 rw [hr] at hc;have hc2:=fun w=>Zbv r w f j (by rw [<-hr];exact Nm.ZcQ hs) hf
 have ho1:((n:Int) % 2 == 1)=true:=by simp;omega
 have ho2:(n:Int) % 2=1:=by omega
 have hq:((n / 2:Nat):Int)=(n:Int) / 2:=by omega
 rw [hq];clear h hf hr hq ho;go_enter Tryz.func208,Tryz.ntmps208
 go_wp2_with fail
 refine (hc _).mono ?_;rintro e w1 ⟨rfl,G⟩;clear hc;go_wp2_with fail
 refine (hc2 _).mono ?_;rintro e w2 ⟨rfl,G2⟩;clear hc2;have G3:=bch G G2 (nl _);obtain ⟨q0,q1,q2,q3,q4,q5⟩:=box6 G3;have G1:=bch ((bR _ _).alloc (nl _) _) G3 (nl _);clear G G2 G3;go_wp2_with fail
 exact bodyPost_ret (v:=.tuple #[.agg #[.string ⟨#[]⟩,.int .i64 f,.int .i64 ((n:Int) / 2)],.string (r.extract j r.size),.int .i64 0]) (by simp [results,Tryz.results208,go_sem,q0,q1,q2]) rfl ⟨rfl,set3 G1 (Nat.le_refl _) _ _ _⟩
theorem ZhE (s r:ByteArray) (w:World) (hs:s.size<=281474976710656) (n k:Nat) (h:Nm.Zk s.data.toList=some (n,k)) (hr:s.extract k s.size=r) (ho:n % 2=1) (hf:Nm.Zk r.data.toList=none) :
 Calls Tryz.prog 208 #[.string s] w fun e w'=>e=.returned (.tuple #[.agg #[.string ⟨#[]⟩,.int .i64 0,.int .i64 (n / 2:Nat)],.string ⟨#[]⟩,.int .i64 1])/\Below w.heap.size w w':=by
 have hc:=fun w=>Zbv s w n k hs h
 have hn:(n:Int)<=2147483647:=by have:=Nm.Zah h;omega
 rw [hr] at hc;have hc2:=fun w=>Zgs r w (by rw [<-hr];exact Nm.ZcQ hs) hf
 have ho1:((n:Int) % 2 == 1)=true:=by simp;omega
 have ho2:(n:Int) % 2=1:=by omega
 have hq:((n / 2:Nat):Int)=(n:Int) / 2:=by omega
 rw [hq];clear h hf hr hq ho;go_enter Tryz.func208,Tryz.ntmps208
 go_wp2_with fail
 refine (hc _).mono ?_;rintro e w1 ⟨rfl,G⟩;clear hc;go_wp2_with fail
 refine (hc2 _).mono ?_;rintro e w2 ⟨rfl,G2⟩;clear hc2;have G3:=bch G G2 (nl _);obtain ⟨q0,q1,q2,q3,q4,q5⟩:=box6 G3;have G1:=bch ((bR _ _).alloc (nl _) _) G3 (nl _);clear G G2 G3;go_wp2_with fail
 exact bodyPost_ret (v:=.tuple #[.agg #[.string ⟨#[]⟩,.int .i64 0,.int .i64 ((n:Int) / 2)],.string ⟨#[]⟩,.int .i64 1]) (by simp [results,Tryz.results208,go_sem,q0,q1,q2]) rfl ⟨rfl,set3 G1 (Nat.le_refl _) _ _ _⟩
theorem ZgA (s r:ByteArray) (w:World) (hs:s.size<=281474976710656) (n k:Nat) (h:Nm.Zk s.data.toList=some (n,k)) (hr:s.extract k s.size=r) (ho:¬ n % 2=1) (hbig:r.size<n / 2) :
 Calls Tryz.prog 208 #[.string s] w fun e w'=>e=.returned (.tuple #[.agg #[.string ⟨#[]⟩,.int .i64 0,.int .i64 0],.string ⟨#[]⟩,.int .i64 1])/\Below w.heap.size w w':=by
 have hc:=fun w=>Zbv s w n k hs h
 have hn:(n:Int)<=2147483647:=by have:=Nm.Zah h;omega
 rw [hr] at hc;have ho1:((n:Int) % 2 == 1)=false:=by simp;omega
 have hb1:decide ((r.size:Int)<(n:Int) / 2)=true:=by simp;omega
 have hb2:(r.size:Int)<(n:Int) / 2:=by omega
 clear h hr hbig ho;go_enter Tryz.func208,Tryz.ntmps208
 go_wp2_with fail
 refine (hc _).mono ?_;rintro e w1 ⟨rfl,G⟩;clear hc;obtain ⟨q0,q1,q2,q3,q4,q5⟩:=box6 G;have G1:=bch ((bR _ _).alloc (nl _) _) G (nl _);go_wp2_with fail
 exact bodyPost_ret (v:=.tuple #[.agg #[.string ⟨#[]⟩,.int .i64 0,.int .i64 0],.string ⟨#[]⟩,.int .i64 1]) (by simp [results,Tryz.results208,go_sem,q0,q1,q2]) rfl ⟨rfl,set3 G1 (Nat.le_refl _) _ _ _⟩
theorem Zlc (s r:ByteArray) (w:World) (hs:s.size<=281474976710656) (n k m:Nat) (h:Nm.Zk s.data.toList=some (n,k)) (hr:s.extract k s.size=r) (ho:¬ n % 2=1) (hm:n / 2=m) (hbig:m<=r.size) :
 Calls Tryz.prog 208 #[.string s] w fun e w'=>e=.returned (.tuple #[.agg #[.string (r.extract 0 m),.int .i64 0,.int .i64 0],.string (r.extract m r.size),.int .i64 0])/\Below w.heap.size w w':=by
 have hc:=fun w=>Zbv s w n k hs h
 have hn:(n:Int)<=2147483647:=by have:=Nm.Zah h;omega
 rw [hr] at hc;have hrs:r.size<=281474976710656:=by rw [<-hr];exact Nm.ZcQ hs
 have ho1:((n:Int) % 2 == 1)=false:=by simp;omega
 have hq:(n:Int) / 2=(m:Int):=by omega
 have hb1:decide ((r.size:Int)<(m:Int))=false:=by simp;omega
 have hb3:decide (r.size<m)=false:=by simp;omega
 have hi1:(0:Int)<=(m:Int):=by omega
 have hi2:(m:Int)<=(r.size:Int):=by omega
 clear h hr hbig ho hm;go_enter Tryz.func208,Tryz.ntmps208
 go_wp2_with fail
 refine (hc _).mono ?_;rintro e w1 ⟨rfl,G⟩;clear hc;go_wp2_with fail
 go_region_with (go_at_call 69;refine (ZP _ _ (Nm.ZcQ hrs)).mono ?_;rintro e w2 ⟨rfl,hb⟩;have G3:=bch G.drew hb (nl _);obtain ⟨q0,q1,q2,q3,q4,q5⟩:=box6 G3)
 all_goals go_wp2_with fail
 all_goals exact bodyPost_ret (v:=.tuple #[.agg #[.string (r.extract 0 m),.int .i64 0,.int .i64 0],.string (r.extract m r.size),.int .i64 0]) (by simp [results,Tryz.results208,go_sem,q0,q1,q2]) rfl ⟨rfl,set3 (bch ((Below.refl _ _).alloc (Nat.le_refl _) _) G3 (Nat.le_refl _)) (Nat.le_refl _) _ _ _⟩
theorem ZqN (s:ByteArray) (w:World) (hs:s.size<=281474976710656) (h:Tk.one s=none) :
 Calls Tryz.prog 208 #[.string s] w fun e w'=>∃ lit far len r,e=.returned (.tuple #[.agg #[.string lit,.int .i64 far,.int .i64 len],.string r,.int .i64 1])/\Below w.heap.size w w':=by
 unfold Tk.one at h
 cases hf:Nm.Zk s.data.toList with
 | none=>exact (Zlv s w hs hf).mono fun e w' he=>⟨_,_,_,_,he.1,he.2⟩
 | some x =>
  rw [hf] at h;simp only at h;by_cases ho:x.1 % 2=1
  ·rw [if_pos ho] at h
   cases hg:Nm.Zk (s.extract x.2 s.size).data.toList with
   | none=>exact (ZhE s _ w hs x.1 x.2 hf rfl ho hg).mono fun e w' he=>⟨_,_,_,_,he.1,he.2⟩
   | some y=>rw [hg] at h;simp at h
  ·rw [if_neg ho] at h;by_cases hl:s.size - x.2<x.1 / 2
   ·exact (ZgA s _ w hs x.1 x.2 hf rfl ho (by rw [Tk.Zn];exact hl)).mono fun e w' he=>⟨_,_,_,_,he.1,he.2⟩
   ·rw [if_neg hl] at h;simp at h
theorem Zml (s:ByteArray) (w:World) (hs:s.size<=281474976710656) (t:Tk.T) (k:Nat) (h:Tk.one s=some (t,k)) :
 Calls Tryz.prog 208 #[.string s] w fun e w'=>e=.returned (.tuple #[.agg #[.string t.lit,.int .i64 t.far,.int .i64 t.len],.string (s.extract k s.size),.int .i64 0])/\Below w.heap.size w w':=by
 unfold Tk.one at h
 cases hf:Nm.Zk s.data.toList with
 | none=>rw [hf] at h;simp at h
 | some x =>
  rw [hf] at h;simp only at h;by_cases ho:x.1 % 2=1
  ·rw [if_pos ho] at h
   cases hg:Nm.Zk (s.extract x.2 s.size).data.toList with
   | none=>rw [hg] at h;simp at h
   | some y =>
    rw [hg] at h;simp only [Option.some.injEq,Prod.mk.injEq] at h;obtain ⟨rfl,rfl⟩:=h;have hc:=ZoN s _ w hs x.1 x.2 y.1 y.2 hf rfl ho hg
    have e:(s.extract x.2 s.size).extract y.2 (s.extract x.2 s.size).size=s.extract (x.2+y.2) s.size:=by
     apply Nm.ZG;rw [Tk.ZS,Tk.ZS,Tk.ZS,List.drop_drop]
    rw [e] at hc;exact hc
  ·rw [if_neg ho] at h;by_cases hl:s.size - x.2<x.1 / 2
   ·rw [if_pos hl] at h;simp at h
   ·rw [if_neg hl] at h;simp only [Option.some.injEq,Prod.mk.injEq] at h;obtain ⟨rfl,rfl⟩:=h;have hc:=Zlc s _ w hs x.1 x.2 (x.1 / 2) hf rfl ho rfl (by rw [Tk.Zn];omega)
    have e1:(s.extract x.2 s.size).extract 0 (x.1 / 2)=s.extract x.2 (x.2+x.1 / 2):=by
     apply Nm.ZG;rw [Tk.Zac,Tk.ZS,Tk.Zac];simp
    have e2:(s.extract x.2 s.size).extract (x.1 / 2) (s.extract x.2 s.size).size=s.extract (x.2+x.1 / 2) s.size:=by
     apply Nm.ZG;rw [Tk.ZS,Tk.ZS,Tk.ZS,List.drop_drop]
    rw [e1,e2] at hc;exact hc
def tcs:List Tk.T->List Value
 | []=>[]
 | t :: l=>.string t.lit :: .int .i64 t.far :: .int .i64 t.len :: tcs l
theorem Zao (a b:List Tk.T):tcs (a++b)=tcs a++tcs b:=by
 induction a with
 | nil=>rfl
 | cons t a ih=>simp [tcs,ih]
theorem ZlN (a:List Tk.T):(tcs a).length=a.length*3:=by
 induction a with
 | nil=>rfl
 | cons t a ih=>simp [tcs,ih];omega
theorem ZtW:∀ (l:List Tk.T) (i:Nat) (h:i<l.length),(tcs l)[i*3]?=some (.string l[i].lit)/\(tcs l)[i*3+1]?=some (.int .i64 l[i].far)/\(tcs l)[i*3+2]?=some (.int .i64 l[i].len):=by
 intro l
 induction l with
 | nil=>intro i h;simp at h
 | cons t l ih =>
  intro i h
  cases i with
  | zero=>simp [tcs]
  | succ i =>
   have:=ih i (by simpa using h);rw [show (i+1)*3=i*3+3 by omega,show i*3+3+1=i*3+1+3 by omega,show i*3+3+2=i*3+2+3 by omega];simpa [tcs] using this
theorem ZcX:(Tryz.prog.info? 165).map (fun i=>(i.zero,i.size,i.bytes))=some (some (.agg #[.string ⟨#[]⟩,.int .i64 0,.int .i64 0]),3,32):=by kernel_rfl
theorem ZbL {w:World} {B n:Nat} {v:Value} {l:List Tk.T} (h:w.ownsRow B 165 3 v n (tcs l)):∃ ad cap,v=.slice ad l.length cap/\SlAt w ad l:=by
 have hlen:=h.1;rw [ZlN] at hlen;have hn:n=l.length:=by omega
 subst hn;rcases h.2 with ⟨rfl,h0⟩ | ⟨g,cap,cur,rfl,hb,hg,hnc,hcm,hcs,htk⟩
 ·have:l=[]:=List.eq_nil_of_length_eq_zero h0;subst this;exact ⟨none,0,rfl,.inl rfl⟩
 ·refine ⟨some ⟨g,0,none⟩,cap,rfl,.inr ⟨g,0,rfl,(Array.getElem?_eq_some_iff.1 hg).1,fun i hi=>?_⟩⟩
  have hat:∀ j u,(tcs l)[j]?=some u->w.cell? ⟨g,0+j,none⟩=some u:=by
   intro j u hj;rw [Nat.zero_add,cell_of_row w g j cur _ _ hg];rw [<-htk,List.getElem?_take] at hj;split at hj
   ·simpa using hj
   ·simp at hj
  have:=ZtW l i hi;exact ⟨hat _ _ this.1,hat _ _ this.2.1,hat _ _ this.2.2⟩
theorem one3 (x y z:Value) (hx:x.oneCell'=true) (hy:y.oneCell'=true) (hz:z.oneCell'=true):∀ u ∈ [x,y,z],u.oneCell'=true:=by
 intro u hu;simp at hu;rcases hu with rfl | rfl | rfl <;> assumption
theorem ZhC (w:World) (x y z:Value) (T:TypeId):∀ j u,[x,y,z][j]?=some u->(w.alloc (.cells #[x,y,z] T)).cell? ((⟨w.heap.size,0,none⟩:Addr).add j)=some u:=by
 intro j u hj;rw [ZaY,World.cell?_alloc_mark];simpa using hj
theorem Znc (dict s:ByteArray) (w:World) (hd:dict.size<=256) (hs:1024<s.size) :
 Calls Tryz.prog 187 #[.string dict,.string s] w fun e w'=>e=.returned (.tuple #[.slice none 0 0,.int .i64 1])/\Below w.heap.size w w':=by
 have h:decide ((256:Int)<(dict.size:Int))=false:=by simp;omega
 have h':(dict.size:Int)<=256:=by omega
 have h2:decide ((1024:Int)<(s.size:Int))=true:=by simp;omega
 have h2':(1024:Int)<(s.size:Int):=by omega
 go_enter Tryz.func187,Tryz.ntmps187
 go_wp2_with fail
 go_step3
 go_wp2_with fail
 rw [Exit.noGoto_ret];go_ret2
 exact ⟨rfl,bR _ _⟩
def ZC (dict s:ByteArray):Option (List Tk.T) :=
 match Tk.D s with
 | none=>none
 | some l=>if (Tk.run dict.size dict.data.toList false l).1=0 then some l else none
def Zua:Value->Nat | .string s=>s.size | _=>0
theorem Zh {w w':World} {B n size:Nat} {e:TypeId} {v:Value} {xs:List Value} (h:w.ownsRow B e size v n xs) (hb:Below w.heap.size w w'):w'.ownsRow B e size v n xs :=
 h.kept (row:=none) ⟨hb.os,hb.tape,hb.output,hb.size,fun k hk _=>hb.block k hk⟩ (by cases v.ownBlock <;> simp)
theorem ZrS {w w':World} {B B' g n size:Nat} {e:TypeId} {v:Value} {xs:List Value} (h:w.ownsRow B e size v n xs) (hb:Below B' w w') (hk:∀ k,k<w.heap.size->k ≠ g->w'.heap[k]?=w.heap[k]?) (hg:g<B):w'.ownsRow B e size v n xs :=
 h.kept (row:=some g) ⟨hb.os,hb.tape,hb.output,hb.size,fun k hk1 hne=>hk k hk1 (fun e=>hne (by rw [e]))⟩ (.inr (fun e=>by have:=(h.lt g e).1;omega))
theorem Ztl {w w':World} {g:Nat} {x y z:Value} {T:TypeId} (hk:∀ k,k<(w.alloc (.cells #[x,y,z] T)).heap.size->k ≠ g->w'.heap[k]?=(w.alloc (.cells #[x,y,z] T)).heap[k]?) (hg:g<w.heap.size) :
 w'.cell? ⟨w.heap.size,0,none⟩=some x/\w'.cell? ⟨w.heap.size,1,none⟩=some y/\w'.cell? ⟨w.heap.size,2,none⟩=some z:=by
 have e:∀ j,w'.cell? ⟨w.heap.size,j,none⟩=(w.alloc (.cells #[x,y,z] T)).cell? ⟨w.heap.size,j,none⟩:=fun j=>World.cell?_of_block (w:=w.alloc (.cells #[x,y,z] T)) (hk w.heap.size (by simp) (by omega))
 refine ⟨?_,?_,?_⟩
 ·rw [e,World.cell?_alloc_mark];rfl
 ·rw [e,World.cell?_alloc_mark];rfl
 ·rw [e,World.cell?_alloc_mark];rfl
theorem MkAt.grown {w w':World} {B g n:Nat} {D M:Int} {L:Bool} {v:Value} {xs:List Value} {e:TypeId} (h:MkAt w B g D M L) (ho:w.ownsRow (g+1) e 3 v n xs) (hg:w.grownBy w' v.ownBlock):MkAt w' B g D M L:=by
 obtain ⟨a,b,c0,c1,c2,f1,f2⟩:=h;have hb:=hg.block g b (fun e=>by have:=(ho.lt g e.symm).1;omega);refine ⟨a,nT b hg.size,?_,?_,?_,?_,?_⟩
 ·rw [cB (w:=w) (by exact hb)];exact c0
 ·rw [cB (w:=w) (by exact hb)];exact c1
 ·rw [cB (w:=w) (by exact hb)];exact c2
 ·rw [fB (w:=w) (by exact hb)];exact f1
 ·rw [fB (w:=w) (by exact hb)];exact f2
theorem Zob {S:ByteArray} {t:Tk.T} {k:Nat} (h:Tk.one S=some (t,k)):t.lit.size<=S.size:=by
 unfold Tk.one at h
 cases hf:Nm.Zk S.data.toList with
 | none=>rw [hf] at h;simp at h
 | some x =>
  rw [hf] at h;simp only at h;split at h
  ·split at h
   ·simp at h
   ·simp only [Option.some.injEq,Prod.mk.injEq] at h;rw [<-h.1];exact Nat.zero_le _
  ·split at h
   ·simp at h
   ·simp only [Option.some.injEq,Prod.mk.injEq] at h;rw [<-h.1];exact Nm.ZcQ (Nat.le_refl _)
theorem Zim {dict s S:ByteArray} {l:List Tk.T} (h1:Tk.D s=(Tk.D S).map (l++·)) (h2:Tk.D S=none):ZC dict s=none:=by
 unfold ZC;rw [h1,h2];rfl
theorem ZlR {dict s S S2:ByteArray} {l:List Tk.T} {t:Tk.T} {k:Nat} {st:List UInt8} {p:Bool} (h1:Tk.D s=(Tk.D S).map (l++·)) (h2:Tk.one S=some (t,k)) (h3:S.extract k S.size=S2)
 (h4:∀ m,Tk.run dict.size dict.data.toList false (l++m)=Tk.run dict.size st p m) (h5:Tk.err dict.size st p t ≠ 0):ZC dict s=none:=by
 unfold ZC;rw [h1,Tk.Zhl h2,h3]
 cases Tk.D S2 with
 | none=>rfl
 | some m =>
  simp only [Option.map_some];rw [h4,Tk.Zaf h5,if_neg h5]
theorem Zli {dict s S:ByteArray} {l:List Tk.T} {st:List UInt8} {p:Bool} (h1:Tk.D s=(Tk.D S).map (l++·)) (h2:S.size=0)
 (h4:∀ m,Tk.run dict.size dict.data.toList false (l++m)=Tk.run dict.size st p m):ZC dict s=some l:=by
 unfold ZC;rw [h1,Tk.Zpb h2];simp only [Option.map_some,List.append_nil];have:=h4 [];rw [List.append_nil] at this;rw [this];rfl
theorem ZkX (dict s:ByteArray) (w:World) (hd:dict.size<=256) (hs:s.size<=1024) :
 Calls Tryz.prog 187 #[.string dict,.string s] w fun e w'=>Below w.heap.size w w' ∧
  ((ZC dict s=none/\e=.returned (.tuple #[.slice none 0 0,.int .i64 1]))\/∃ l ad cap,ZC dict s=some l/\e=.returned (.tuple #[.slice ad l.length cap,.int .i64 0])/\SlAt w' ad l):=by
 have h:decide ((256:Int)<(dict.size:Int))=false:=by simp;omega
 have h':(dict.size:Int)<=256:=by omega
 have h2:decide ((1024:Int)<(s.size:Int))=false:=by simp;omega
 have h2':(s.size:Int)<=1024:=by omega
 obtain ⟨i0,hi,hz0,hz1,hz2⟩:=info_parts ZcX;generalize hRO:ZC dict s=RO at *;have HRO:Hid (ZC dict s=RO):=hRO;clear hRO;go_enter Tryz.func187,Tryz.ntmps187
 go_wp2_with fail
 go_step3
 go_wp2_with fail
 go_step3
 go_wp2_with fail
 go_loopw [1,6] (fun x v wr=>∃ (S:ByteArray) (l:List Tk.T) (st:List UInt8) (p:Bool),x=.string S/\wr.ownsRow (w.heap.size+1) 165 3 v l.length (tcs l)/\Hid (Tk.D s=(Tk.D S).map (l++·)) ∧
  Hid (∀ m,Tk.run dict.size dict.data.toList false (l++m)=Tk.run dict.size st p m)/\l.length+dict.size<=st.length/\st.length<=dict.size+512/\MkAt wr w.heap.size w.heap.size dict.size ((st.length:Int) - dict.size) p/\S.size<=1024/\Below w.heap.size w wr)
  (fun x _ _=>Zua x)
 case atStart =>
  refine ⟨s,[],dict.data.toList,false,rfl,World.ownsRow_nil _ _ _ _,?_,fun m=>rfl,by simp,by simp,?_,hs,(Below.refl _ _).alloc (Nat.le_refl _) _⟩
  ·show _=_
   cases Tk.D s <;> rfl
  ·have e:((dict.data.toList.length:Int) - dict.size)=0:=by simp
   rw [e];exact ⟨Nat.le_refl _,by simp,by rw [World.cell?_alloc_mark];rfl,by rw [World.cell?_alloc_mark];rfl,by rw [World.cell?_alloc_mark];rfl,by rw [World.frozen?_alloc_mark];simp,by rw [World.frozen?_alloc_mark];simp⟩
 case round =>
  obtain ⟨S,l,st,p,rfl,hown,hD,hrun,hs1,hs2,hm,hS,G⟩:=hrel;by_cases h0:S.size=0
  ·have hE0:=Zaq h0
   have HX:Hid (RO=some l):=by
    show _=_;rw [<-HRO.out];exact Zli hD.out h0 hrun.out
   clear hm;go_wp2_with fail
   try rw [Exit.noGoto_ret]
   go_ret2
   obtain ⟨ad,cap,hv,hsl⟩:=ZbL hown;exact ⟨G,.inr ⟨l,ad,cap,HX.out,by rw [<-hv];rfl,hsl⟩⟩
  ·have hE0:=ZX h0;have hgs:=G.size;have hgm:=hm.2.1
   cases ho:Tk.one S with
   | none =>
    have HX:Hid (RO=none):=by
     show _=_;rw [<-HRO.out];exact Zim hD.out (Tk.ZgG h0 ho)
    have hc:=fun w=>ZqN S w (by omega) ho
    clear hm hD hrun ho;go_wp2_with fail
    refine (hc _).mono ?_;rintro e w1 ⟨lit,far,len,r,rfl,hb1⟩;clear hc;go_wp2_with fail
    try rw [Exit.noGoto_ret]
    go_ret2
    exact ⟨(bch G hb1 (nl _)).alloc (Nat.le_trans hgs hb1.size) _,.inl ⟨HX.out,rfl⟩⟩
   | some x =>
    obtain ⟨t,kk⟩:=x;have hc:=fun w=>Zml S w (by omega) t kk ho
    have hpos:=Tk.Zdk ho
    obtain ⟨S2,hS2⟩:∃ S2,S.extract kk S.size=S2:=⟨_,rfl⟩
    rw [hS2] at hc;have hS2s:S2.size<S.size:=by rw [<-hS2,Tk.Zn];omega
    have hS2b:S2.size<=1024:=by omega
    have hlit:t.lit.size<=140737488355328:=by
     have:=Zob ho;omega
    have HB:Hid (Tk.err dict.size st p t ≠ 0->RO=none):=by
     intro he;rw [<-HRO.out];exact ZlR hD.out ho hS2 hrun.out he
    have HD2:Hid (Tk.D s=(Tk.D S2).map ((l++[t])++·)):=by
     show _=_;rw [hD.out,Tk.Zhl ho,hS2]
     cases Tk.D S2 <;> simp
    have hef:=Zjh dict.size st p t _ rfl;have HE:Hid (Tk.err dict.size st p t=if fits dict.size ((st.length:Int) - dict.size) p t.lit t.far t.len=false then 1 else if 512<(st.length:Int) - dict.size+t.lit.size+t.len then 2 else 0):=hef;have Hm:Hid (MkAt wr w.heap.size w.heap.size dict.size ((st.length:Int) - dict.size) p):=hm;have HO:Hid (wr.ownsRow (w.heap.size+1) 165 3 u6 l.length (tcs l)):=hown;have hM0:0<=(st.length:Int) - dict.size:=by omega
    have hM1:(st.length:Int) - dict.size<=512:=by omega
    have hD0:(0:Int)<=(dict.size:Int):=by omega
    have HS:Hid (S2.size<S.size):=hS2s;clear hm hD ho hef hown hS2 hpos hS2s
    cases hF:fits dict.size ((st.length:Int) - dict.size) p t.lit t.far t.len with
    | false =>
     have HX:Hid (RO=none):=HB.out (by rw [HE.out,if_pos hF];omega);go_wp2_with fail
     refine (hc _).mono ?_;rintro e w1 ⟨rfl,hb1⟩;clear hc
     have Hm1:=(Hm.out.below hb1)
     have G1:=bch G hb1 (nl _);have hgs1:=G1.size;go_wp2_with (go_at_call 178;go_must (refine (Zjw w.heap.size w.heap.size dict.size ((st.length:Int) - dict.size) p t.lit t.far t.len _ (Hm1.alloc _) hD0 h' hM0 hM1 hF).mono ?_;rintro e w3 ⟨rfl,hb3⟩))
     try rw [Exit.noGoto_ret]
     go_ret2
     exact ⟨bch (G1.alloc hgs1 _) hb3 (nl _),.inl ⟨HX.out,rfl⟩⟩
    | true =>
     have hln:=ZjS hF;by_cases hbig:512<(st.length:Int) - dict.size+t.lit.size+t.len
     ·have HX:Hid (RO=none):=HB.out (by rw [HE.out,if_neg (by rw [hF];simp),if_pos hbig];omega);go_wp2_with fail
      refine (hc _).mono ?_;rintro e w1 ⟨rfl,hb1⟩;clear hc
      have Hm1:=(Hm.out.below hb1)
      have G1:=bch G hb1 (nl _);have hgs1:=G1.size;go_wp2_with (go_at_call 178;go_must (refine (Zjv w.heap.size w.heap.size dict.size ((st.length:Int) - dict.size) p t.lit t.far t.len _ (Hm1.alloc _) hD0 h' hM0 hM1 hlit hln hF hbig).mono ?_;rintro e w3 ⟨rfl,hb3⟩))
      try rw [Exit.noGoto_ret]
      go_ret2
      exact ⟨bch (G1.alloc hgs1 _) hb3 (nl _),.inl ⟨HX.out,rfl⟩⟩
     ·have he:Tk.err dict.size st p t=0:=by rw [HE.out,if_neg (by rw [hF];simp),if_neg hbig]
      have hmk:=Tk.Zcu he;have HK:Hid ((Tk.make st t).length=st.length+t.lit.size+t.len.toNat):=hmk.1
      have HL:Hid (1<=t.lit.size+t.len.toNat):=by
       show _<=_;by_cases h0:t.lit.size=0
       ·have:=hmk.2.2.1 h0;omega
       ·omega
      have HRn:Hid (∀ m,Tk.run dict.size dict.data.toList false ((l++[t])++m)=Tk.run dict.size (Tk.make st t) (decide (t.lit.size ≠ 0)) m):=by
       intro m;rw [List.append_assoc,hrun.out];exact Tk.Zam he
      have HD:Hid ((!t.lit.toList.isEmpty)=decide (t.lit.size ≠ 0)):=by
       show _=_;by_cases h0:t.lit.size=0
       ·rw [Zaq h0];simp [h0]
       ·rw [ZX h0];simp [h0]
      have hl512:l.length<=512:=by omega
      clear he hmk;go_wp2_with fail
      refine (hc _).mono ?_;rintro e w1 ⟨rfl,hb1⟩;clear hc
      have Hm1:=(Hm.out.below hb1)
      have G1:=bch G hb1 (Nat.le_refl _);have hgs1:=G1.size;have hgm1:w.heap.size<w1.heap.size:=Nat.lt_of_lt_of_le hgm hb1.size;have HO1:=Zh HO.out hb1;go_wp2_with (first | (go_at_call 178;go_must (refine (Zrs w.heap.size w.heap.size dict.size ((st.length:Int) - dict.size) p t.lit t.far t.len _ (Hm1.alloc _) hD0 h' hM0 hM1 hln hF (by omega)).mono ?_;rintro e w3 ⟨rfl,hb3,hm3,hk3⟩;obtain ⟨q0,q1,q2⟩:=Ztl hk3.out hgm1;have HO3:=ZrS (HO1.alloc _) hb3 hk3.out (Nat.lt_succ_self _);have hgs3:=hb3.size)) | (at_builtin;go_must (refine wpList_append_own _ rfl _ _ 131 rfl (w.heap.size+1) 165 i0 (.agg #[.string ⟨#[]⟩,.int .i64 0,.int .i64 0]) 3 32 Tryz.underlying131 hi hz0 hz1 hz2 rfl (by decide) _ _ _ rfl (HO3.alloc _) ⟨w3.heap.size,0,none⟩ 1 1 [.string t.lit,.int .i64 t.far,.int .i64 t.len] rfl rfl (ZhC _ _ _ _ _) (one3 _ _ _ rfl rfl rfl) (ZaO (by omega)) (by omega) (by simp at hgs3 |-;omega) ?_;intro v4 w4 hown4 hgrow4 _)))
      go_roundw
      case rel =>
       have hkl:=HK.out;have hl1:=HL.out;have htc:tcs (l++[t])=tcs l++[.string t.lit,.int .i64 t.far,.int .i64 t.len]:=Zao _ _;refine ⟨S2,l++[t],Tk.make st t,decide (t.lit.size ≠ 0),rfl,by rw [htc,List.length_append];exact hown4,HD2,HRn,by simp;omega,by omega,?_,hS2b,?_⟩
       ·rw [<-HD.out,show ((Tk.make st t).length:Int) - dict.size=(st.length:Int) - dict.size+t.lit.size+t.len by omega];exact (hm3.alloc _).grown (HO3.alloc _) hgrow4
       ·have hB3:=(G1.alloc hgs1 _).trans hb3;exact (hB3.alloc hB3.size _).grown hgrow4 (by have:=hB3.size;simp;omega) (fun k hk=>by have:=(HO3.lt k hk).1;omega)
      case measure=>exact HS.out
theorem Zqf (dict s:ByteArray) (w:World) (hd:dict.size<=256) (hlong:1024<s.size->ZC dict s=none) :
 Calls Tryz.prog 187 #[.string dict,.string s] w fun e w'=>Below w.heap.size w w' ∧
  ((ZC dict s=none/\e=.returned (.tuple #[.slice none 0 0,.int .i64 1]))\/∃ l ad cap,ZC dict s=some l/\e=.returned (.tuple #[.slice ad l.length cap,.int .i64 0])/\SlAt w' ad l):=by
 by_cases hs:s.size<=1024
 ·exact ZkX dict s w hd hs
 ·exact (Znc dict s w hd (by omega)).mono fun e w' he=>⟨he.2,.inl ⟨hlong (by omega),he.1⟩⟩
theorem Zqb:(Tryz.prog.info? 3).map (fun i=>(i.zero,i.size,i.bytes))=some (some (.int .i64 0),1,8):=by kernel_rfl
theorem ZnF (s:ByteArray) (r:Nat):Tk.win s.data.toList r=(s.extract r (r+3)).data.toList:=by
 rw [Tk.Zac,show r+3 - r=3 by omega];rfl
theorem ZeE {w:World} {base gp bm r:Nat} {No:Nat->Prop} {s:ByteArray} (a:Nat) (h:PastAt w base gp bm No s r) (hr:a+3<=s.size->r=a) (ha:a<=s.size) (hs:s.size<=2000) :
 Calls Tryz.prog 157 #[.pointer (some ⟨gp,0,none⟩),.int .i64 a] w fun e w'=>e=.returned (.tuple #[.int .i64 ((Tk.lng s.data.toList a).1:Nat),.int .i64 ((Tk.lng s.data.toList a).2:Nat)])/\∃ n,w'=w.drewN n:=by
 have hl:s.data.toList.length=s.size:=by simp
 by_cases hm:a+3<=s.size
 ·obtain rfl:=hr hm;obtain ⟨ad,cap,hlk,hcl⟩:=Zmf h (by omega) (k:=s.extract r (r+3)) (Nat.le_trans (Nm.ZcQ (nl _)) (by unfold maxLen;omega));rw [<-ZnF] at hlk hcl
  have hlng:Tk.lng s.data.toList r=(Tk.plc s.data.toList (Tk.win s.data.toList r) r).reverse.foldl (Tk.stp s.data.toList r (Tk.most s.data.toList r)) (0,0):=by
   unfold Tk.lng;rw [if_neg (by unfold Tk.most;omega)]
  rw [hlng];have hlen:=Tk.Zts s.data.toList (Tk.win s.data.toList r) r;rcases hcl with h0 | ⟨g,rfl,hcell⟩
  ·exact ZdL gp bm 0 cap s r _ _ ad w h.c0 h.c1 hs hm (by show _=_;unfold Tk.most;rw [hl]) (by omega) hlk (.inl h0)
  ·exact ZdL gp bm g cap s r _ _ _ w h.c0 h.c1 hs hm (by show _=_;unfold Tk.most;rw [hl]) (by omega) hlk (.inr ⟨rfl,fun i p hp=>⟨Tk.ZuY (List.mem_of_getElem? hp),hcell i p hp⟩⟩)
 ·have hlng:Tk.lng s.data.toList a=(0,0):=by
   unfold Tk.lng;rw [if_pos (by unfold Tk.most;omega)]
  rw [hlng];exact Zgj gp s a w h.c0 hs (by omega) ha
def Zei (w:World) (p:Addr):Nat:=match w.cell? p with | some v=>(intOf v).toNat | none=>0
theorem ZgN {w:World} {base gp bm r:Nat} {No:Nat->Prop} {s:ByteArray} (a:Nat) (h:PastAt w base gp bm No s r) (hno:∀ g,No g->g<w.heap.size) (hr:r<=a) (ha:a<=s.size) (hs:s.size<=2000) :
 Calls Tryz.prog 156 #[.pointer (some ⟨gp,0,none⟩),.int .i64 a] w fun e w'=>e=.returned (.tuple #[])/\Keeps w w' base gp bm No/\∃ r',r<=r'/\r'<=a/\(a+3<=s.size->r'=a)/\PastAt w' base gp bm No s r':=by
 obtain ⟨i0,hi,hz0,hz1,hz2⟩:=info_parts Zqb;go_enter Tryz.func156,Tryz.ntmps156
 go_wp2_with fail
 go_loopw [4] (fun _ wr=>∃ q:Nat,r<=q/\q<=a/\PastAt wr base gp bm No s q/\Keeps w wr base gp bm No) (fun _ wr=>a - Zei wr ⟨gp,2,none⟩)
 case atStart=>exact ⟨r,nl _,hr,h,Keeps.refl _ _ _ _ _⟩
 case round =>
  obtain ⟨q,hq1,hq2,hp,G⟩:=hrel;have Hp:Hid (PastAt wr base gp bm No s q):=hp;obtain ⟨c0,c1,c2,f2,hgb,hne,hbs,-⟩:=hp;have hw3:IntKind.i64.wrap ((q:Int)+3)=(q:Int)+3:=IntWalk.i64_in _ ⟨by omega,by omega⟩;by_cases h1:q<a
  ·have d1:decide ((q:Int)<(a:Int))=true:=by simp;omega
   have d1':decide (q<a)=true:=by simp;omega
   by_cases h2:q+3<=s.size
   ·have d2:decide ((q:Int)+3<=(s.size:Int))=true:=by simp;omega
    have hsl:=Zeb s (q:Int) ((q:Int)+3) q (q+3) rfl (by omega) (by omega) (by omega);go_wp2_with fail
    go_quiet (fail)
    go_wp2_with fail
    go_quiet (fail)
    go_wp2_with fail
    generalize hW:(wr.drewN _).drewN _=W;have hbel:Below wr.heap.size wr W:=by rw [<-hW];exact below_drewN (below_drewN (bR _ _) _) _
    have hpW:=Hp.out.below hbel;have hsz:wr.heap.size=W.heap.size:=by rw [<-hW];rfl
    clear hW;obtain ⟨v,zs,hlk,hoi,hzl,hback⟩:=Zlj hpW (by omega) (k:=s.extract q (q+3)) (Nat.le_trans (Nm.ZcQ (nl _)) (by unfold maxLen;omega)) (ZnF s q)
    have hbmW:bm<W.heap.size:=by
     obtain ⟨D,_,ho,_⟩:=hpW.map;obtain ⟨es,clock,hb,_⟩:=ho;exact (Array.getElem?_eq_some_iff.1 hb).1
    have hgpW:gp<W.heap.size:=nT hgb hpW.bs;have hbsW:=hpW.bs;have HpW:Hid (PastAt W base gp bm No s q):=hpW;have e0:=hpW.c0;have e1:=hpW.c1;have e2:=hpW.c2;have ef:=hpW.f2;have C2:Hid (wr.cell? ⟨gp,2,none⟩=some (.int .i64 (q:Nat))):=c2;clear hpW c0 c1 c2 f2;have hlk1:(Instr.lookup 173 (.map (some bm)) (.string (s.extract q (q+3))) false).run Tryz.prog W.drew=.ok v W.drew:=hlk _ rfl;have hlk2:∀ o,(Instr.lookup 173 (.map (some bm)) (.string (s.extract q (q+3))) false).run Tryz.prog (W.alloc o).drew=.ok v (W.alloc o).drew:=fun o=>hlk _ (Below.heap_alloc W o bm hbmW)
    clear hlk;have hoiD:∀ o,(W.drew.alloc o).ownsRow base 3 1 v zs.length (zs.map (Value.int .i64)):=fun o=>(Zh hoi (bR _ _).drew).alloc o
    have hnov:∀ g,v.ownBlock=some g->base<=g:=fun g hg=>(hoi.lt g hg).1
    have hnw:=World.new_ne W.drew ⟨gp,1,none⟩ e1;have hnw2:=World.new_ne W.drew ⟨gp,2,none⟩ e2;have hnoW:∀ g,No g->g<W.heap.size:=fun g hg=>by have:=hno g hg;have:=G.size;omega
    have HG:Hid (Keeps w W base gp bm No):=G.trans (Keeps.of_below hbel)
    have HL:Hid (∀ w1 g cp,W.grownBy w1 v.ownBlock->w1.ownsRow base 3 1 (.slice (some ⟨g,0,none⟩) (zs.length+1) cp) (zs.length+1) (zs.map (Value.int .i64)++[.int .i64 (q:Nat)])->(v.ownBlock=some g\/W.heap.size<=g) →
     ∃ w2,(Instr.mapUpdate 173 (.map (some bm)) (.string (s.extract q (q+3))) (.slice (some ⟨g,0,none⟩) (zs.length+1) cp)).run Tryz.prog w1=.ok () w2 ∧
      (w1.cell? ⟨gp,1,none⟩=some (.map (some bm))/\w1.cell? ⟨gp,2,none⟩=some (.int .i64 (q:Nat)))/\(w2.cell? ⟨gp,1,none⟩=some (.map (some bm))/\w2.cell? ⟨gp,2,none⟩=some (.int .i64 (q:Nat)))/\w2.frozen? ⟨gp,2,none⟩=false ∧
      Hid (PastAt (w2.setCell ⟨gp,2,none⟩ (.int .i64 ((q+1:Nat):Int))) base gp bm No s (q+1))/\Hid (Keeps w (w2.setCell ⟨gp,2,none⟩ (.int .i64 ((q+1:Nat):Int))) base gp bm No)):=by
     intro w1 g cp hg1 hown1 hloc;obtain ⟨w2,hrun2,hg2,hmap2,hk2⟩:=hback w1 _ hg1 hown1 (hloc.imp id (fun hge=>⟨g,rfl,hge,fun hN=>by have:=hnoW g hN;omega⟩));have hne1:some gp ≠ v.ownBlock:=fun e=>by have:=hnov gp e.symm;omega
     have x1:w1.cell? ⟨gp,1,none⟩=some (.map (some bm)):=(hg1.cell_far _ hgpW hne1).trans e1;have x2:w1.cell? ⟨gp,2,none⟩=some (.int .i64 (q:Nat)):=(hg1.cell_far _ hgpW hne1).trans e2;have hbk:gp ≠ bm:=hne;have y0:=(hk2.cell (p:=⟨gp,0,none⟩) hgpW hbk hbk (.inl hgb)).trans e0;have y1:=(hk2.cell (p:=⟨gp,1,none⟩) hgpW hbk hbk (.inl hgb)).trans e1;have y2:=(hk2.cell (p:=⟨gp,2,none⟩) hgpW hbk hbk (.inl hgb)).trans e2;have yf:=(hk2.frozen (p:=⟨gp,2,none⟩) hgpW hbk hbk (.inl hgb)).trans ef;exact ⟨w2,hrun2,⟨x1,x2⟩,⟨y1,y2⟩,yf,ZnL y0 y1 y2 yf hgb hne (Nat.le_trans hbsW hk2.size) hmap2,(HG.out.trans (hk2.wide gp)).setCell _ _⟩
    clear hback HpW hnoW;go_region_held3 (fun w'=>w'.cell? ⟨gp,1,none⟩=some (.map (some bm))/\w'.cell? ⟨gp,2,none⟩=some (.int .i64 (q:Nat))) (first | go_keep | (constructor <;> assumption)) (first | (refine step_append_lies _ rfl _ _ 191 rfl base 3 i0 (.int .i64 0) 1 8 Tryz.underlying191 hi hz0 hz1 hz2 rfl (by decide) v _ _ rfl (hoiD _) ⟨W.drew.heap.size,0,none⟩ 1 1 [.int .i64 (q:Nat)] rfl rfl (cell_one_new _ _ _) (ints_oneCell .i64 [(q:Int)]) (by decide) (by unfold maxLen;omega) (by omega) (by simp;omega) _ rfl ?_;intro g cp w1 hown1 hgrow1 hat1 hlt1;obtain ⟨w2,hrun2,⟨k1,k2⟩,⟨k3,k4⟩,k5,HP2,HK2⟩:=HL.out w1 g cp ((World.grownBy_alloc W _ _).trans ⟨hgrow1.os,hgrow1.tape,hgrow1.output,hgrow1.size,hgrow1.block⟩) hown1 (hat1.imp id (fun e=>by rw [e];simp))))
    all_goals
     go_wp2_with fail
     go_roundw
     case rel=>exact ⟨q+1,by omega,by omega,HP2.out,HK2.out⟩
     case measure =>
      unfold Zei;have hx:(w2.setCell ⟨gp,2,none⟩ (.int .i64 ((q:Int)+1))).cell? ⟨gp,2,none⟩=some (.int .i64 ((q+1:Nat):Int)):=HP2.out.c2;rw [hx,C2.out];simp [intOf];omega
   ·have d2:decide ((q:Int)+3<=(s.size:Int))=false:=by simp;omega
    go_wp2_with fail
    go_quiet (fail)
    go_wp2_with fail
    go_end0
    exact ⟨rfl,G.trans (Keeps.of_below (below_drewN (bR _ _) _)),q,hq1,hq2,fun _=>by omega,Hp.out.below (below_drewN (bR _ _) _)⟩
  ·have d1:decide ((q:Int)<(a:Int))=false:=by simp;omega
   have d1':decide (q<a)=false:=by simp;omega
   go_wp2_with fail
   go_quiet (fail)
   go_wp2_with fail
   go_end0
   exact ⟨rfl,G.trans (Keeps.of_below (below_drewN (bR _ _) _)),q,hq1,hq2,fun _=>by omega,Hp.out.below (below_drewN (bR _ _) _)⟩
structure Ord (B bm gp ga gf gl base:Nat):Prop where
 b:B<=bm
 p:bm<gp
 a:gp<ga
 f:ga<gf
 l:gf<gl
 s:gl<base
structure PS (w:World) (bm gp ga gf gl base:Nat) (s:ByteArray) (r a f:Nat) (v:Value) (l:List Tk.T):Prop where
 past:PastAt w base gp bm (fun g=>v.ownBlock=some g) s r
 ca:w.cell? ⟨ga,0,none⟩=some (.int .i64 (a:Nat))
 fa:w.frozen? ⟨ga,0,none⟩=false
 cf:w.cell? ⟨gf,0,none⟩=some (.int .i64 (f:Nat))
 ff:w.frozen? ⟨gf,0,none⟩=false
 cl:w.cell? ⟨gl,0,none⟩=some v
 fl:w.frozen? ⟨gl,0,none⟩=false
 own:w.ownsRow base 165 3 v l.length (tcs l)
section
variable {w w':World} {B bm gp ga gf gl base:Nat} {s:ByteArray} {r a f:Nat} {v:Value} {l:List Tk.T}
theorem PS.bs (h:PS w bm gp ga gf gl base s r a f v l):base<=w.heap.size:=h.past.bs
theorem PS.below (h:PS w bm gp ga gf gl base s r a f v l) (O:Ord B bm gp ga gf gl base) (hb:Below w.heap.size w w'):PS w' bm gp ga gf gl base s r a f v l:=by
 have hs:=h.bs;obtain ⟨o1,o2,o3,o4,o5,o6⟩:=O;refine ⟨h.past.below hb,?_,?_,?_,?_,?_,?_,Zh h.own hb⟩
 ·exact (hb.cell (by show ga<_;omega)).trans h.ca
 ·exact (hb.frozen (by show ga<_;omega)).trans h.fa
 ·exact (hb.cell (by show gf<_;omega)).trans h.cf
 ·exact (hb.frozen (by show gf<_;omega)).trans h.ff
 ·exact (hb.cell (by show gl<_;omega)).trans h.cl
 ·exact (hb.frozen (by show gl<_;omega)).trans h.fl
theorem PS.reach {r':Nat} (h:PS w bm gp ga gf gl base s r a f v l) (O:Ord B bm gp ga gf gl base) (hk:Keeps w w' base gp bm (fun g=>v.ownBlock=some g)) (hp:PastAt w' base gp bm (fun g=>v.ownBlock=some g) s r'):PS w' bm gp ga gf gl base s r' a f v l:=by
 have hs:=h.bs;obtain ⟨o1,o2,o3,o4,o5,o6⟩:=O;refine ⟨hp,?_,?_,?_,?_,?_,?_,?_⟩
 ·exact (hk.cell (by show ga<_;omega) (by show ga ≠ _;omega) (by show ga ≠ _;omega) (.inl (by show ga<_;omega))).trans h.ca
 ·exact (hk.frozen (by show ga<_;omega) (by show ga ≠ _;omega) (by show ga ≠ _;omega) (.inl (by show ga<_;omega))).trans h.fa
 ·exact (hk.cell (by show gf<_;omega) (by show gf ≠ _;omega) (by show gf ≠ _;omega) (.inl (by show gf<_;omega))).trans h.cf
 ·exact (hk.frozen (by show gf<_;omega) (by show gf ≠ _;omega) (by show gf ≠ _;omega) (.inl (by show gf<_;omega))).trans h.ff
 ·exact (hk.cell (by show gl<_;omega) (by show gl ≠ _;omega) (by show gl ≠ _;omega) (.inl (by show gl<_;omega))).trans h.cl
 ·exact (hk.frozen (by show gl<_;omega) (by show gl ≠ _;omega) (by show gl ≠ _;omega) (.inl (by show gl<_;omega))).trans h.fl
 ·rcases h.own.2 with ⟨e1,e2⟩ | ⟨g,cap,cur,rfl,hg,hh,hrest⟩
  ·exact ⟨h.own.1,.inl ⟨e1,e2⟩⟩
  ·have hlt:=(Array.getElem?_eq_some_iff.1 hh).1;exact ⟨h.own.1,.inr ⟨g,cap,cur,rfl,hg,(hk.block g hlt (by omega) (by omega) (.inr rfl)).trans hh,hrest⟩⟩
theorem PastAt.other {No:Nat->Prop} {g:Nat} (h:PastAt w base gp bm No s r) (hg:w.grownBy w' (some g)) (h1:g ≠ gp) (h2:g ≠ bm) (h3:g<base):PastAt w' base gp bm No s r:=by
 obtain ⟨D,hm,ho,hsh,hr⟩:=h.map;have hlt:gp<w.heap.size:=nT h.gb h.bs;have hbm:bm<w.heap.size:=by obtain ⟨es,clock,hb,_⟩:=ho;exact (Array.getElem?_eq_some_iff.1 hb).1
 have hne:some gp ≠ some g:=by simp;exact fun e=>h1 e.symm
 have hne2:some bm ≠ some g:=by simp;exact fun e=>h2 e.symm
 exact ⟨(hg.cell_far ⟨gp,0,none⟩ hlt hne).trans h.c0,(hg.cell_far ⟨gp,1,none⟩ hlt hne).trans h.c1,(hg.cell_far ⟨gp,2,none⟩ hlt hne).trans h.c2,(hg.frozen_far ⟨gp,2,none⟩ hlt hne).trans h.f2,h.gb,h.ne,Nat.le_trans h.bs hg.size,D,hm,
  ho.kept hg hne2 (ho.rowsAbove (fun j hj=>by cases hj;exact h3)),hsh.kept hg hbm hne2,hr⟩
theorem ZeI (w:World) (g o:Nat) (u:Value):w.grownBy (w.setCell ⟨g,o,none⟩ u) (some g):=⟨rfl,rfl,rfl,by simp,fun k _ h2=>Below.heap_setCell _ _ _ _ (fun e=>h2 (by rw [e]))⟩
theorem ZbD (w:World) (p q:Addr) (u:Value) (h:p.block ≠ q.block):(w.setCell p u).cell? q=w.cell? q:=cO w p q u (fun e=>h (by rw [e]))
theorem PS.setAt (h:PS w bm gp ga gf gl base s r a f v l) (O:Ord B bm gp ga gf gl base) (a':Nat):PS (w.setCell ⟨ga,0,none⟩ (.int .i64 (a':Nat))) bm gp ga gf gl base s r a' f v l:=by
 obtain ⟨o1,o2,o3,o4,o5,o6⟩:=O;have hg:=ZeI w ga 0 (.int .i64 (a':Nat));refine ⟨h.past.other hg (by omega) (by omega) (by omega),cS w _ _ h.ca,?_,?_,?_,?_,?_,h.own.kept hg (.inr (fun e=>by have:=(h.own.lt ga e).1;omega))⟩
 ·rw [fS];exact h.fa
 ·rw [ZbD _ _ _ _ (by show ga ≠ gf;omega)];exact h.cf
 ·rw [fS];exact h.ff
 ·rw [ZbD _ _ _ _ (by show ga ≠ gl;omega)];exact h.cl
 ·rw [fS];exact h.fl
theorem PS.setFrom (h:PS w bm gp ga gf gl base s r a f v l) (O:Ord B bm gp ga gf gl base) (f':Nat):PS (w.setCell ⟨gf,0,none⟩ (.int .i64 (f':Nat))) bm gp ga gf gl base s r a f' v l:=by
 obtain ⟨o1,o2,o3,o4,o5,o6⟩:=O;have hg:=ZeI w gf 0 (.int .i64 (f':Nat));refine ⟨h.past.other hg (by omega) (by omega) (by omega),?_,?_,cS w _ _ h.cf,?_,?_,?_,h.own.kept hg (.inr (fun e=>by have:=(h.own.lt gf e).1;omega))⟩
 ·rw [ZbD _ _ _ _ (by show gf ≠ ga;omega)];exact h.ca
 ·rw [fS];exact h.fa
 ·rw [fS];exact h.ff
 ·rw [ZbD _ _ _ _ (by show gf ≠ gl;omega)];exact h.cl
 ·rw [fS];exact h.fl
theorem PS.laid {g cp:Nat} {t:Tk.T} (h:PS w bm gp ga gf gl base s r a f v l) (O:Ord B bm gp ga gf gl base)
 (hown:w'.ownsRow base 165 3 (.slice (some ⟨g,0,none⟩) (l.length+1) cp) (l.length+1) (tcs l++[.string t.lit,.int .i64 t.far,.int .i64 t.len])) (hg:w.grownBy w' v.ownBlock) (hat:v.ownBlock=some g\/w.heap.size<=g) :
 PS (w'.setCell ⟨gl,0,none⟩ (.slice (some ⟨g,0,none⟩) (l.length+1) cp)) bm gp ga gf gl base s r a f (.slice (some ⟨g,0,none⟩) (l.length+1) cp) (l++[t])/\w'.cell? ⟨gl,0,none⟩=some v/\w'.frozen? ⟨gl,0,none⟩=false:=by
 have hs:=h.bs;obtain ⟨o1,o2,o3,o4,o5,o6⟩:=O;have hnv:∀ k,k<base->some k ≠ v.ownBlock:=fun k hk e=>by have:=(h.own.lt k e.symm).1;omega
 have hlt:∀ k,k<base->k<w.heap.size:=fun k hk=>by omega
 have hc:∀ k o,k<base->w'.cell? ⟨k,o,none⟩=w.cell? ⟨k,o,none⟩:=fun k o hk=>hg.cell_far _ (hlt k hk) (hnv k hk)
 have hf:∀ k o,k<base->w'.frozen? ⟨k,o,none⟩=w.frozen? ⟨k,o,none⟩:=fun k o hk=>hg.frozen_far _ (hlt k hk) (hnv k hk)
 obtain ⟨D,hm,ho,hsh,hr⟩:=h.past.map
 have hsh2:w.Shuns bm (fun k=>(Value.slice (some ⟨g,0,none⟩) (l.length+1) cp).ownBlock=some k):=hsh.reno ho (fun k hk=>by
  have e:g=k:=by simpa [Value.ownBlock] using hk
  subst e
  exact hat)
 have hp':PastAt w' base gp bm (fun k=>(Value.slice (some ⟨g,0,none⟩) (l.length+1) cp).ownBlock=some k) s r :=
  ⟨(hc gp 0 h.past.gb).trans h.past.c0,(hc gp 1 h.past.gb).trans h.past.c1,(hc gp 2 h.past.gb).trans h.past.c2,(hf gp 2 h.past.gb).trans h.past.f2,h.past.gb,h.past.ne,Nat.le_trans hs hg.size,D,hm,
   ho.kept hg (hnv bm (by omega)) (hsh.rowsOff (fun j hj=>hj)),hsh2.kept hg (hlt bm (by omega)) (hnv bm (by omega)),hr⟩
 have hg2:=ZeI w' gl 0 (.slice (some ⟨g,0,none⟩) (l.length+1) cp);have hcl:w'.cell? ⟨gl,0,none⟩=some v:=(hc gl 0 o6).trans h.cl;refine ⟨⟨hp'.other hg2 (by omega) (by omega) o6,?_,?_,?_,?_,cS w' _ _ hcl,?_,?_⟩,hcl,(hf gl 0 o6).trans h.fl⟩
 ·rw [ZbD _ _ _ _ (by show gl ≠ ga;omega)];exact (hc ga 0 (by omega)).trans h.ca
 ·rw [fS];exact (hf ga 0 (by omega)).trans h.fa
 ·rw [ZbD _ _ _ _ (by show gl ≠ gf;omega)];exact (hc gf 0 (by omega)).trans h.cf
 ·rw [fS];exact (hf gf 0 (by omega)).trans h.ff
 ·rw [fS];exact (hf gl 0 o6).trans h.fl
 ·rw [Zao,List.length_append];exact hown.kept hg2 (.inr (fun e=>by have:=(hown.lt gl e).1;omega))
end
end Go.Proofs.YtbjbjbpgmojcbabGreat
