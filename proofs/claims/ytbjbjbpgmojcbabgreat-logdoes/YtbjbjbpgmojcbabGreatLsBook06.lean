/- A part of the proof: what it leans on. -/
import Derived.Test.YtbjbjbpgmojcbabGreatLsBook01
import Derived.Deep.DeepCutAuto
import Derived.Test.YtbjbjbpgmojcbabGreatLsBook05
set_option maxRecDepth 4000
set_option maxHeartbeats 2000000
namespace Go.Proofs.YtbjbjbpgmojcbabGreat
open Go.RowKit
theorem ZjD {gr:Nat} {f:Nat->Int} {b:ByteArray} {a a1:Nat} {x:Int} (hb:b.size<=140737488355328) (ha:a<=8*b.size) (h:Cd.s15 f b a=(x,a1)) (w:World) (hB:RdAt w gr f (Cd.wds f) b a) :
 Calls Tryz.prog 209 #[.pointer (some ⟨gr,0,none⟩)] w fun e w'=>e=.returned (.int .i64 x)/\Only gr w w'/\RdAt w' gr f (Cd.wds f) b a1:=by
 have h9:=ZpW gr f (Cd.wds f) b a w hB hb ha;have h8:Cd.sgn f (Cd.wds f) b 15 1 0 a=(x,a1):=h;rw [h8] at h9;exact h9
theorem ZrV {f:Nat->Int} {b:ByteArray} {a a1:Nat} {x:Int} (ha:a<=8*b.size) (h:Cd.s15 f b a=(x,a1)):a1<=8*b.size/\-1<=x/\x<16:=by
 have h1:=Cd.Zue (f:=f) (ws:=Cd.wds f) (b:=b) 15 1 0 a ha;have h8:Cd.sgn f (Cd.wds f) b 15 1 0 a=(x,a1):=h;rw [h8] at h1;refine ⟨h1,?_⟩;by_cases hx:x=-1
 ·omega
 ·obtain ⟨s,d,e,hs,_⟩:=Cd.ZdT (f:=f) (ws:=Cd.wds f) (b:=b) 15 1 0 a (Nat.le_refl _) (by show (Cd.sgn f (Cd.wds f) b 15 1 0 a).1 ≠ -1;rw [h8];exact hx);have h7:((s:Int),a+d)=(x,a1):=e.symm.trans h8;simp only [Prod.mk.injEq] at h7;omega
theorem RdAt.grown {w w1:World} {gr:Nat} {f ws:Nat->Int} {b:ByteArray} {a:Nat} {v:Value} {o:Obj} (h:RdAt w gr f ws b a) (hne:some gr ≠ v.ownBlock) (hg:(w.alloc o).grownBy w1 v.ownBlock):RdAt w1 gr f ws b a:=by
 have hblk:w1.heap[gr]?=w.heap[gr]?:=by
  rw [hg.block gr (by have:=h.1;simp;omega) hne];exact ((Below.refl w.heap.size w).alloc (Nat.le_refl _) o).block gr h.1
 have h2:=hblk.trans h.2;exact ⟨(Array.getElem?_eq_some_iff.1 h2).1,h2⟩
theorem ZnI:(Tryz.prog.info? 228).map (·.size)=some 34:=by kernel_rfl
theorem ZbT (f ws:Nat->Int) (b:ByteArray) (a:Nat):(rdc f ws b a).size=34:=by simp [rdc,Zi]
theorem Zew {P:Program} {ops:Array Oper} {o:Oper} {a:Act} {w:World} {K:Act->World->Prop} {Q:Exit->Act->World->Prop} {E:Prop} (hg:o.guard=none) (h:Oper.wp P o a w K Q) :
 if Region.wanted o (yielded ops a.tmps)=true then Oper.wp P o a w K Q else E:=by
 have hw:Region.wanted o (yielded ops a.tmps)=true:=by simp [Region.wanted,hg]
 rw [if_pos hw];exact h
theorem Zfr {P:Program} {md:Region.Mode} {ops:Array Oper} {Q:Exit->Act->World->Prop} {S:World->Prop} {i:Nat} {o:Oper} {fuel:Nat} {listed:Array Bool} {a:Act} {w:World}
 (hr:Region.ready md ops listed=[i]) (hr2:Region.ready md ops (listed.setIfInBounds i true)=[]) (ho:ops[i]?=some o) (hg:o.guard=none)
 (h:∀ K:Act->World->Prop,(∀ a w,S w->Q .normal a w->K a w)->Oper.wp P o a w K Q):wpAnyH P md ops Q S (fuel+1) listed a w :=
 wpAnyH_all hr (by simp) (fun j hj=>by
  obtain rfl:j=i:=by simpa using hj
  exact wpOp_step ho (fun K hK=>Zew hg (h K (fun a w hs hq=>hK a w ⟨hs,wpAnyH_done hr2 hq _⟩))))
theorem Zfu {P:Program} {md:Region.Mode} {ops:Array Oper} {Q:Exit->Act->World->Prop} {S:World->Prop} {i:Nat} {o:Oper} {fuel:Nat} {listed:Array Bool} {a:Act} {w:World}
 (hr:Region.ready md ops listed=[i]) (hr2:Region.ready md ops (listed.setIfInBounds i true)=[]) (ho:ops[i]?=some o) (hg:o.guard=none) (hd:o.dst=none)
 (ty:TypeId) (x y:Operand) (hop:o.op=.store ty x y) (g:Nat) (cells:Array Value) (hx:a.eval x=.pointer (some ⟨g,0,none⟩)) (hy:a.eval y=.agg cells)
 (t:TypeId) (old:Array Value) (hgr:w.heap[g]?=some (.cells old t (0,0))) (hi:(P.info? ty).map (·.size)=some cells.size)
 (hold:old.size=cells.size) (h1:cells.all (·.oneCell')=true) (hS:S (w.setRow g cells)) (h:Q .normal (a.put none undef) (w.setRow g cells)):wpAnyH P md ops Q S (fuel+1) listed a w :=
 Zfr hr hr2 ho hg (fun K hK=>wp_store_row ty x y hop g cells hx hy t old hgr hi hold h1 (hK _ _ hS (by rw [hd];exact h)))
theorem ZdI {P:Program} {ops:Array Oper} {S:World->Prop} {op:Oper} {a:Act} (hw:Region.wanted op (yielded ops a.tmps)=true) (t:TypeId) (parts:Array (Nat × Operand)) (ho:op.op=.build t parts) (cells:Array Value)
 (hb:P.built t (parts.map fun (i,x)=>(i,a.eval x)).toList=some cells):YieldsIf P ops S op (.agg cells) a :=
 .inl ⟨hw,fun w _=>by
  unfold execOp
  simp only [ho,Sem.run_bind,run_build w t _ cells hb,Result.andThen_ok,Sem.run_pure]⟩
theorem Zoq (f ws:Nat->Int) (b:ByteArray) (a:Nat):(rdc f ws b a).all (·.oneCell')=true:=by
 unfold rdc;rw [Array.all_append,Array.all_append,ZW,ZW];simp [Value.oneCell']
def rd0:Array Value:=rdc (fun _=>0) (fun _=>0) ⟨#[]⟩ 0
theorem ZmY:rd0=#[.int .i64 0,.int .i64 0,.int .i64 0,.int .i64 0,.int .i64 0,.int .i64 0,.int .i64 0,.int .i64 0,.int .i64 0,.int .i64 0,.int .i64 0,.int .i64 0,.int .i64 0,.int .i64 0,.int .i64 0,.int .i64 0,.int .i64 0,.int .i64 0,.int .i64 0,.int .i64 0,.int .i64 0,.int .i64 0,.int .i64 0,.int .i64 0,.int .i64 0,.int .i64 0,.int .i64 0,.int .i64 0,.int .i64 0,.int .i64 0,.int .i64 0,.int .i64 0,.string ⟨#[]⟩,.int .i64 0]:=by kernel_rfl
theorem RdAt.laid {w:World} {gr:Nat} {C:Array Value} (h:w.heap[gr]?=some (.cells C 228 (0,0))) (f ws:Nat->Int) (b:ByteArray) (a:Nat):RdAt (w.setRow gr (rdc f ws b a)) gr f ws b a:=by
 have hlt:=(Array.getElem?_eq_some_iff.1 h).1;refine ⟨by simpa [World.setRow] using hlt,?_⟩;show (w.heap.modify gr _)[gr]?=_;rw [Array.getElem?_modify,if_pos rfl,h];rfl
theorem ZgB {w:World} {g:Nat} {f:Nat->Int} (h:RowAt w g f):w.rangeAt g 0 (arr f).toList:=by
 have:=World.rangeAt_of_block h.2 0 16
 rwa [show (arr f).extract 0 (0+16)=arr f by rw [Nat.zero_add,<-Zi f];exact Array.extract_size] at this
theorem ZiB (f:Nat->Int) (b:ByteArray) (n:Int) (w:World) (h0:Cd.chk f=0) (hn0:0<=n) (hn1:n<=1024) (hb:b.size<=140737488355328) :
 Calls Tryz.prog 189 #[.agg (arr f),.string b,.int .i64 n] w fun e w'=>e=.returned (.tuple #[.string (Cd.rd f b n).1,.int .i64 (Cd.rd f b n).2])/\Below w.heap.size w w':=by
 have hck:=fun w=>Zae f w
 rw [h0] at hck;have hwd:=fun w=>ZcT f w
 have hin:=Zc f;have R1:=RowAt.new w f;have HB:Below w.heap.size w (w.alloc (.cells (arr f) 127)):=(Below.refl _ _).alloc (Nat.le_refl _) _;have d1:decide (n<0)=false:=by simp;omega
 have d2:decide (1024<n)=false:=by simp;omega
 obtain ⟨r1,r2,hr⟩:∃ r1 r2,Cd.rd f b n=(r1,r2):=⟨_,_,rfl⟩
 rw [hr];have Hr:Hid (Cd.rd f b n=(r1,r2)):=hr;have H0:Hid (Cd.chk f=0):=h0;clear hr h0;go_enter Tryz.func189,Tryz.ntmps189
 go_wp2_with (refine wpList_load_row rfl 127 _ rfl w.heap.size rfl 127 (arr f) (0,0) _ R1.2 Tryz.underlying127 rfl hin ?_)
 refine (hck _).mono ?_;rintro e w1 ⟨rfl,G1⟩;have S1:=R1.below G1;have B1:=bch HB G1 (nl _);clear R1 HB G1 hck;go_wp2_with fail
 go_cut [9] (fun p wx=>∃ gr,p=.pointer (some ⟨gr,0,none⟩)/\RdAt wx gr f (Cd.wds f) b 0/\w.heap.size<=gr/\Below w.heap.size w wx)
 case first =>
  refine wp_region_held_drew (S:=fun w'=>RowAt w' w.heap.size f) (by kernel_rfl) S1 (fun hS=>?_);refine wpAnyH_take (i:=0) (fuel:=6) rfl (by kernel_rfl) (by kernel_rfl) (by kernel_rfl) (fun _ _ _ h=>h) (yieldsIf_load_mid (by rfl) 127 _ rfl w.heap.size 0 rfl (arr f).toList _ (fun w' h'=>ZgB h') Tryz.underlying127 rfl (by rw [Array.length_toList];exact hin)) hS ?_;refine wpAnyH_take (i:=1) (fuel:=5) rfl (by kernel_rfl) (by kernel_rfl) (by kernel_rfl) (fun _ _ _ h=>h) (yieldsIf_load_mid (by rfl) 127 _ rfl w.heap.size 0 rfl (arr f).toList _ (fun w' h'=>ZgB h') Tryz.underlying127 rfl (by rw [Array.length_toList];exact hin)) hS ?_;refine wpAnyH_take (i:=3) (fuel:=4) (v:=.string b) rfl (by kernel_rfl) (by kernel_rfl) (by kernel_rfl) (fun _ _ _ h=>h) (Or.inl ⟨by rfl,fun w _=>by go_simp⟩) hS ?_;refine wpAnyH_ready (rs:=[2,5]) (fuel:=3) (by kernel_rfl) (by simp) ?_;refine AllReadyH.cons rfl (fun K hK=>?_) ?_
  ·go_simp
   refine (hwd _).mono ?_;rintro e w2 ⟨rfl,G2⟩;have T2:=(show RowAt w1.drew w.heap.size f from S1).below G2;have B2:=bch (show Below w.heap.size w w1.drew from B1.drew) G2 (Nat.le_refl _);refine hK.out _ _ T2 (fun hS2=>?_);clear hK;refine wpAnyH_take (i:=4) (fuel:=2) (v:=.agg (rdc f (Cd.wds f) b 0)) rfl (by kernel_rfl) (by kernel_rfl) (by kernel_rfl) (fun _ _ _ h=>h) (ZdI (by rfl) 228 _ rfl _ (by kernel_rfl)) hS2 ?_;refine wpAnyH_ready (rs:=[5]) (fuel:=1) (by kernel_rfl) (by simp) ?_;refine AllReadyH.cons rfl (fun K hK=>?_) AllReadyH.nil;go_simp
   have A1:(w2.alloc (.cells #[.int .i64 0,.int .i64 0,.int .i64 0,.int .i64 0,.int .i64 0,.int .i64 0,.int .i64 0,.int .i64 0,.int .i64 0,.int .i64 0,.int .i64 0,.int .i64 0,.int .i64 0,.int .i64 0,.int .i64 0,.int .i64 0,.int .i64 0,.int .i64 0,.int .i64 0,.int .i64 0,.int .i64 0,.int .i64 0,.int .i64 0,.int .i64 0,.int .i64 0,.int .i64 0,.int .i64 0,.int .i64 0,.int .i64 0,.int .i64 0,.int .i64 0,.int .i64 0,.string ⟨#[]⟩,.int .i64 0] 228)).heap[w2.heap.size]?=some (.cells rd0 228):=by rw [ZmY];exact heap_alloc_last w2 _
   have T3:=T2.alloc (.cells #[.int .i64 0,.int .i64 0,.int .i64 0,.int .i64 0,.int .i64 0,.int .i64 0,.int .i64 0,.int .i64 0,.int .i64 0,.int .i64 0,.int .i64 0,.int .i64 0,.int .i64 0,.int .i64 0,.int .i64 0,.int .i64 0,.int .i64 0,.int .i64 0,.int .i64 0,.int .i64 0,.int .i64 0,.int .i64 0,.int .i64 0,.int .i64 0,.int .i64 0,.int .i64 0,.int .i64 0,.int .i64 0,.int .i64 0,.int .i64 0,.int .i64 0,.int .i64 0,.string ⟨#[]⟩,.int .i64 0] 228);have B3:=B2.alloc (Nat.le_of_lt T2.1) (.cells #[.int .i64 0,.int .i64 0,.int .i64 0,.int .i64 0,.int .i64 0,.int .i64 0,.int .i64 0,.int .i64 0,.int .i64 0,.int .i64 0,.int .i64 0,.int .i64 0,.int .i64 0,.int .i64 0,.int .i64 0,.int .i64 0,.int .i64 0,.int .i64 0,.int .i64 0,.int .i64 0,.int .i64 0,.int .i64 0,.int .i64 0,.int .i64 0,.int .i64 0,.int .i64 0,.int .i64 0,.int .i64 0,.int .i64 0,.int .i64 0,.int .i64 0,.int .i64 0,.string ⟨#[]⟩,.int .i64 0] 228);have hlt:=T2.1;generalize w2.alloc (.cells #[.int .i64 0,.int .i64 0,.int .i64 0,.int .i64 0,.int .i64 0,.int .i64 0,.int .i64 0,.int .i64 0,.int .i64 0,.int .i64 0,.int .i64 0,.int .i64 0,.int .i64 0,.int .i64 0,.int .i64 0,.int .i64 0,.int .i64 0,.int .i64 0,.int .i64 0,.int .i64 0,.int .i64 0,.int .i64 0,.int .i64 0,.int .i64 0,.int .i64 0,.int .i64 0,.int .i64 0,.int .i64 0,.int .i64 0,.int .i64 0,.int .i64 0,.int .i64 0,.string ⟨#[]⟩,.int .i64 0] 228)=w3 at *;generalize w2.heap.size=gr at *;clear T2 B2 G2;have hz0:rd0.size=34:=ZbT _ _ _ _;generalize rd0=z0 at *;refine hK.out _ _ T3 (fun hS3=>?_);clear hK;refine Zfu (i:=6) (fuel:=0) (by kernel_rfl) (by kernel_rfl) rfl rfl rfl 228 (Operand.tmp 9) (Operand.tmp 28) rfl gr (rdc f (Cd.wds f) b 0) rfl rfl 228 z0 A1 (by rw [ZbT];exact ZnI) (by rw [ZbT];exact hz0) (Zoq _ _ _ _) (T3.setRowFar (by omega) _) ?_;go_wp2_with fail
   go_meet
   exact ⟨gr,rfl,RdAt.laid A1 f (Cd.wds f) b 0,Nat.le_of_lt hlt,Zq B3 (Nat.le_of_lt hlt) _⟩
  refine AllReadyH.cons rfl (fun K hK=>?_) AllReadyH.nil;go_simp
  have A1:((w1.alloc (.cells #[.int .i64 0,.int .i64 0,.int .i64 0,.int .i64 0,.int .i64 0,.int .i64 0,.int .i64 0,.int .i64 0,.int .i64 0,.int .i64 0,.int .i64 0,.int .i64 0,.int .i64 0,.int .i64 0,.int .i64 0,.int .i64 0,.int .i64 0,.int .i64 0,.int .i64 0,.int .i64 0,.int .i64 0,.int .i64 0,.int .i64 0,.int .i64 0,.int .i64 0,.int .i64 0,.int .i64 0,.int .i64 0,.int .i64 0,.int .i64 0,.int .i64 0,.int .i64 0,.string ⟨#[]⟩,.int .i64 0] 228)).drew).heap[w1.heap.size]?=some (.cells rd0 228):=by rw [ZmY];exact heap_alloc_last w1 _
  have T3:RowAt ((w1.alloc (.cells #[.int .i64 0,.int .i64 0,.int .i64 0,.int .i64 0,.int .i64 0,.int .i64 0,.int .i64 0,.int .i64 0,.int .i64 0,.int .i64 0,.int .i64 0,.int .i64 0,.int .i64 0,.int .i64 0,.int .i64 0,.int .i64 0,.int .i64 0,.int .i64 0,.int .i64 0,.int .i64 0,.int .i64 0,.int .i64 0,.int .i64 0,.int .i64 0,.int .i64 0,.int .i64 0,.int .i64 0,.int .i64 0,.int .i64 0,.int .i64 0,.int .i64 0,.int .i64 0,.string ⟨#[]⟩,.int .i64 0] 228)).drew) w.heap.size f:=S1.alloc _;have B3:Below w.heap.size w ((w1.alloc (.cells #[.int .i64 0,.int .i64 0,.int .i64 0,.int .i64 0,.int .i64 0,.int .i64 0,.int .i64 0,.int .i64 0,.int .i64 0,.int .i64 0,.int .i64 0,.int .i64 0,.int .i64 0,.int .i64 0,.int .i64 0,.int .i64 0,.int .i64 0,.int .i64 0,.int .i64 0,.int .i64 0,.int .i64 0,.int .i64 0,.int .i64 0,.int .i64 0,.int .i64 0,.int .i64 0,.int .i64 0,.int .i64 0,.int .i64 0,.int .i64 0,.int .i64 0,.int .i64 0,.string ⟨#[]⟩,.int .i64 0] 228)).drew):=(B1.alloc (Nat.le_of_lt S1.1) (.cells #[.int .i64 0,.int .i64 0,.int .i64 0,.int .i64 0,.int .i64 0,.int .i64 0,.int .i64 0,.int .i64 0,.int .i64 0,.int .i64 0,.int .i64 0,.int .i64 0,.int .i64 0,.int .i64 0,.int .i64 0,.int .i64 0,.int .i64 0,.int .i64 0,.int .i64 0,.int .i64 0,.int .i64 0,.int .i64 0,.int .i64 0,.int .i64 0,.int .i64 0,.int .i64 0,.int .i64 0,.int .i64 0,.int .i64 0,.int .i64 0,.int .i64 0,.int .i64 0,.string ⟨#[]⟩,.int .i64 0] 228)).drew;have hlt:=S1.1;generalize (w1.alloc (.cells #[.int .i64 0,.int .i64 0,.int .i64 0,.int .i64 0,.int .i64 0,.int .i64 0,.int .i64 0,.int .i64 0,.int .i64 0,.int .i64 0,.int .i64 0,.int .i64 0,.int .i64 0,.int .i64 0,.int .i64 0,.int .i64 0,.int .i64 0,.int .i64 0,.int .i64 0,.int .i64 0,.int .i64 0,.int .i64 0,.int .i64 0,.int .i64 0,.int .i64 0,.int .i64 0,.int .i64 0,.int .i64 0,.int .i64 0,.int .i64 0,.int .i64 0,.int .i64 0,.string ⟨#[]⟩,.int .i64 0] 228)).drew=w3 at *;generalize w1.heap.size=gr at *;have hz0:rd0.size=34:=ZbT _ _ _ _;generalize rd0=z0 at *;refine hK.out _ _ T3 (fun hS3=>?_);clear hK;refine wpAnyH_ready (rs:=[2]) (fuel:=2) (by kernel_rfl) (by simp) ?_;refine AllReadyH.cons rfl (fun K hK=>?_) AllReadyH.nil;go_simp
  refine (hwd _).mono ?_;rintro e w4 ⟨rfl,G4⟩;have A4:w4.heap[gr]?=some (.cells z0 228):=by rw [G4.block gr (Array.getElem?_eq_some_iff.1 A1).1];exact A1
  have T4:=T3.below G4;have B4:=bch B3 G4 (nl _);refine hK.out _ _ T4 (fun hS4=>?_);clear hK;refine wpAnyH_take (i:=4) (fuel:=1) (v:=.agg (rdc f (Cd.wds f) b 0)) rfl (by kernel_rfl) (by kernel_rfl) (by kernel_rfl) (fun _ _ _ h=>h) (ZdI (by rfl) 228 _ rfl _ (by kernel_rfl)) hS4 ?_;refine Zfu (i:=6) (fuel:=0) (by kernel_rfl) (by kernel_rfl) rfl rfl rfl 228 (Operand.tmp 9) (Operand.tmp 28) rfl gr (rdc f (Cd.wds f) b 0) rfl rfl 228 z0 A4 (by rw [ZbT];exact ZnI) (by rw [ZbT];exact hz0) (Zoq _ _ _ _) (T4.setRowFar (by omega) _) ?_;go_wp2_with fail
  go_meet
  exact ⟨gr,rfl,RdAt.laid A4 f (Cd.wds f) b 0,Nat.le_of_lt hlt,Zq B4 (Nat.le_of_lt hlt) _⟩
 case rest =>
  obtain ⟨gr,rfl,hB,hgr,B2⟩:=hcut;clear S1 B1 hwd;obtain ⟨i0,hi,hz0,hz1,hz2⟩:=info_parts Zcm;go_wp2_with fail
  go_loopw [10,30] (fun v i wr=>∃ (k:Nat) (o:List UInt8) (a:Nat),(k:Int)<=n/\i=.int .i64 k/\Hid (Cd.rdK f b k=some (o,a))/\a<=8*b.size/\o.length<=1024/\Hid (o.length=k)/\RdAt wr gr f (Cd.wds f) b a/\wr.ownsRow (gr+1) 5 1 v o.length (bcs o)/\Below w.heap.size w wr) (fun _ i _=>n.toNat - (intOf i).toNat)
  case atStart=>exact ⟨0,[],0,hn0,rfl,rfl,by omega,by simp,rfl,hB,World.ownsRow_nil _ _ _ _,B2⟩
  case round =>
   clear hB B2;obtain ⟨k,o,a,hk,rfl,hK,ha,hol,Hol,hB,ho,B2⟩:=hrel;by_cases hlt:(k:Int)<n
   ·have hk1:decide ((k:Int)<n)=true:=by simpa using hlt
    obtain ⟨x,a1,h1⟩:∃ x a1,Cd.s15 f b a=(x,a1):=⟨_,_,rfl⟩
    obtain ⟨y,a2,h2⟩:∃ y a2,Cd.s15 f b a1=(y,a2):=⟨_,_,rfl⟩
    obtain ⟨p1,p2,p3⟩:=ZrV ha h1;obtain ⟨q1,q2,q3⟩:=ZrV p1 h2;have HS1:=fun w' h=>ZjD (gr:=gr) hb ha h1 w' h
    have HS2:=fun w' h=>ZjD (gr:=gr) hb p1 h2 w' h
    have H1:Hid (Cd.s15 f b a=(x,a1)):=h1;have H2:Hid (Cd.s15 f b a1=(y,a2)):=h2;clear h1 h2;go_wp2_with fail
    refine (HS1 _ hB).mono ?_;rintro e w4 ⟨rfl,G4,Z4⟩;have O4:=G4.own ho;have B4:=B2.trans (G4.1.mono hgr);clear hB ho B2 G4 HS1;go_wp2_with fail
    refine (HS2 _ Z4).mono ?_;rintro e w5 ⟨rfl,G5,Z5⟩;have O5:=G5.own O4;have B5:=B4.trans (G5.1.mono hgr);clear Z4 O4 B4 G5 HS2;by_cases hx:x=-1\/y=-1
    ·have h9:Cd.rd f b n=(⟨#[]⟩,1):=Cd.ZaX H0.out (by omega) (Cd.Zgt (by omega) hK.out H1.out H2.out hx);have h8:=Hr.out.symm.trans h9;simp only [Prod.mk.injEq] at h8;obtain ⟨rfl,rfl⟩:=h8;clear h9;by_cases hx1:x=-1
     ·subst hx1;clear hx;go_wp2_with fail
      go_ret2
      exact ⟨rfl,B5⟩
     ·have hy1:y=-1:=by omega
      subst hy1;have dx:(x == -1)=false:=by simpa using hx1
      clear hx;go_wp2_with fail
      go_ret2
      exact ⟨rfl,B5⟩
    ·have hx1:¬ x=-1:=fun h=>hx (.inl h)
     have hy1:¬ y=-1:=fun h=>hx (.inr h)
     have dx:(x == -1)=false:=by simpa using hx1
     have dy:(y == -1)=false:=by simpa using hy1
     have HN:Hid (Cd.rdK f b (k+1)=some (o++[UInt8.ofNat (x*16+y).toNat],a2)):=Cd.Zgg hK.out H1.out H2.out hx;have hx0:0<=x:=by omega
     have hy0:0<=y:=by omega
     have hxy:0<=x*16+y/\x*16+y<256:=by omega
     have hm:(x*16+y) % 256=x*16+y:=by omega
     have HB:Hid (bcs (o++[UInt8.ofNat (x*16+y).toNat])=bcs o++[.int .u8 (x*16+y)]):=ZcV o _ hxy.1 hxy.2;have hle:gr+1<=(w5.alloc (.cells #[.int .u8 (x*16+y)] 5)).heap.size:=by have:=Z5.1;simp;omega
     have hkn:k+1<=n.toNat:=by omega
     have HK1:Hid (((k+1:Nat):Int)<=n/\o.length+1<=1024/\o.length+1=k+1):=by have:=Hol.out;show _/\_/\_;omega
     clear hx hx1 hy1 H1 H2 hK p2 p3 q2 q3;go_wp2_with (at_builtin;go_must (refine wpList_append_own _ rfl _ _ 93 rfl (gr+1) 5 i0 (.int .u8 0) 1 1 Tryz.underlying93 hi hz0 hz1 hz2 rfl (by decide) _ _ _ rfl (O5.alloc _) ⟨w5.heap.size,0,none⟩ 1 1 [.int .u8 (x*16+y)] rfl rfl (cell_one_new _ _ _) (ZdP _) (ZaO (by omega)) (by omega) hle ?_;intro v' w6 hown' hgrow _))
     have hne:some gr ≠ Value.ownBlock u10:=fun e=>by have:=(O5.lt gr e.symm).1;omega
     have Z6:RdAt w6 gr f (Cd.wds f) b a2:=by
      refine Z5.grown hne hgrow
     have B6:Below w.heap.size w w6:=(B5.alloc (Nat.le_trans hgr (Nat.le_of_lt Z5.1)) _).grown hgrow (by have:=Z5.1;simp;omega) (fun j hj=>by have:=(O5.lt j hj).1;omega);refine ⟨⟨k+1,o++[UInt8.ofNat (x*16+y).toNat],a2,HK1.out.1,by go_num,HN,q1,by have:=HK1.out.2.1;simp;omega,by show _=_;have:=HK1.out.2.2;simp;omega,Z6,?_,B6⟩,by simp [intOf];omega⟩;rw [HB.out,List.length_append];exact hown'
   ·obtain hkn:(k:Int)=n:=by omega
    have hend:=ZoH gr f (Cd.wds f) b a wr hB hb ha;have h9:=Cd.Zbz (n:=n) (o:=o) (a:=a) H0.out (by omega) (by rw [<-hkn,Int.toNat_natCast];exact hK.out);have h8:=Hr.out.symm.trans h9;have hk1:decide ((k:Int)<n)=false:=by simpa using hlt
    clear h9;by_cases he:Cd.end_ b a=true
    ·rw [if_pos he] at h8;simp only [Prod.mk.injEq] at h8;obtain ⟨rfl,rfl⟩:=h8;rw [he] at hend;clear hkn he;go_wp2_with fail
     refine hend.mono ?_;rintro e w4 ⟨rfl,G4⟩;have hcv:=ZbS (l:=o) (Zh ho G4);have B4:=bch B2 G4 (nl _);go_wp2_with fail
     go_ret2
     exact ⟨rfl,B4⟩
    ·rw [if_neg he] at h8;simp only [Prod.mk.injEq] at h8;obtain ⟨rfl,rfl⟩:=h8;have he':Cd.end_ b a=false:=by simpa using he
     rw [he'] at hend;clear hkn he he';go_wp2_with fail
     refine hend.mono ?_;rintro e w4 ⟨rfl,G4⟩;have B4:=bch B2 G4 (nl _);go_wp2_with fail
     go_ret2
     exact ⟨rfl,B4⟩
theorem Zhq (f:Nat->Int) (b:ByteArray) (n:Int) (w:World) (hb:b.size<=140737488355328) :
 Calls Tryz.prog 189 #[.agg (arr f),.string b,.int .i64 n] w fun e w'=>e=.returned (.tuple #[.string (Cd.rd f b n).1,.int .i64 (Cd.rd f b n).2])/\Below w.heap.size w w':=by
 by_cases h0:Cd.chk f=0
 ·by_cases hn:n<0\/1024<n
  ·have h9:Cd.rd f b n=(⟨#[]⟩,3):=by rw [Cd.rd,if_neg (fun h=>h h0),if_pos hn]
   rw [h9];have hck:=fun w=>Zae f w
   rw [h0] at hck;have hin:=Zc f;have R1:=RowAt.new w f;have HB:Below w.heap.size w (w.alloc (.cells (arr f) 127)):=(bR _ _).alloc (nl _) _;clear h9 h0;by_cases hn0:n<0
   ·have d1:decide (n<0)=true:=by simpa using hn0
    clear hn;go_enter Tryz.func189,Tryz.ntmps189
    go_wp2_with (refine wpList_load_row rfl 127 _ rfl w.heap.size rfl 127 (arr f) (0,0) _ R1.2 Tryz.underlying127 rfl hin ?_)
    refine (hck _).mono ?_;rintro e w1 ⟨rfl,G1⟩;have B1:=bch HB G1 (nl _);clear R1 HB G1 hck;go_wp2_with fail
    go_ret2
    exact ⟨rfl,B1⟩
   ·have d1:decide (n<0)=false:=by simpa using hn0
    have hn1:1024<n:=by omega
    have d2:decide (1024<n)=true:=by simpa using hn1
    clear hn;go_enter Tryz.func189,Tryz.ntmps189
    go_wp2_with (refine wpList_load_row rfl 127 _ rfl w.heap.size rfl 127 (arr f) (0,0) _ R1.2 Tryz.underlying127 rfl hin ?_)
    refine (hck _).mono ?_;rintro e w1 ⟨rfl,G1⟩;have B1:=bch HB G1 (nl _);clear R1 HB G1 hck;go_wp2_with fail
    go_ret2
    exact ⟨rfl,B1⟩
  ·exact ZiB f b n w h0 (by omega) (by omega) hb
 ·have h9:Cd.rd f b n=(⟨#[]⟩,Cd.chk f):=by rw [Cd.rd,if_pos h0]
  rw [h9];have hck:=fun w=>Zae f w
  have hin:=Zc f;have R1:=RowAt.new w f;have HB:Below w.heap.size w (w.alloc (.cells (arr f) 127)):=(Below.refl _ _).alloc (Nat.le_refl _) _;generalize Cd.chk f=E at *;have d0:(E != 0)=true:=by simpa using h0
  clear h9 h0;go_enter Tryz.func189,Tryz.ntmps189
  go_wp2_with (refine wpList_load_row rfl 127 _ rfl w.heap.size rfl 127 (arr f) (0,0) _ R1.2 Tryz.underlying127 rfl hin ?_)
  refine (hck _).mono ?_;rintro e w1 ⟨rfl,G1⟩;have B1:=bch HB G1 (nl _);clear R1 HB G1 hck;go_wp2_with fail
  go_ret2
  exact ⟨rfl,B1⟩
namespace Bk
def hvK (s:ByteArray):Nat->(Nat->Int)
 | 0=>fun _=>0
 | k+1=>upd (upd (hvK s k) (Cd.at8 s k / 16) (hvK s k (Cd.at8 s k / 16)+1)) (Cd.at8 s k % 16) (upd (hvK s k) (Cd.at8 s k / 16) (hvK s k (Cd.at8 s k / 16)+1) (Cd.at8 s k % 16)+1)
def hv (s:ByteArray):Nat->Int:=hvK s s.size
theorem Zjb (s:ByteArray):∀ k i,0<=hvK s k i/\hvK s k i<=2*k:=by
 intro k
 induction k with
 | zero=>intro i;simp [hvK]
 | succ k ih =>
  intro i;have h1:=ih i;have h2:=ih (Cd.at8 s k / 16);have h3:=ih (Cd.at8 s k % 16);rw [hvK];unfold upd;split
  ·split <;> omega
  ·split <;> omega
theorem Zns (s:ByteArray) (h:s.size<=1024):Cd.InR (hv s) 2048 16:=fun i _=>by
 have:=Zjb s s.size i;unfold hv;omega
end Bk
theorem ZkF (s:ByteArray) (w:World) (hs:s.size<=1024) :
 Calls Tryz.prog 161 #[.string s] w fun e w'=>e=.returned (.agg (arr (Bk.hv s)))/\Below w.heap.size w w':=by
 obtain ⟨R2,R3⟩:=RowAt.two w (fun _=>0) (fun _=>0);have HB:=Zkb w (.cells (arr fun _=>0) 127) (.cells (arr fun _=>0) 127);rw [<-Zm] at R2 R3 HB;have hs':(s.size:Int)<=1024:=by omega
 obtain ⟨r,hr⟩:∃ r,Bk.hv s=r:=⟨_,rfl⟩
 rw [hr];have Hr:Hid (Bk.hvK s s.size=r):=hr;clear hr;go_enter Tryz.func161,Tryz.ntmps161
 go_wp2_with fail
 rw [Zm] at R2 R3 HB;rw [Zm];generalize (w.alloc (.cells (arr fun _=>0) 127)).alloc (.cells (arr fun _=>0) 127)=w0 at *
 obtain ⟨g1,hg1⟩:∃ g1,g1=w.heap.size:=⟨_,rfl⟩
 have hq:Hid (g1<w.heap.size+1/\w.heap.size=g1):=by show _/\_;omega
 generalize w.heap.size+1=g3 at *;clear hg1;go_loopw [7] (fun i wr=>∃ k:Nat,k<=s.size/\i=.int .i64 k/\RowAt wr w.heap.size (fun _=>0)/\RowAt wr g3 (Bk.hvK s k)/\Below w.heap.size w wr) (fun i _=>s.size - (intOf i).toNat)
 case atStart=>exact ⟨0,by omega,rfl,R2,R3,HB⟩
 case round =>
  clear R2 R3 HB;obtain ⟨k,hk,rfl,R2,R3,HB⟩:=hrel;by_cases hlt:k<s.size
  ·have hk1:decide ((k:Int)<(s.size:Int))=true:=by simp;omega
   have hk2:decide (k<s.size)=true:=by simp;omega
   have hk3:(k:Int)<(s.size:Int):=by omega
   obtain ⟨x,hx⟩:∃ x:Int,(s[k].toNat:Int)=x:=⟨_,rfl⟩
   have hA:Cd.at8 s k=s[k].toNat:=by unfold Cd.at8;rw [Nm.ZN s k hlt];rfl
   have hA2:=Cd.ZaE s k;have hx0:0<=x:=by omega
   have hx1:x<=255:=by omega
   obtain ⟨H,hH⟩:∃ H,Cd.at8 s k / 16=H:=⟨_,rfl⟩
   obtain ⟨L,hL⟩:∃ L,Cd.at8 s k % 16=L:=⟨_,rfl⟩
   have e1:x / 16=(H:Int):=by omega
   have e2:x % 16=(L:Int):=by omega
   have e3:x.tdiv 16=(H:Int):=by rw [Int.tdiv_eq_ediv_of_nonneg hx0];exact e1
   have e4:x.tmod 16=(L:Int):=by rw [Int.tmod_eq_emod_of_nonneg hx0];exact e2
   have hH1:H<16:=by omega
   have hL1:L<16:=by omega
   have hH2:(H:Int)<16:=by omega
   have hL2:(L:Int)<16:=by omega
   have HN:Hid (Bk.hvK s (k+1)=upd (upd (Bk.hvK s k) H (Bk.hvK s k H+1)) L (upd (Bk.hvK s k) H (Bk.hvK s k H+1) L+1)):=by show _=_;rw [Bk.hvK,hH,hL]
   have hb1:=Bk.Zjb s k H
   have hb2:0<=upd (Bk.hvK s k) H (Bk.hvK s k H+1) L/\upd (Bk.hvK s k) H (Bk.hvK s k H+1) L<=4096:=by
    have:=Bk.Zjb s k L;unfold upd;split <;> omega
   have hb3:Bk.hvK s k H<=4096:=by omega
   have hb4:=hb1.1;clear hA hA2 hH hL e1 e2 hb1;have c1:=R3.cell H hH1;have f1:=R3.frozen H;have S3:=R3.set H (Bk.hvK s k H+1);have S2:=R2.setFar (q:=g3) (by have:=hq.out;omega) H (.int .i64 (Bk.hvK s k H+1));have SB:=HB.setCell (p:=⟨g3,H,none⟩) (by have:=hq.out;show _<=g3;omega) (.int .i64 (Bk.hvK s k H+1));have c2:=S3.cell L hL1;have f2:=S3.frozen L;have T3:=S3.set L (upd (Bk.hvK s k) H (Bk.hvK s k H+1) L+1);have T2:=S2.setFar (q:=g3) (by have:=hq.out;omega) L (.int .i64 (upd (Bk.hvK s k) H (Bk.hvK s k H+1) L+1));have TB:=SB.setCell (p:=⟨g3,L,none⟩) (by have:=hq.out;show _<=g3;omega) (.int .i64 (upd (Bk.hvK s k) H (Bk.hvK s k H+1) L+1));rw [<-HN.out] at T3;generalize upd (Bk.hvK s k) H (Bk.hvK s k H+1) L=y2 at *;generalize Bk.hvK s k H=y1 at *;clear R2 R3 HB S2 S3 SB HN;go_wp2_with fail
   go_roundw
   case rel=>exact ⟨k+1,by omega,by go_num,T2,T3,TB⟩
   case measure=>simp [intOf];omega
  ·obtain rfl:k=s.size:=by omega
   rw [Hr.out] at R3;have hi1:=Zc r;have hk1:decide ((s.size:Int)<(s.size:Int))=false:=by simp
   have hk2:decide (s.size<s.size)=false:=by simp
   go_wp2_with (first | refine wpList_load_row rfl 127 _ rfl g3 rfl 127 (arr r) (0,0) _ R3.2 Tryz.underlying127 rfl hi1 ?_ | refine wpList_store_row rfl 127 _ _ rfl w.heap.size (arr r) rfl rfl 127 _ R2.2 hi1 (by rw [Zi,Zi]) (ZW _) ?_)
   have U2:=R2.setRow r;exact bodyPost_ret (v:=.agg (arr r)) (results_cell_row Tryz.results161 _ _ w.heap.size 127 _ (0,0) _ rfl U2.2 Tryz.underlying127 rfl hi1) rfl ⟨rfl,Zq HB (nl _) _⟩
theorem Zgx (s:ByteArray) (w:World) (hs:s.size<=1024) :
 Calls Tryz.prog 167 #[.string s] w fun e w'=>e=.returned (.agg (arr (Bk.hv s)))/\Below w.heap.size w w':=by
 obtain ⟨R2,R3⟩:=RowAt.two w (fun _=>0) (fun _=>0);have HB:=Zkb w (.cells (arr fun _=>0) 127) (.cells (arr fun _=>0) 127);rw [<-Zm] at R2 R3 HB;have hs':(s.size:Int)<=1024:=by omega
 obtain ⟨r,hr⟩:∃ r,Bk.hv s=r:=⟨_,rfl⟩
 rw [hr];have Hr:Hid (Bk.hvK s s.size=r):=hr;clear hr;go_enter Tryz.func167,Tryz.ntmps167
 go_wp2_with fail
 rw [Zm] at R2 R3 HB;rw [Zm];generalize (w.alloc (.cells (arr fun _=>0) 127)).alloc (.cells (arr fun _=>0) 127)=w0 at *
 obtain ⟨g1,hg1⟩:∃ g1,g1=w.heap.size:=⟨_,rfl⟩
 have hq:Hid (g1<w.heap.size+1/\w.heap.size=g1):=by show _/\_;omega
 generalize w.heap.size+1=g3 at *;clear hg1;go_loopw [4] (fun i wr=>∃ k:Nat,k<=s.size/\i=.int .i64 k/\RowAt wr w.heap.size (fun _=>0)/\RowAt wr g3 (Bk.hvK s k)/\Below w.heap.size w wr) (fun i _=>s.size - (intOf i).toNat)
 case atStart=>exact ⟨0,by omega,rfl,R2,R3,HB⟩
 case round =>
  clear R2 R3 HB;obtain ⟨k,hk,rfl,R2,R3,HB⟩:=hrel;by_cases hlt:k<s.size
  ·have hk1:decide ((k:Int)<(s.size:Int))=true:=by simp;omega
   have hk2:decide (k<s.size)=true:=by simp;omega
   have hk3:(k:Int)<(s.size:Int):=by omega
   obtain ⟨x,hx⟩:∃ x:Int,(s[k].toNat:Int)=x:=⟨_,rfl⟩
   have hA:Cd.at8 s k=s[k].toNat:=by unfold Cd.at8;rw [Nm.ZN s k hlt];rfl
   have hA2:=Cd.ZaE s k;have hx0:0<=x:=by omega
   have hx1:x<=255:=by omega
   obtain ⟨H,hH⟩:∃ H,Cd.at8 s k / 16=H:=⟨_,rfl⟩
   obtain ⟨L,hL⟩:∃ L,Cd.at8 s k % 16=L:=⟨_,rfl⟩
   have e1:x / 16=(H:Int):=by omega
   have e2:x % 16=(L:Int):=by omega
   have e3:x.tdiv 16=(H:Int):=by rw [Int.tdiv_eq_ediv_of_nonneg hx0];exact e1
   have e4:x.tmod 16=(L:Int):=by rw [Int.tmod_eq_emod_of_nonneg hx0];exact e2
   have hH1:H<16:=by omega
   have hL1:L<16:=by omega
   have hH2:(H:Int)<16:=by omega
   have hL2:(L:Int)<16:=by omega
   have HN:Hid (Bk.hvK s (k+1)=upd (upd (Bk.hvK s k) H (Bk.hvK s k H+1)) L (upd (Bk.hvK s k) H (Bk.hvK s k H+1) L+1)):=by show _=_;rw [Bk.hvK,hH,hL]
   have hb1:=Bk.Zjb s k H
   have hb2:0<=upd (Bk.hvK s k) H (Bk.hvK s k H+1) L/\upd (Bk.hvK s k) H (Bk.hvK s k H+1) L<=4096:=by
    have:=Bk.Zjb s k L;unfold upd;split <;> omega
   have hb3:Bk.hvK s k H<=4096:=by omega
   have hb4:=hb1.1;clear hA hA2 hH hL e1 e2 hb1;have c1:=R3.cell H hH1;have f1:=R3.frozen H;have S3:=R3.set H (Bk.hvK s k H+1);have S2:=R2.setFar (q:=g3) (by have:=hq.out;omega) H (.int .i64 (Bk.hvK s k H+1));have SB:=HB.setCell (p:=⟨g3,H,none⟩) (by have:=hq.out;show _<=g3;omega) (.int .i64 (Bk.hvK s k H+1));have c2:=S3.cell L hL1;have f2:=S3.frozen L;have T3:=S3.set L (upd (Bk.hvK s k) H (Bk.hvK s k H+1) L+1);have T2:=S2.setFar (q:=g3) (by have:=hq.out;omega) L (.int .i64 (upd (Bk.hvK s k) H (Bk.hvK s k H+1) L+1));have TB:=SB.setCell (p:=⟨g3,L,none⟩) (by have:=hq.out;show _<=g3;omega) (.int .i64 (upd (Bk.hvK s k) H (Bk.hvK s k H+1) L+1));rw [<-HN.out] at T3;generalize upd (Bk.hvK s k) H (Bk.hvK s k H+1) L=y2 at *;generalize Bk.hvK s k H=y1 at *;clear R2 R3 HB S2 S3 SB HN;go_wp2_with fail
   go_roundw
   case rel=>exact ⟨k+1,by omega,by go_num,T2,T3,TB⟩
   case measure=>simp [intOf];omega
  ·obtain rfl:k=s.size:=by omega
   rw [Hr.out] at R3;have hi1:=Zc r;have hk1:decide ((s.size:Int)<(s.size:Int))=false:=by simp
   have hk2:decide (s.size<s.size)=false:=by simp
   go_wp2_with (first | refine wpList_load_row rfl 127 _ rfl g3 rfl 127 (arr r) (0,0) _ R3.2 Tryz.underlying127 rfl hi1 ?_ | refine wpList_store_row rfl 127 _ _ rfl w.heap.size (arr r) rfl rfl 127 _ R2.2 hi1 (by rw [Zi,Zi]) (ZW _) ?_)
   have U2:=R2.setRow r;exact bodyPost_ret (v:=.agg (arr r)) (results_cell_row Tryz.results167 _ _ w.heap.size 127 _ (0,0) _ rfl U2.2 Tryz.underlying127 rfl hi1) rfl ⟨rfl,Zq HB (nl _) _⟩
structure Tr where
 h:Nat->Bool
 w:Int
def trc (t:Tr):Array Value:=((List.range 16).map fun i=>Value.bool (t.h i)).toArray++#[.int .i64 t.w]
theorem Zal (t:Tr):(trc t).size=17:=by simp [trc]
theorem Zsn (t:Tr) (i:Nat) (hi:i<16):(trc t)[i]?=some (.bool (t.h i)):=by
 rw [trc,Array.getElem?_append_left (by simp;exact hi)];simp [hi]
theorem Zsb (t:Tr):(trc t)[16]?=some (.int .i64 t.w):=by
 rw [trc,Array.getElem?_append_right (by simp)];simp
theorem ZqD:(Tryz.prog.info? 205).map (·.size)=some 17:=by kernel_rfl
theorem ZU (t:Tr):(Tryz.prog.info? 205).map (·.size)=some (trc t).size:=by rw [Zal];exact ZqD
theorem Zdx (t:Tr):(trc t).all (·.oneCell')=true:=by
 unfold trc;rw [Array.all_append]
 have:((List.range 16).map fun i=>Value.bool (t.h i)).toArray.all (·.oneCell')=true:=by
  rw [Array.all_eq_true_iff_forall_mem];intro v hv;simp at hv;obtain ⟨i,_,rfl⟩:=hv;rfl
 rw [this];simp [Value.oneCell']
theorem ZhT {s t:Tr} (h:∀ i,i<16->s.h i=t.h i) (hw:s.w=t.w):trc s=trc t:=by
 unfold trc;rw [hw]
 congr 2
 apply List.map_congr_left;intro i hi;rw [h i (List.mem_range.1 hi)]
def TrAt (w:World) (g:Nat) (t:Tr):Prop:=g<w.heap.size/\w.heap[g]?=some (.cells (trc t) 205 (0,0))
theorem TrAt.new (w:World) (t:Tr):TrAt (w.alloc (.cells (trc t) 205)) w.heap.size t:=⟨by simp,heap_alloc_last w _⟩
theorem TrAt.below {w w':World} {g:Nat} {t:Tr} (H:TrAt w g t) (hb:Below w.heap.size w w'):TrAt w' g t:=⟨nT H.1 hb.size,by rw [hb.block g H.1];exact H.2⟩
theorem TrAt.alloc {w:World} {g:Nat} {t:Tr} (H:TrAt w g t) (o:Obj):TrAt (w.alloc o) g t:=H.below ((bR _ _).alloc (nl _) o)
theorem TrAt.cellh {w:World} {g:Nat} {t:Tr} (H:TrAt w g t) (k:Nat) (hk:k<16):w.cell? ⟨g,k,none⟩=some (.bool (t.h k)):=by rw [cell_of_row w g k _ _ _ H.2,Zsn t k hk]
theorem TrAt.cellw {w:World} {g:Nat} {t:Tr} (H:TrAt w g t):w.cell? ⟨g,16,none⟩=some (.int .i64 t.w):=by rw [cell_of_row w g 16 _ _ _ H.2,Zsb t]
theorem TrAt.frozen {w:World} {g:Nat} {t:Tr} (H:TrAt w g t) (k:Nat):w.frozen? ⟨g,k,none⟩=false:=by simp [World.frozen?,H.2]
theorem TrAt.range {w:World} {g:Nat} {t:Tr} (h:TrAt w g t):w.rangeAt g 0 (trc t).toList:=by
 have:=World.rangeAt_of_block h.2 0 17
 rwa [show (trc t).extract 0 (0+17)=trc t by rw [Nat.zero_add,<-Zal t];exact Array.extract_size] at this
namespace Cd
def lsF (h:Nat->Bool):Nat->Nat->Nat
 | 0,k=>k
 | m+1,k=>if h k=true then k else lsF h m (k+1)
def ls (h:Nat->Bool):Nat:=lsF h 16 0
def lgt (s t:Tr):Bool:=if s.w=t.w then decide (ls s.h<ls t.h) else decide (s.w<t.w)
end Cd
theorem Zbu (t:Tr) (w:World) :
 Calls Tryz.prog 185 #[.agg (trc t)] w fun e w'=>e=.returned (.int .i64 (Cd.ls t.h:Nat))/\Below w.heap.size w w':=by
 have R1:=TrAt.new w t;have B1:Below w.heap.size w (w.alloc (.cells (trc t) 205)):=(bR _ _).alloc (nl _) _
 obtain ⟨r,hr⟩:∃ r,Cd.ls t.h=r:=⟨_,rfl⟩
 rw [hr];have Hr:Hid (Cd.lsF t.h 16 0=r):=hr;clear hr;go_enter Tryz.func185,Tryz.ntmps185
 go_wp2_with fail
 generalize w.alloc (.cells (trc t) 205)=w0 at *;go_loop [3] (fun i=>∃ (k m:Nat),i=.int .i64 k/\Hid (k+m=16)/\k<=16/\Hid (Cd.lsF t.h m k=r)) (fun i=>16 - (intOf i).toNat)
 case atStart=>exact ⟨0,16,rfl,rfl,by omega,Hr⟩
 case round =>
  obtain ⟨k,m,rfl,Hm,hk,HF⟩:=hrel;by_cases hlt:k<16
  ·have hk1:decide ((k:Int)<16)=true:=by simp;omega
   have hk2:decide (k<16)=true:=by simp;omega
   have hk3:(k:Int)<16:=by omega
   obtain ⟨m,rfl⟩:∃ j,m=j+1:=⟨m - 1,by have:=Hm.out;omega⟩
   have c1:=R1.cellh k hlt
   cases hb:t.h k with
   | true =>
    have h9:=HF.out;rw [Cd.lsF,if_pos hb] at h9;subst h9;rw [hb] at c1;clear hb;go_wp2_with fail
    go_ret
    exact ⟨rfl,B1⟩
   | false =>
    have h9:=HF.out;rw [Cd.lsF,if_neg (by simp [hb])] at h9;have H9:Hid (Cd.lsF t.h m (k+1)=r):=h9;rw [hb] at c1;clear hb h9;go_wp2_with fail
    exact ⟨⟨k+1,m,by go_num,by have:=Hm.out;show _=_;omega,by omega,H9⟩,by simp [intOf];omega⟩
  ·obtain rfl:k=16:=by omega
   obtain rfl:m=0:=by have:=Hm.out;omega
   have h9:=HF.out;rw [Cd.lsF] at h9;subst h9;go_wp2_with fail
   go_ret
   exact ⟨rfl,B1⟩
theorem Zhc {P:Program} {md:Region.Mode} {ops:Array Oper} {Q:Exit->Act->World->Prop} {S:World->Prop} {i:Nat} {o:Oper} {v:Value} {fuel:Nat} {listed:Array Bool} {a:Act} {w:World}
 (hr:Region.ready md ops listed=[i]) (hr2:Region.ready md ops (listed.setIfInBounds i true)=[]) (ho:ops[i]?=some o) (hy:YieldsIf P ops S o v a) (hS:S w) (h:Q .normal (a.put o.dst v) w):wpAnyH P md ops Q S (fuel+1) listed a w :=
 wpAnyH_all hr (by simp) (fun j hj=>by
  obtain rfl:j=i:=by simpa using hj
  exact hy.wpOp ho hS ⟨hS,wpAnyH_done hr2 h _⟩)
theorem Zvj (w:World) (s t:Tr):TrAt ((w.alloc (.cells (trc s) 205)).alloc (.cells (trc t) 205)) w.heap.size s/\TrAt ((w.alloc (.cells (trc s) 205)).alloc (.cells (trc t) 205)) (w.heap.size+1) t/\Below w.heap.size w ((w.alloc (.cells (trc s) 205)).alloc (.cells (trc t) 205)) :=
 ⟨(TrAt.new w s).alloc _,by have:=TrAt.new (w.alloc (.cells (trc s) 205)) t;simpa using this,((Below.refl _ _).alloc (Nat.le_refl _) _).alloc (by simp) _⟩
theorem ZiY (s t:Tr) (w:World) :
 Calls Tryz.prog 207 #[.agg (trc s),.agg (trc t)] w fun e w'=>e=.returned (.bool (Cd.lgt s t))/\Below w.heap.size w w':=by
 obtain ⟨R1,R2,B1⟩:=Zvj w s t;have c1:=R1.cellw;have c2:=R2.cellw;by_cases hw:s.w=t.w
 ·have h9:Cd.lgt s t=decide (Cd.ls s.h<Cd.ls t.h):=by rw [Cd.lgt,if_pos hw]
  rw [h9];have d1:(s.w != t.w)=false:=by simpa using hw
  have hl1:=fun w=>Zbu s w
  have hl2:=fun w=>Zbu t w
  have hi1:=ZU s;have hi2:=ZU t;generalize Cd.ls s.h=x at *;generalize Cd.ls t.h=y at *;generalize s.w=ws at *;generalize t.w=wt at *;clear h9 hw;go_enter Tryz.func207,Tryz.ntmps207
  go_wp2_with fail
  generalize (w.alloc (.cells (trc s) 205)).alloc (.cells (trc t) 205)=w0 at *;refine wp_region_held_drew (S:=fun w'=>TrAt w' w.heap.size s/\TrAt w' (w.heap.size+1) t) (by kernel_rfl) ⟨R1,R2⟩ (fun hS=>?_);refine wpAnyH_take (i:=0) (fuel:=5) rfl (by kernel_rfl) (by kernel_rfl) (by kernel_rfl) (fun _ _ _ h=>h) (yieldsIf_load_mid (by rfl) 205 _ rfl w.heap.size 0 rfl (trc s).toList _ (fun w' h'=>h'.1.range) Tryz.underlying205 rfl (by rw [Array.length_toList];exact hi1)) hS ?_;refine wpAnyH_take (i:=2) (fuel:=4) rfl (by kernel_rfl) (by kernel_rfl) (by kernel_rfl) (fun _ _ _ h=>h) (yieldsIf_load_mid (by rfl) 205 _ rfl (w.heap.size+1) 0 rfl (trc t).toList _ (fun w' h'=>h'.2.range) Tryz.underlying205 rfl (by rw [Array.length_toList];exact hi2)) hS ?_;refine wpAnyH_ready (rs:=[1]) (fuel:=3) (by kernel_rfl) (by simp) ?_;refine AllReadyH.cons rfl (fun K hK=>?_) AllReadyH.nil;go_simp
  refine (hl1 _).mono ?_;rintro e w1 ⟨rfl,G1⟩;have S1:=(show TrAt w0.drew w.heap.size s from R1).below G1;have S2:=(show TrAt w0.drew (w.heap.size+1) t from R2).below G1;have B2:=bch (show Below w.heap.size w w0.drew from B1.drew) G1 (Nat.le_refl _);clear c1 c2 R1 R2 B1 G1 hl1;refine hK.out _ _ ⟨S1,S2⟩ (fun hS2=>?_);clear hK;refine wpAnyH_ready (rs:=[3]) (fuel:=2) (by kernel_rfl) (by simp) ?_;refine AllReadyH.cons rfl (fun K hK=>?_) AllReadyH.nil;go_simp
  refine (hl2 _).mono ?_;rintro e w2 ⟨rfl,G2⟩;have B3:=bch B2 G2 (Nat.le_refl _);refine hK.out _ _ ⟨S1.below G2,S2.below G2⟩ (fun hS3=>?_);clear hK G2;refine wpAnyH_take (i:=4) (fuel:=1) (v:=.bool (decide (x<y))) rfl (by kernel_rfl) (by kernel_rfl) (by kernel_rfl) (fun _ _ _ h=>h) (Or.inl ⟨by rfl,fun w _=>by go_simp⟩) hS3 ?_;refine Zhc (i:=5) (fuel:=0) (v:=.bool (decide (x<y))) (by kernel_rfl) (by kernel_rfl) rfl (Or.inl ⟨by rfl,fun w _=>by go_simp⟩) hS3 ?_;go_wp2_with fail
  go_ret
  exact ⟨rfl,B3⟩
 ·have h9:Cd.lgt s t=decide (s.w<t.w):=by rw [Cd.lgt,if_neg hw]
  rw [h9];have d1:(s.w != t.w)=true:=by simpa using hw
  generalize s.w=ws at *;generalize t.w=wt at *;clear h9 hw;go_enter Tryz.func207,Tryz.ntmps207
  go_wp2_with fail
  go_ret
  exact ⟨rfl,B1⟩
namespace Cd
def chr (b:Bool):UInt8:=if b then 49 else 48
def str (bs:List Bool):ByteArray:=⟨(bs.map chr).toArray⟩
theorem Zab (bs:List Bool):(str bs).size=bs.length:=by
 show (bs.map chr).toArray.size=_;simp
theorem ZeZ (a b:List Bool):str a++str b=str (a++b):=by
 unfold str;rw [List.map_append];exact Nm.ZdM _ _
theorem ZrP (word:Int):∀ k,wb word (k+1)=wb (word / 2) k++[decide (word % 2=1)]:=by
 intro k
 induction k generalizing word with
 | zero=>simp [wb]
 | succ k ih =>
  rw [wb,ih,wb,List.cons_append,Int.ediv_ediv_of_nonneg (by omega),Int.pow_succ,Int.mul_comm 2 (2 ^ k)]
theorem Zvq (n:Int):UInt8.ofNat (48+n % 2).toNat=chr (decide (n % 2=1)):=by
 have h:n % 2=0\/n % 2=1:=by omega
 rcases h with h | h <;> rw [h] <;> rfl
end Cd
theorem ZeN (k:Nat):∀ (n:Int) (w:World),0<=n->n<=1048576->k<=15 →
 Calls Tryz.prog 140 #[.int .i64 n,.int .i64 (k:Int)] w fun e w'=>e=.returned (.string (Cd.str (Cd.wb n k)))/\Below w.heap.size w w':=by
 induction k with
 | zero =>
  intro n w h0 hn _;go_enter Tryz.func140,Tryz.ntmps140
  go_wp2_with fail
  go_ret
  exact ⟨rfl,bR _ _⟩
 | succ k ih =>
  intro n w h0 hn hk;have hcv:=Zbh (48+n % 2) (by omega) (by omega)
  have IH:Hid (∀ (n:Int) (w:World),0<=n->n<=1048576->k<=15 →
   Calls Tryz.prog 140 #[.int .i64 n,.int .i64 (k:Int)] w fun e w'=>e=.returned (.string (Cd.str (Cd.wb n k)))/\Below w.heap.size w w'):=ih
  clear ih;have hl:(Cd.str (Cd.wb (n / 2) k)).size<=15:=by rw [Cd.Zab,Cd.ZdO];omega
  have HN:Hid (Cd.str (Cd.wb n (k+1))=Cd.str (Cd.wb (n / 2) k)++⟨#[UInt8.ofNat (48+n % 2).toNat]⟩):=by
   show _=_;rw [Cd.ZrP,<-Cd.ZeZ,Cd.Zvq];rfl
  obtain ⟨K,hK⟩:∃ K:Int,((k+1:Nat):Int)=K:=⟨_,rfl⟩
  rw [hK];have hK0:(K == 0)=false:=by simp;omega
  have hK1:K - 1=(k:Int):=by omega
  have hr1:IntKind.i64.wrap (48+n % 2)=48+n % 2:=IntWalk.i64_in _ ⟨by omega,by omega⟩;have hr3:n.tmod 2=n % 2:=Int.tmod_eq_emod_of_nonneg h0;have hr4:n.tdiv 2=n / 2:=Int.tdiv_eq_ediv_of_nonneg h0;have hr5:IntKind.i64.wrap (n / 2)=n / 2:=IntWalk.i64_in _ ⟨by omega,by omega⟩;have hr6:IntKind.i64.wrap (k:Int)=(k:Int):=IntWalk.i64_in _ ⟨by omega,by omega⟩;have hr2:IntKind.u8.wrap (48+n % 2)=48+n % 2:=IntWalk.u8_in _ ⟨by omega,by omega⟩;clear hK;go_enter Tryz.func140,Tryz.ntmps140
  go_wp2_with fail
  go_region_with (go_at_call 140;refine (IH.out _ _ (by omega) (by omega) (by omega)).mono ?_;rintro e w1 ⟨rfl,hB⟩;have hk1:=Zuu hB)
  all_goals go_wp2
  all_goals go_ret
  all_goals refine ⟨?_,?_⟩
  all_goals first | exact congrArg (fun s=>Ending.returned (Value.string s)) HN.out.symm | skip
  all_goals first | exact bch ((bR _ _).alloc (nl _) _).drew hB (nl _) | exact bch (bR _ _).drew hB (nl _) | exact (bch (bR _ _).drew hB (nl _)).alloc hB.size _ | skip
def arrS (h:Nat->ByteArray):Array Value:=((List.range 16).map fun i=>Value.string (h i)).toArray
theorem Zbg (h:Nat->ByteArray):(arrS h).size=16:=by simp [arrS]
theorem ZhX (h:Nat->ByteArray) (i:Nat) (hi:i<16):(arrS h)[i]?=some (.string (h i)):=by simp [arrS,hi]
theorem ZmH:(Tryz.prog.info? 160).map (·.size)=some 16:=by kernel_rfl
theorem Zdj (h:Nat->ByteArray):(Tryz.prog.info? 160).map (·.size)=some (arrS h).size:=by rw [Zbg];exact ZmH
theorem Zlu {h g:Nat->ByteArray} (e:∀ i,i<16->h i=g i):arrS h=arrS g:=by
 unfold arrS
 congr 1
 apply List.map_congr_left;intro i hi;rw [e i (List.mem_range.1 hi)]
def updB (h:Nat->ByteArray) (k:Nat) (v:ByteArray):Nat->ByteArray:=fun i=>if i=k then v else h i
theorem Zpn (h:Nat->ByteArray) (k:Nat) (v:ByteArray):(arrS h).setIfInBounds k (.string v)=arrS (updB h k v):=by
 apply Array.ext_getElem?;intro i;rw [Array.getElem?_setIfInBounds,Zbg];by_cases hi:i<16
 ·rw [ZhX _ i hi,ZhX _ i hi];by_cases e:k=i
  ·subst e;simp [updB,hi]
  ·have e':¬ i=k:=fun h=>e h.symm
   simp [updB,e,e']
 ·have h1:(arrS h)[i]?=none:=by rw [Array.getElem?_eq_none];rw [Zbg];omega
  have h2:(arrS (updB h k v))[i]?=none:=by rw [Array.getElem?_eq_none];rw [Zbg];omega
  rw [h1,h2];split
  ·rename_i e;subst e;simp [hi]
  ·rfl
theorem Zeq:(#[.string ⟨#[]⟩,.string ⟨#[]⟩,.string ⟨#[]⟩,.string ⟨#[]⟩,.string ⟨#[]⟩,.string ⟨#[]⟩,.string ⟨#[]⟩,.string ⟨#[]⟩,.string ⟨#[]⟩,.string ⟨#[]⟩,.string ⟨#[]⟩,.string ⟨#[]⟩,.string ⟨#[]⟩,.string ⟨#[]⟩,.string ⟨#[]⟩,.string ⟨#[]⟩]:Array Value)=arrS (fun _=>⟨#[]⟩):=rfl
theorem ZfL (h:Nat->ByteArray):(arrS h).all (·.oneCell')=true:=by
 rw [Array.all_eq_true_iff_forall_mem];intro v hv;simp [arrS] at hv;obtain ⟨i,_,rfl⟩:=hv;rfl
def StAt (w:World) (g:Nat) (h:Nat->ByteArray):Prop:=g<w.heap.size/\w.heap[g]?=some (.cells (arrS h) 160 (0,0))
theorem StAt.new (w:World) (h:Nat->ByteArray):StAt (w.alloc (.cells (arrS h) 160)) w.heap.size h:=⟨by simp,heap_alloc_last w _⟩
theorem StAt.below {w w':World} {g:Nat} {h:Nat->ByteArray} (H:StAt w g h) (hb:Below w.heap.size w w'):StAt w' g h:=⟨nT H.1 hb.size,by rw [hb.block g H.1];exact H.2⟩
theorem StAt.alloc {w:World} {g:Nat} {h:Nat->ByteArray} (H:StAt w g h) (o:Obj):StAt (w.alloc o) g h:=H.below ((bR _ _).alloc (nl _) o)
theorem StAt.cell {w:World} {g:Nat} {h:Nat->ByteArray} (H:StAt w g h) (k:Nat) (hk:k<16):w.cell? ⟨g,k,none⟩=some (.string (h k)):=by rw [cell_of_row w g k _ _ _ H.2,ZhX h k hk]
theorem StAt.frozen {w:World} {g:Nat} {h:Nat->ByteArray} (H:StAt w g h) (k:Nat):w.frozen? ⟨g,k,none⟩=false:=by simp [World.frozen?,H.2]
theorem StAt.set {w:World} {g:Nat} {h:Nat->ByteArray} (H:StAt w g h) (k:Nat) (v:ByteArray):StAt (w.setCell ⟨g,k,none⟩ (.string v)) g (updB h k v):=by
 refine ⟨by have:=H.1;simpa [World.setCell] using this,?_⟩;rw [Zcv H.2,Zpn]
theorem StAt.setFar {w:World} {g:Nat} {h:Nat->ByteArray} (H:StAt w g h) {q:Nat} (hq:q ≠ g) (k:Nat) (v:Value):StAt (w.setCell ⟨q,k,none⟩ v) g h:=by
 refine ⟨by have:=H.1;simpa [World.setCell] using this,?_⟩;rw [ZcB hq];exact H.2
theorem StAt.setRow {w:World} {g:Nat} {h:Nat->ByteArray} (H:StAt w g h) (h':Nat->ByteArray):StAt (w.setRow g (arrS h')) g h':=by
 refine ⟨by have:=H.1;simpa [World.setRow] using this,?_⟩;show (w.heap.modify g _)[g]?=_;rw [Array.getElem?_modify,if_pos rfl,H.2];rfl
theorem StAt.congr {w:World} {g:Nat} {h h':Nat->ByteArray} (H:StAt w g h) (e:∀ i,i<16->h i=h' i):StAt w g h':=⟨H.1,by rw [H.2,Zlu e]⟩
namespace Cd
def oS (f:Nat->Int) (n k:Nat) (i:Nat):ByteArray:=if (1<=f i/\f i<=(n:Int))\/(f i=((n+1:Nat):Int)/\i<k) then str (cw f i) else ⟨#[]⟩
theorem Zsg (f:Nat->Int) (h:InR f 15 16) (i:Nat) (hi:i<16):(⟨#[]⟩:ByteArray)=oS f 0 0 i:=by
 have:=h i hi;rw [oS,if_neg (by omega)]
theorem ZtH (f:Nat->Int) (n k:Nat) (h:f k=((n+1:Nat):Int)) (i:Nat):updB (oS f n k) k (str (cw f k)) i=oS f n (k+1) i:=by
 unfold updB oS;by_cases e:i=k
 ·subst e;rw [if_pos rfl,if_pos (by omega)]
 ·rw [if_neg e];by_cases h1:(1<=f i/\f i<=(n:Int))\/(f i=((n+1:Nat):Int)/\i<k)
  ·rw [if_pos h1,if_pos (by omega)]
  ·rw [if_neg h1,if_neg (by omega)]
theorem ZsC (f:Nat->Int) (n k:Nat) (h:¬ f k=((n+1:Nat):Int)) (i:Nat):oS f n k i=oS f n (k+1) i:=by
 unfold oS;by_cases e:i=k
 ·subst e;by_cases h1:1<=f i/\f i<=(n:Int)
  ·rw [if_pos (.inl h1),if_pos (.inl h1)]
  ·rw [if_neg (by omega),if_neg (by omega)]
 ·by_cases h1:(1<=f i/\f i<=(n:Int))\/(f i=((n+1:Nat):Int)/\i<k)
  ·rw [if_pos h1,if_pos (by omega)]
  ·rw [if_neg h1,if_neg (by omega)]
theorem Ztx (f:Nat->Int) (n:Nat) (i:Nat) (hi:i<16):oS f n 16 i=oS f (n+1) 0 i:=by
 unfold oS;by_cases h1:(1<=f i/\f i<=(n:Int))\/(f i=((n+1:Nat):Int)/\i<16)
 ·rw [if_pos h1,if_pos (by omega)]
 ·rw [if_neg h1,if_neg (by omega)]
theorem Zuo (f:Nat->Int) (h:InR f 15 16) (i:Nat) (hi:i<16):oS f 15 0 i=str (cw f i):=by
 have:=h i hi;unfold oS;by_cases h0:f i=0
 ·rw [if_neg (by omega),cw,h0];rfl
 ·rw [if_pos (by omega)]
theorem Zug (f:Nat->Int) (n:Int) (x:Int × (Nat->Int)) (k:Nat) (h:f k=n):∀ j,(wI f n x (k+1+j)).2 k=(wI f n x k).1:=by
 intro j
 induction j with
 | zero=>rw [Nat.add_zero,wI,if_pos h];exact ZD _ _ _
 | succ j ih =>
  rw [<-Nat.add_assoc,wI];split
  ·simp only;rw [Zg _ _ (by omega)];exact ih
  ·exact ih
theorem ZtQ {f:Nat->Int} {n k:Nat} (hk:k<16) (hn:n+1<=15) (h:f k=((n+1:Nat):Int)):wds f k=(wI f ((n+1:Nat):Int) ((wO f n).1*2,(wO f n).2) k).1:=by
 have h1:=Zfx f k n h (15 - (n+1));rw [show n+1+(15 - (n+1))=15 by omega] at h1;rw [wds,h1,wO];have h2:=Zug f ((n+1:Nat):Int) ((wO f n).1*2,(wO f n).2) k h (15 - k);rw [show k+1+(15 - k)=16 by omega] at h2;exact h2
end Cd
theorem ZuF (w:World) (f:Nat->Int):RowAt (((w.alloc (.cells (arr f) 127)).alloc (.cells (arrS fun _=>⟨#[]⟩) 160)).alloc (.cells (arrS fun _=>⟨#[]⟩) 160)) w.heap.size f ∧
 StAt (((w.alloc (.cells (arr f) 127)).alloc (.cells (arrS fun _=>⟨#[]⟩) 160)).alloc (.cells (arrS fun _=>⟨#[]⟩) 160)) (w.heap.size+1) (fun _=>⟨#[]⟩) ∧
 StAt (((w.alloc (.cells (arr f) 127)).alloc (.cells (arrS fun _=>⟨#[]⟩) 160)).alloc (.cells (arrS fun _=>⟨#[]⟩) 160)) (w.heap.size+1+1) (fun _=>⟨#[]⟩) ∧
 Below w.heap.size w (((w.alloc (.cells (arr f) 127)).alloc (.cells (arrS fun _=>⟨#[]⟩) 160)).alloc (.cells (arrS fun _=>⟨#[]⟩) 160)):=by
 have a:=StAt.new (w.alloc (.cells (arr f) 127)) (fun _=>⟨#[]⟩);have b:=StAt.new ((w.alloc (.cells (arr f) 127)).alloc (.cells (arrS fun _=>⟨#[]⟩) 160)) (fun _=>⟨#[]⟩);refine ⟨((RowAt.new w f).alloc _).alloc _,?_,?_,(((Below.refl _ _).alloc (Nat.le_refl _) _).alloc (by simp) _).alloc (by simp;omega) _⟩
 ·have:=a.alloc (.cells (arrS fun _=>⟨#[]⟩) 160);simpa using this
 ·simpa using b
theorem ZdA (f:Nat->Int) (w:World) (hR:Cd.InR f 15 16) :
 Calls Tryz.prog 141 #[.agg (arr f)] w fun e w'=>e=.returned (.agg (arrS fun i=>Cd.str (Cd.cw f i)))/\Below w.heap.size w w':=by
 obtain ⟨R1,R2,R3,HB⟩:=ZuF w f;rw [<-Zeq] at R1 R2 R3 HB;have HR:Hid (Cd.InR f 15 16):=hR;clear hR
 obtain ⟨hS,hSe⟩:∃ h,(fun i=>Cd.str (Cd.cw f i))=h:=⟨_,rfl⟩
 rw [hSe];have HS:Hid ((fun i=>Cd.str (Cd.cw f i))=hS):=hSe;clear hSe;go_enter Tryz.func141,Tryz.ntmps141
 go_wp2_with fail
 rw [Zeq] at R1 R2 R3 HB;rw [Zeq];generalize ((w.alloc (.cells (arr f) 127)).alloc (.cells (arrS fun _=>⟨#[]⟩) 160)).alloc (.cells (arrS fun _=>⟨#[]⟩) 160)=w0 at *
 obtain ⟨g1,hg1⟩:∃ g1,g1=w.heap.size:=⟨_,rfl⟩
 have hq1:Hid (g1<w.heap.size+1/\w.heap.size+1<w.heap.size+1+1/\w.heap.size<=g1):=by show _/\_/\_;omega
 generalize w.heap.size+1+1=g3 at *;generalize w.heap.size+1=g2 at *;clear hg1;have R3':=R3.congr (h':=Cd.oS f 0 0) (fun i hi=>Cd.Zsg f HR.out i hi);go_loopw [4,5,6] (fun x l i wr=>∃ (n:Nat) (N1 X L:Int),n<=15/\i=.int .i64 N1/\Hid (N1=(n+1:Nat))/\x=.int .i64 X/\l=.int .i64 L/\0<=X/\0<=L/\Hid (L<=n/\X*2 ^ (n - L.toNat)=(Cd.wO f n).1)/\RowAt wr w.heap.size f/\StAt wr g2 (fun _=>⟨#[]⟩)/\StAt wr g3 (Cd.oS f n 0)/\Below w.heap.size w wr) (fun _ _ i _=>20 - (intOf i).toNat)
 case atStart=>exact ⟨0,1,0,0,by omega,rfl,rfl,rfl,rfl,by omega,by omega,⟨by omega,by simp [Cd.wO]⟩,R1,R2,R3',HB⟩
 case round =>
  clear R1 R2 R3 R3' HB;obtain ⟨n,N1,X,L,hn,rfl,HN1,rfl,rfl,hX,hL,HX,R1,R2,R3,HB⟩:=hrel;have hNb:1<=N1/\N1<=16:=by have:=HN1.out;omega
  by_cases hlt:n<15
  ·have hk1:decide (N1<=15)=true:=by have:=HN1.out;simp;omega
   have Hn:Hid (n<15):=hlt
   have HX0:Hid (L<=((n+1:Nat):Int)/\X*2 ^ (n+1 - L.toNat)=(Cd.wI f ((n+1:Nat):Int) ((Cd.wO f n).1*2,(Cd.wO f n).2) 0).1):=by
    obtain ⟨h1,h2⟩:=HX.out;refine ⟨by omega,?_⟩;show _=(Cd.wO f n).1*2;rw [<-h2,show n+1 - L.toNat=(n - L.toNat)+1 by omega,Int.pow_succ,Int.mul_assoc]
   clear hn hlt;go_wp2_with fail
   go_loopw [4,5,7] (fun x l i wr=>∃ (k:Nat) (X L:Int),k<=16/\i=.int .i64 k/\x=.int .i64 X/\l=.int .i64 L/\0<=X/\0<=L/\Hid (L<=((n+1:Nat):Int)/\X*2 ^ (n+1 - L.toNat)=(Cd.wI f ((n+1:Nat):Int) ((Cd.wO f n).1*2,(Cd.wO f n).2) k).1)/\RowAt wr w.heap.size f/\StAt wr g2 (fun _=>⟨#[]⟩)/\StAt wr g3 (Cd.oS f n k)/\Below w.heap.size w wr) (fun _ _ i _=>16 - (intOf i).toNat)
   case atStart=>exact ⟨0,X,L,by omega,rfl,rfl,rfl,hX,hL,HX0,R1,R2,R3,HB⟩
   case round =>
    clear R1 R2 R3 HB HX HX0 hX hL;obtain ⟨k,X,L,hk,rfl,rfl,rfl,hX,hL,HX,R1,R2,R3,HB⟩:=hrel;by_cases hlt2:k<16
    ·have hk2:decide ((k:Int)<16)=true:=by simp;omega
     have hk3:decide (k<16)=true:=by simp;omega
     have hc1:=R1.cell k hlt2;by_cases hx:f k=N1
     ·have d1:(f k == N1)=true:=by simpa using hx
      have hfn:f k=((n+1:Nat):Int):=by rw [hx];exact HN1.out
      have hw:=Cd.ZtQ hlt2 (by have:=Hn.out;omega) hfn;have hwv:=Cd.Znk f k
      obtain ⟨d,hd⟩:∃ d:Nat,n+1 - L.toNat=d:=⟨_,rfl⟩
      have hNL:N1 - L=(d:Int):=by have:=HN1.out;have:=HX.out.1;omega
      have hXd:X*2 ^ d=Cd.wds f k:=by rw [hw,<-HX.out.2,hd]
      have hbt:=fun w=>ZeN (n+1) (Cd.wds f k) w hwv.1 hwv.2 (by have:=Hn.out;omega)
      rw [<-HN1.out] at hbt;have hcw:Cd.wb (Cd.wds f k) (n+1)=Cd.cw f k:=by rw [Cd.cw,hfn];rfl
      rw [hcw] at hbt;have R4:=fun wx (h:StAt wx g3 (Cd.oS f n k))=>(h.set k (Cd.str (Cd.cw f k))).congr (fun i _=>Cd.ZtH f n k hfn i)
      have HW:Hid ((n+1:Nat)<=((n+1:Nat):Int)/\(Cd.wds f k+1)*2 ^ (n+1 - (n+1))=(Cd.wI f ((n+1:Nat):Int) ((Cd.wO f n).1*2,(Cd.wO f n).2) (k+1)).1):=by
       refine ⟨by omega,?_⟩;rw [Cd.wI,if_pos hfn,Nat.sub_self,Int.pow_zero,Int.mul_one,hw]
      generalize Cd.str (Cd.cw f k)=sk at *;generalize f k=z at *;clear hfn hw hcw;have hLN:L<=N1:=by omega
      have hd15:d<=15:=by have:=HN1.out;have:=Hn.out;omega
      clear hd;generalize Cd.wds f k=wk at *;go_wp2_with fail
      refine (hbt _).mono ?_;rintro e w4 ⟨rfl,G4⟩;have T1:=R1.below G4;have T2:=R2.below G4;have T3:=R3.below G4;have B4:=bch HB G4 (nl _);have hc3:=T3.cell k hlt2;have hf3:=T3.frozen k;have U3:=R4 _ T3;have U1:=T1.setFar (q:=g3) (by have:=hq1.out;omega) k (.string sk);have U2:=T2.setFar (q:=g3) (by have:=hq1.out;omega) k (.string sk);have B5:=B4.setCell (p:=⟨g3,k,none⟩) (by have:=hq1.out;show _<=g3;omega) (.string sk);clear R1 R2 R3 HB G4 T1 T2 T3 B4 R4 hbt hx;go_wp2_with fail
      go_roundw
      case rel=>exact ⟨k+1,wk+1,N1,by omega,by go_num,rfl,rfl,by omega,by omega,by rw [HN1.out];exact ⟨HW.out.1,by rw [Int.toNat_natCast];exact HW.out.2⟩,U1,U2,U3,B5⟩
      case measure=>simp [intOf];omega
     ·have d1:(f k == N1)=false:=by simpa using hx
      have HS:Hid (¬ f k=((n+1:Nat):Int)):=fun h=>hx (by rw [h];exact HN1.out.symm)
      have HW:Hid (L<=((n+1:Nat):Int)/\X*2 ^ (n+1 - L.toNat)=(Cd.wI f ((n+1:Nat):Int) ((Cd.wO f n).1*2,(Cd.wO f n).2) (k+1)).1):=by
       refine ⟨HX.out.1,?_⟩;rw [Cd.wI,if_neg HS.out];exact HX.out.2
      have R4:=R3.congr (h':=Cd.oS f n (k+1)) (fun i _=>Cd.ZsC f n k HS.out i);generalize f k=z at *;clear hx HS;go_wp2_with fail
      go_roundw
      case rel=>exact ⟨k+1,X,L,by omega,by go_num,rfl,rfl,hX,hL,HW,R1,R2,R4,HB⟩
      case measure=>simp [intOf];omega
    ·obtain rfl:k=16:=by omega
     have R4:=R3.congr (h':=Cd.oS f (n+1) 0) (fun i hi=>Cd.Ztx f n i hi);have HW:Hid (L<=((n+1:Nat):Int)/\X*2 ^ (n+1 - L.toNat)=(Cd.wO f (n+1)).1):=HX.out;have HNn:Hid (N1+1=(n+1+1:Nat)):=by have:=HN1.out;show _=_;omega
     go_wp2_with fail
     go_roundw
     case rel=>exact ⟨n+1,N1+1,X,L,by have:=Hn.out;omega,by go_num,HNn,rfl,rfl,hX,hL,HW,R1,R2,R4,HB⟩
     case measure=>simp [intOf];omega
  ·obtain rfl:n=15:=by omega
   obtain rfl:N1=16:=by have:=HN1.out;omega
   have R4:StAt wr g3 hS:=R3.congr (fun i hi=>by rw [Cd.Zuo f HR.out i hi,<-HS.out]);have hi1:=Zdj hS;clear R3;go_wp2_with (first | refine wpList_load_row rfl 160 _ rfl g3 rfl 160 (arrS hS) (0,0) _ R4.2 Tryz.underlying160 rfl hi1 ?_ | refine wpList_store_row rfl 160 _ _ rfl g2 (arrS hS) rfl rfl 160 _ R2.2 hi1 (by rw [Zbg,Zbg]) (ZfL _) ?_)
   have U2:=R2.setRow hS;exact bodyPost_ret (v:=.agg (arrS hS)) (results_cell_row Tryz.results141 _ _ g2 160 _ (0,0) _ rfl U2.2 Tryz.underlying160 rfl hi1) rfl ⟨rfl,Zq HB (by have:=hq1.out;omega) _⟩
namespace Cd
theorem Zum (bs:List Bool) (k:Nat) (h:k<(str bs).size):((str bs)[k]).toNat=48+bq bs k:=by
 have hl:k<bs.length:=by rw [Zab] at h;exact h
 have e:(str bs)[k]=chr (bs[k]):=by
  show (bs.map chr).toArray[k]'(by simpa using hl)=_;simp
 rw [e,bq,List.getD_eq_getElem?_getD,List.getElem?_eq_getElem hl];show _=48+bv bs[k]
 cases bs[k] <;> rfl
theorem Zur (bs:List Bool) (p i:Nat):bq (bs++List.replicate p false) i=bq bs i:=by
 by_cases h:i<bs.length
 ·exact ZiO h
 ·rw [ZaZ bs (by omega)]
  obtain ⟨j,rfl⟩:∃ j,i=bs.length+j:=⟨i - bs.length,by omega⟩
  rw [Zgy,bq,List.getD_eq_getElem?_getD];by_cases h2:j<p
  ·rw [List.getElem?_replicate,if_pos h2];rfl
  ·rw [List.getElem?_replicate,if_neg h2];rfl
def vb (bs:List Bool) (a:Nat):Nat->Nat
 | 0=>0
 | r+1=>2*vb bs a r+bq bs (a+r)
theorem Zvn (bs:List Bool) (a:Nat):∀ r,vb bs a r<2 ^ r:=by
 intro r
 induction r with
 | zero=>simp [vb]
 | succ r ih=>have:=ZaI bs (a+r);rw [vb,Nat.pow_succ];omega
theorem Zvg (bs:List Bool) (a:Nat) {r:Nat} (h:r<=8):vb bs a r<=255:=by
 have h1:=Zvn bs a r;have h2:2 ^ r<=2 ^ 8:=Nat.pow_le_pow_right (by omega) h;omega
theorem ZuE (bs:List Bool) (j:Nat):vb bs (8*j) 8=byt bs j:=by
 simp only [vb,byt,Nat.add_zero];omega
theorem Zte (bs:List Bool) {j:Nat} (h:j<(bs.length+7) / 8):(pk bs).take (j+1)=(pk bs).take j++[UInt8.ofNat (byt bs j)]:=by
 rw [List.take_add_one,Zls bs h];rfl
end Cd
theorem Zhy (f:Nat->Int) (s:ByteArray) (w:World) (h0:Cd.chk f=0) (hs:s.size<=1024) :
 Calls Tryz.prog 143 #[.agg (arr f),.string s] w fun e w'=>e=.returned (.tuple #[.string (Cd.wrt f s).1,.int .i64 (Cd.wrt f s).2])/\Below w.heap.size w w':=by
 have hck:=fun w=>Zas f w
 rw [h0] at hck;have hR:Hid (Cd.InR f 15 16):=(Cd.Zd h0).1;have hwd:=fun w=>ZdA f w hR.out
 obtain ⟨hS,hSe⟩:∃ h,(fun i=>Cd.str (Cd.cw f i))=h:=⟨_,rfl⟩
 rw [hSe] at hwd;have HS:Hid ((fun i=>Cd.str (Cd.cw f i))=hS):=hSe;clear hSe;have hin:=Zc f;have hinw:=Zdj hS;have h0':Hid (Cd.chk f=0):=h0;have hs':(s.size:Int)<=1024:=by omega
 have ds:decide (1024<(s.size:Int))=false:=by simp;omega
 have R1:=RowAt.new w f;have HB:Below w.heap.size w (w.alloc (.cells (arr f) 127)):=(bR _ _).alloc (nl _) _
 obtain ⟨r1,r2,hr⟩:∃ r1 r2,Cd.wrt f s=(r1,r2):=⟨_,_,rfl⟩
 rw [hr];have Hr:Hid (Cd.wrt f s=(r1,r2)):=hr;clear hr h0;go_enter Tryz.func143,Tryz.ntmps143
 go_wp2_with (refine wpList_load_row rfl 127 _ rfl w.heap.size rfl 127 (arr f) (0,0) _ R1.2 Tryz.underlying127 rfl hin ?_)
 refine (hck _).mono ?_;rintro e w1 ⟨rfl,G1⟩;have S1:=R1.below G1;have B1:=bch HB G1 (nl _);clear R1 HB G1 hck;go_wp2_with (refine wpList_load_row rfl 127 _ rfl w.heap.size rfl 127 (arr f) (0,0) _ S1.2 Tryz.underlying127 rfl hin ?_)
 refine (hwd _).mono ?_;rintro e w2 ⟨rfl,G2⟩;have T1:=S1.below G2;have B2:=bch B1 G2 (nl _);clear S1 B1 G2 hwd;go_wp2_with (refine wpList_store_row rfl 160 _ _ rfl w2.heap.size (arrS hS) rfl rfl 160 _ (heap_alloc_last w2 _) hinw rfl (ZfL _) ?_;rw [World.setRow_alloc_new])
 have T7:=StAt.new w2 hS;have T2:=T1.alloc (.cells (arrS hS) 160);have B3:Below w.heap.size w (w2.alloc (.cells (arrS hS) 160)):=B2.alloc (Nat.le_of_lt T1.1) _;clear T1 B2;generalize w2.alloc (.cells (arrS hS) 160)=w3 at *;generalize w2.heap.size=g7 at *;go_loopw [8,9] (fun b i wr=>∃ (k:Nat) (bs:List Bool),k<=s.size/\i=.int .i64 k/\b=.string (Cd.str bs)/\Hid (Cd.wrK f s k=some bs)/\RowAt wr w.heap.size f/\StAt wr g7 hS/\Below w.heap.size w wr) (fun _ i _=>s.size - (intOf i).toNat)
 case atStart=>exact ⟨0,[],by omega,rfl,rfl,rfl,T2,T7,B3⟩
 case round =>
  clear T2 T7 B3;obtain ⟨k,bs,hk,rfl,rfl,hW,T2,T7,B3⟩:=hrel;have Hlen:Hid (bs.length<=30*k):=Cd.Zdw hR.out k bs hW.out;by_cases hlt:k<s.size
  ·have hk1:decide ((k:Int)<(s.size:Int))=true:=by simp;omega
   have hk2:decide (k<s.size)=true:=by simp;omega
   obtain ⟨x,hx⟩:∃ x:Int,(s[k].toNat:Int)=x:=⟨_,rfl⟩
   have hA:Cd.at8 s k=s[k].toNat:=by unfold Cd.at8;rw [Nm.ZN s k hlt];rfl
   have hA2:=Cd.ZaE s k;have hx0:0<=x:=by omega
   have hx1:x<=255:=by omega
   obtain ⟨H,hH⟩:∃ H,Cd.at8 s k / 16=H:=⟨_,rfl⟩
   obtain ⟨L,hL⟩:∃ L,Cd.at8 s k % 16=L:=⟨_,rfl⟩
   have e1:x / 16=(H:Int):=by omega
   have e2:x % 16=(L:Int):=by omega
   have e3:x.tdiv 16=(H:Int):=by rw [Int.tdiv_eq_ediv_of_nonneg hx0];exact e1
   have e4:x.tmod 16=(L:Int):=by rw [Int.tmod_eq_emod_of_nonneg hx0];exact e2
   have hH1:H<16:=by omega
   have hL1:L<16:=by omega
   have hH2:(H:Int)<16:=by omega
   have hL2:(L:Int)<16:=by omega
   have HN:Hid (¬ (f H=0\/f L=0)->Cd.wrK f s (k+1)=some (bs++Cd.cw f H++Cd.cw f L)):=fun h=>by have:=Cd.ZfA hW.out (by rw [hH,hL];exact h);rw [hH,hL] at this;exact this
   have HSt:Hid (f H=0\/f L=0->r1=⟨#[]⟩/\r2=5):=fun h=>by
    have h9:Cd.wrt f s=(⟨#[]⟩,5):=by
     rw [Cd.wrt,if_neg (fun h=>h h0'.out),if_neg (by omega),Cd.Zky hlt hW.out (by rw [hH,hL];exact h)]
    have h8:=Hr.out.symm.trans h9;simpa using h8
   clear hA hA2 hH hL e1 e2;have c1:=T2.cell H hH1;have c2:=T2.cell L hL1;by_cases hz:f H=0
   ·obtain ⟨rfl,rfl⟩:=HSt.out (.inl hz);rw [hz] at c1;clear hz c2;go_wp2_with fail
    go_ret2
    exact ⟨rfl,B3⟩
   ·have d1:(f H == 0)=false:=by simpa using hz
    by_cases hy:f L=0
    ·obtain ⟨rfl,rfl⟩:=HSt.out (.inr hy);rw [hy] at c2;clear hz hy;go_wp2_with fail
     go_ret2
     exact ⟨rfl,B3⟩
    ·have d2:(f L == 0)=false:=by simpa using hy
     have HNN:Hid (Cd.wrK f s (k+1)=some (bs++Cd.cw f H++Cd.cw f L)):=HN.out (fun h=>h.elim hz hy);have c3:wr.cell? ⟨g7,H,none⟩=some (.string (Cd.str (Cd.cw f H))):=by rw [T7.cell H hH1,<-HS.out]
     have c4:wr.cell? ⟨g7,L,none⟩=some (.string (Cd.str (Cd.cw f L))):=by rw [T7.cell L hL1,<-HS.out]
     have sz1:(Cd.str bs).size<=30720:=by rw [Cd.Zab];have:=Hlen.out;omega
     have sz2:(Cd.str (Cd.cw f H)).size<=15:=by rw [Cd.Zab];exact Cd.Zha hR.out hH1
     have sz3:(Cd.str (Cd.cw f L)).size<=15:=by rw [Cd.Zab];exact Cd.Zha hR.out hL1
     have HE:Hid (Cd.str bs++Cd.str (Cd.cw f H)++Cd.str (Cd.cw f L)=Cd.str (bs++Cd.cw f H++Cd.cw f L)):=by show _=_;rw [Cd.ZeZ,Cd.ZeZ]
     have sb1:¬ 9223372036854775807<(Cd.str bs).size+(Cd.str (Cd.cw f H)).size:=by omega
     have sb2:¬ 9223372036854775807<(Cd.str bs).size+(Cd.str (Cd.cw f H)).size+(Cd.str (Cd.cw f L)).size:=by omega
     generalize Cd.str (Cd.cw f H)=sH at *;generalize Cd.str (Cd.cw f L)=sL at *;generalize Cd.str bs=sB at *;clear hz hy HSt HN;go_wp2_with fail
     go_quiet (fail)
     go_wp2_with fail
     exact ⟨⟨k+1,_,by omega,by go_num,by rw [HE.out],HNN,T2.below (below_drewN (Below.refl _ _) _),T7.below (below_drewN (Below.refl _ _) _),below_drewN B3 _⟩,by simp [intOf];omega⟩
  ·obtain rfl:k=s.size:=by omega
   have h9:Cd.wrt f s=(⟨(Cd.pk bs).toArray⟩,0):=by
    rw [Cd.wrt,if_neg (fun h=>h h0'.out),if_neg (by omega),hW.out]
   have h8:=Hr.out.symm.trans h9;simp only [Prod.mk.injEq] at h8;obtain ⟨rfl,rfl⟩:=h8;have hbl:bs.length<=30720:=by have:=Hlen.out;omega
   clear h9 T2 T7 hW Hlen hin hinw;have HBL:Hid (bs.length<=30720):=hbl;have hst:Cd.str bs=Cd.str (bs++List.replicate 0 false):=by simp
   rw [hst];clear hst;go_wp2_with fail
   go_loopg [8] ((8 - bs.length % 8) % 8) (fun n b wx=>∃ p:Nat,b=.string (Cd.str (bs++List.replicate p false))/\Hid (p+n=(8 - bs.length % 8) % 8)/\wr=wx)
   case atStart=>exact ⟨0,rfl,by show _=_;omega,rfl⟩
   case round =>
    obtain ⟨p,rfl,Hp,rfl⟩:=hrel;have Hsz:Hid ((Cd.str (bs++List.replicate p false)).size=bs.length+p):=by show _=_;rw [Cd.Zab];simp
    have HE:Hid (Cd.str (bs++List.replicate p false)++⟨#[48]⟩=Cd.str (bs++List.replicate (p+1) false)):=by
     show _=_;have:(⟨#[48]⟩:ByteArray)=Cd.str [false]:=rfl;rw [this,Cd.ZeZ,List.append_assoc,List.replicate_succ']
    have hsz:(Cd.str (bs++List.replicate p false)).size<=30730:=by have:=Hsz.out;have:=Hp.out;omega
    by_cases hn:gk=0
    ·have HB8:Hid (∃ m,(Cd.str (bs++List.replicate p false)).size=8*m/\m=(bs.length+7) / 8):=by
      have h1:=Hsz.out;have h2:=Hp.out;show ∃ m,_;exact ⟨(bs.length+7) / 8,by omega,rfl⟩
     have hm:((Cd.str (bs++List.replicate p false)).size:Int).tmod 8=0:=by
      obtain ⟨m,h1,_⟩:=HB8.out;rw [h1,Int.tmod_eq_emod_of_nonneg (by omega)];omega
     have hm2:((Cd.str (bs++List.replicate p false)).size:Int) % 8=0:=by
      obtain ⟨m,h1,_⟩:=HB8.out;rw [h1];omega
     have HAt:Hid (∀ q (h:q<(Cd.str (bs++List.replicate p false)).size),((Cd.str (bs++List.replicate p false))[q]).toNat=48+Cd.bq bs q):=fun q h=>by rw [Cd.Zum _ q h,Cd.Zur]
     generalize Cd.str (bs++List.replicate p false)=sP at *;clear HE Hp;obtain ⟨m,Hm1,Hm2⟩:∃ m,Hid (sP.size=8*m)/\Hid (m=(bs.length+7) / 8):=by obtain ⟨m,h1,h2⟩:=HB8.out;exact ⟨m,h1,h2⟩
     have hmb:m<=4000:=by have:=Hm2.out;have:=HBL.out;omega
     clear HB8 Hsz hn;go_wp2_with fail
     go_loopw [10,11] (fun o i wx=>∃ (j:Nat) (I:Int),j<=m/\i=.int .i64 I/\Hid (I=8*(j:Int))/\0<=I/\I<=32000/\o=.string ⟨((Cd.pk bs).take j).toArray⟩/\Below w.heap.size w wx) (fun _ i _=>40000 - (intOf i).toNat)
     case atStart=>exact ⟨0,0,by omega,rfl,rfl,by omega,by omega,by simp,B3⟩
     case round =>
      clear B3;obtain ⟨j,I,hj,rfl,HI,hI0,hI1,rfl,B3⟩:=hrel;by_cases hjm:j<m
      ·have dI:decide (I<(sP.size:Int))=true:=by have:=HI.out;have:=Hm1.out;simp;omega
       have Hj8:Hid (8*j+8<=sP.size):=by have:=Hm1.out;show _<=_;omega
       have HI8:Hid (I=((8*j:Nat):Int)):=by have:=HI.out;show _=_;omega
       go_wp2_with fail
       go_loop [12,13] (fun a b=>∃ (r q:Nat),r<=8/\Hid (q=8*j+r)/\q<=33000/\b=.int .i64 (q:Nat)/\a=.int .i64 (Cd.vb bs (8*j) r:Nat)) (fun _ b=>40000 - (intOf b).toNat)
       case atStart=>exact ⟨0,8*j,by omega,rfl,by omega,by rw [HI8.out],rfl⟩
       case round =>
        obtain ⟨r,q,hr,Hq,hqb,rfl,rfl⟩:=hrel;have hv:=Cd.Zvg bs (8*j) hr;by_cases hr8:r<8
        ·have dq:decide ((q:Int)<I+8)=true:=by have:=Hq.out;have:=HI8.out;simp;omega
         have hqs:q<sP.size:=by have:=Hq.out;have:=Hj8.out;omega
         have hqs2:(q:Int)<(sP.size:Int):=by omega
         obtain ⟨y,hy⟩:∃ y:Int,(sP[q].toNat:Int)=y:=⟨_,rfl⟩
         have hyb:y=48+(Cd.bq bs q:Nat):=by rw [<-hy,HAt.out q hqs];omega
         have hbq:=Cd.ZaI bs q;have hy0:48<=y:=by omega
         have hy1:y<=49:=by omega
         have HV:Hid ((Cd.vb bs (8*j) (r+1):Nat)=2*((Cd.vb bs (8*j) r:Nat):Int)+(y - 48)):=by
          show _=_;rw [Cd.vb,hyb,<-Hq.out];omega
         generalize Cd.vb bs (8*j) r=v at *;clear hyb hbq;have Hq1:Hid (q+1=8*j+(r+1)/\q+1<=33000):=by have:=Hq.out;have:=HI8.out;show _/\_;omega
         go_wp2_with fail
         exact ⟨⟨r+1,q+1,by omega,Hq1.out.1,Hq1.out.2,by go_num,by rw [HV.out]⟩,by simp [intOf];omega⟩
        ·obtain rfl:r=8:=by omega
         have dq:decide ((q:Int)<I+8)=false:=by have:=Hq.out;have:=HI8.out;simp;omega
         have HT:Hid (((Cd.pk bs).take (j+1))=(Cd.pk bs).take j++[UInt8.ofNat ((Cd.vb bs (8*j) 8:Nat):Int).toNat]):=by
          show _=_;rw [Cd.Zte bs (by have:=Hm2.out;omega),Cd.ZuE,Int.toNat_natCast]
         have hcv:=Zbh ((Cd.vb bs (8*j) 8:Nat):Int) (by omega) (by omega)
         have hsz2:(⟨((Cd.pk bs).take j).toArray⟩:ByteArray).size<=4000:=by
          show ((Cd.pk bs).take j).toArray.size<=_;simp;omega
         have HE2:Hid ((⟨((Cd.pk bs).take j).toArray⟩:ByteArray)++⟨#[UInt8.ofNat ((Cd.vb bs (8*j) 8:Nat):Int).toNat]⟩=⟨((Cd.pk bs).take (j+1)).toArray⟩):=by
          show _=_;rw [HT.out];exact Nm.ZdM _ _
         generalize Cd.vb bs (8*j) 8=v at *;generalize (⟨((Cd.pk bs).take j).toArray⟩:ByteArray)=o at *;clear HT;have HI2:Hid (I+8=8*((j+1:Nat):Int)/\I+8<=32000):=by have:=HI8.out;show _/\_;omega
         go_wp2_with fail
         exact ⟨⟨j+1,I+8,by omega,rfl,HI2.out.1,by omega,HI2.out.2,by rw [<-HE2.out];rfl,B3.alloc B3.size _⟩,by simp [intOf];omega⟩
      ·obtain rfl:j=m:=by omega
       have dI:decide (I<(sP.size:Int))=false:=by have:=HI.out;have:=Hm1.out;simp;omega
       have hE:(Cd.pk bs).take j=Cd.pk bs:=List.take_of_length_le (by rw [Cd.Zcd];have:=Hm2.out;omega);rw [hE];clear hE;go_wp2_with fail
       go_ret2
       exact ⟨rfl,B3⟩
    ·obtain ⟨n,rfl⟩:∃ x,gk=x+1:=⟨gk - 1,by omega⟩
     obtain ⟨r,Hr8,hr1,hr2⟩:∃ r:Nat,Hid (r=(bs.length+p) % 8)/\r ≠ 0/\r<8:=⟨(bs.length+p) % 8,rfl,by have:=Hp.out;omega,by omega⟩
     have hm:((Cd.str (bs++List.replicate p false)).size:Int).tmod 8=(r:Int):=by rw [Hsz.out,Int.tmod_eq_emod_of_nonneg (by omega),Hr8.out];omega
     have hm2:((Cd.str (bs++List.replicate p false)).size:Int) % 8=(r:Int):=by rw [Hsz.out,Hr8.out];omega
     have dr:((r:Int) != 0)=true:=by simp;omega
     have sb:¬ 9223372036854775807<(Cd.str (bs++List.replicate p false)).size+1:=by omega
     generalize Cd.str (bs++List.replicate p false)=sP at *;clear hr1 hr2 Hsz;go_wp2_with fail
     go_roundg n
     case measure=>omega
     case rel=>exact ⟨p+1,by rw [HE.out],by have:=Hp.out;show _=_;omega,rfl⟩
theorem Zdc (f:Nat->Int) (s:ByteArray) (w:World) (hs0:s.size<=140737488355328) :
 Calls Tryz.prog 143 #[.agg (arr f),.string s] w fun e w'=>e=.returned (.tuple #[.string (Cd.wrt f s).1,.int .i64 (Cd.wrt f s).2])/\Below w.heap.size w w':=by
 by_cases h0:Cd.chk f=0
 ·by_cases hs:s.size<=1024
  ·exact Zhy f s w h0 hs
  ·have h9:Cd.wrt f s=(⟨#[]⟩,2):=by rw [Cd.wrt,if_neg (fun h=>h h0),if_pos (by omega)]
   rw [h9];have hck:=fun w=>Zas f w
   rw [h0] at hck;have hin:=Zc f;have hs':1024<(s.size:Int):=by omega
   have ds:decide (1024<(s.size:Int))=true:=by simp;omega
   have R1:=RowAt.new w f;have HB:Below w.heap.size w (w.alloc (.cells (arr f) 127)):=(bR _ _).alloc (nl _) _;clear h9 hs h0;go_enter Tryz.func143,Tryz.ntmps143
   go_wp2_with (refine wpList_load_row rfl 127 _ rfl w.heap.size rfl 127 (arr f) (0,0) _ R1.2 Tryz.underlying127 rfl hin ?_)
   refine (hck _).mono ?_;rintro e w1 ⟨rfl,G1⟩;have B1:=bch HB G1 (nl _);clear R1 HB G1 hck;go_wp2_with fail
   go_ret2
   exact ⟨rfl,B1⟩
 ·have h9:Cd.wrt f s=(⟨#[]⟩,Cd.chk f):=by rw [Cd.wrt,if_pos h0]
  rw [h9];have hck:=fun w=>Zas f w
  have hin:=Zc f;have R1:=RowAt.new w f;have HB:Below w.heap.size w (w.alloc (.cells (arr f) 127)):=(Below.refl _ _).alloc (Nat.le_refl _) _;generalize Cd.chk f=E at *;have d0:(E != 0)=true:=by simpa using h0
  clear h9 h0;go_enter Tryz.func143,Tryz.ntmps143
  go_wp2_with (refine wpList_load_row rfl 127 _ rfl w.heap.size rfl 127 (arr f) (0,0) _ R1.2 Tryz.underlying127 rfl hin ?_)
  refine (hck _).mono ?_;rintro e w1 ⟨rfl,G1⟩;have B1:=bch HB G1 (nl _);clear R1 HB G1 hck;go_wp2_with fail
  go_ret2
  exact ⟨rfl,B1⟩
end Go.Proofs.YtbjbjbpgmojcbabGreat
