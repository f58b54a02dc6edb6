/- A part of the proof: what it leans on. -/
import Derived.Deep.DeepCutAuto
import Derived.Test.YtbjbjbpgmojcbacGreatLk10
set_option maxRecDepth 4000
set_option maxHeartbeats 1000000
namespace Go.Proofs.YtbjbjbpgmojcbacGreat
open Go.RowKit
theorem Zkb {gr:Nat} {f:Nat->Int} {b:ByteArray} {a a1:Nat} {x:Int} (hb:b.size<=140737488355328) (ha:a<=8*b.size) (h:Cd.s15 f b a=(x,a1)) (w:World) (hB:RdAt w gr f (Cd.wds f) b a) :
 Calls Tryz.prog 174 #[.pointer (some ⟨gr,0,none⟩)] w fun e w'=>e=.returned (.int .i64 x)/\Only gr w w'/\RdAt w' gr f (Cd.wds f) b a1:=by
 have h9:=ZoW gr f (Cd.wds f) b a w hB hb ha;have h8:Cd.sgn f (Cd.wds f) b 15 1 0 a=(x,a1):=h;rw [h8] at h9;exact h9
theorem ZsS {f:Nat->Int} {b:ByteArray} {a a1:Nat} {x:Int} (ha:a<=8*b.size) (h:Cd.s15 f b a=(x,a1)):a1<=8*b.size/\-1<=x/\x<16:=by
 have h1:=Cd.Zta (f:=f) (ws:=Cd.wds f) (b:=b) 15 1 0 a ha;have h8:Cd.sgn f (Cd.wds f) b 15 1 0 a=(x,a1):=h;rw [h8] at h1;refine ⟨h1,?_⟩;by_cases hx:x=-1
 ·omega
 ·obtain ⟨s,d,e,hs,_⟩:=Cd.Zdz (f:=f) (ws:=Cd.wds f) (b:=b) 15 1 0 a (nl _) (by show (Cd.sgn f (Cd.wds f) b 15 1 0 a).1 ≠ -1;rw [h8];exact hx);have h7:((s:Int),a+d)=(x,a1):=e.symm.trans h8;simp only [Prod.mk.injEq] at h7;omega
theorem RdAt.grown {w w1:World} {gr:Nat} {f ws:Nat->Int} {b:ByteArray} {a:Nat} {v:Value} {o:Obj} (h:RdAt w gr f ws b a) (hne:some gr ≠ v.ownBlock) (hg:(w.alloc o).grownBy w1 v.ownBlock):RdAt w1 gr f ws b a:=by
 have hblk:w1.heap[gr]?=w.heap[gr]?:=by
  rw [hg.block gr (by have:=h.1;simp;omega) hne];exact ((bR w.heap.size w).alloc (nl _) o).block gr h.1
 have h2:=hblk.trans h.2;exact ⟨(aG.1 h2).1,h2⟩
theorem Znk:(Tryz.prog.info? 206).map (·.size)=some 34:=by kernel_rfl
theorem ZbM (f ws:Nat->Int) (b:ByteArray) (a:Nat):(rdc f ws b a).size=34:=by simp [rdc,Zh]
theorem Zed {P:Program} {ops:Array Oper} {o:Oper} {a:Act} {w:World} {K:Act->World->Prop} {Q:Exit->Act->World->Prop} {E:Prop} (hg:o.guard=none) (h:Oper.wp P o a w K Q) :
 if Region.wanted o (yielded ops a.tmps)=true then Oper.wp P o a w K Q else E:=by
 have hw:Region.wanted o (yielded ops a.tmps)=true:=by simp [Region.wanted,hg]
 rw [if_pos hw];exact h
theorem Zfb {P:Program} {md:Region.Mode} {ops:Array Oper} {Q:Exit->Act->World->Prop} {S:World->Prop} {i:Nat} {o:Oper} {fuel:Nat} {listed:Array Bool} {a:Act} {w:World}
 (hr:Region.ready md ops listed=[i]) (hr2:Region.ready md ops (listed.setIfInBounds i true)=[]) (ho:ops[i]?=some o) (hg:o.guard=none)
 (h:∀ K:Act->World->Prop,(∀ a w,S w->Q .normal a w->K a w)->Oper.wp P o a w K Q):wpAnyH P md ops Q S (fuel+1) listed a w :=
 wpAnyH_all hr (by simp) (fun j hj=>by
  obtain rfl:j=i:=by simpa using hj
  exact wpOp_step ho (fun K hK=>Zed hg (h K (fun a w hs hq=>hK a w ⟨hs,wpAnyH_done hr2 hq _⟩))))
theorem ZeU {P:Program} {md:Region.Mode} {ops:Array Oper} {Q:Exit->Act->World->Prop} {S:World->Prop} {i:Nat} {o:Oper} {fuel:Nat} {listed:Array Bool} {a:Act} {w:World}
 (hr:Region.ready md ops listed=[i]) (hr2:Region.ready md ops (listed.setIfInBounds i true)=[]) (ho:ops[i]?=some o) (hg:o.guard=none) (hd:o.dst=none)
 (ty:TypeId) (x y:Operand) (hop:o.op=.store ty x y) (g:Nat) (cells:Array Value) (hx:a.eval x=.pointer (some ⟨g,0,none⟩)) (hy:a.eval y=.agg cells)
 (t:TypeId) (old:Array Value) (hgr:w.heap[g]?=some (.cells old t (0,0))) (hi:(P.info? ty).map (·.size)=some cells.size)
 (hold:old.size=cells.size) (h1:cells.all (·.oneCell')=true) (hS:S (w.setRow g cells)) (h:Q .normal (a.put none undef) (w.setRow g cells)):wpAnyH P md ops Q S (fuel+1) listed a w :=
 Zfb hr hr2 ho hg (fun K hK=>wp_store_row ty x y hop g cells hx hy t old hgr hi hold h1 (hK _ _ hS (by rw [hd];exact h)))
theorem Zdu {P:Program} {ops:Array Oper} {S:World->Prop} {op:Oper} {a:Act} (hw:Region.wanted op (yielded ops a.tmps)=true) (t:TypeId) (parts:Array (Nat × Operand)) (ho:op.op=.build t parts) (cells:Array Value)
 (hb:P.built t (parts.map fun (i,x)=>(i,a.eval x)).toList=some cells):YieldsIf P ops S op (.agg cells) a :=
 .inl ⟨hw,fun w _=>by
  unfold execOp
  simp only [ho,Sem.run_bind,run_build w t _ cells hb,Result.andThen_ok,Sem.run_pure]⟩
theorem Znp (f ws:Nat->Int) (b:ByteArray) (a:Nat):(rdc f ws b a).all (·.oneCell')=true:=by
 unfold rdc;rw [Array.all_append,Array.all_append,ZV,ZV];simp [Value.oneCell']
def rd0:Array Value:=rdc (fun _=>0) (fun _=>0) ⟨#[]⟩ 0
theorem ZnL:rd0=#[.int .i64 0,.int .i64 0,.int .i64 0,.int .i64 0,.int .i64 0,.int .i64 0,.int .i64 0,.int .i64 0,.int .i64 0,.int .i64 0,.int .i64 0,.int .i64 0,.int .i64 0,.int .i64 0,.int .i64 0,.int .i64 0,.int .i64 0,.int .i64 0,.int .i64 0,.int .i64 0,.int .i64 0,.int .i64 0,.int .i64 0,.int .i64 0,.int .i64 0,.int .i64 0,.int .i64 0,.int .i64 0,.int .i64 0,.int .i64 0,.int .i64 0,.int .i64 0,.string ⟨#[]⟩,.int .i64 0]:=by kernel_rfl
theorem RdAt.laid {w:World} {gr:Nat} {C:Array Value} (h:w.heap[gr]?=some (.cells C 206 (0,0))) (f ws:Nat->Int) (b:ByteArray) (a:Nat):RdAt (w.setRow gr (rdc f ws b a)) gr f ws b a:=by
 have hlt:=(aG.1 h).1;refine ⟨by simpa [World.setRow] using hlt,?_⟩;show (w.heap.modify gr _)[gr]?=_;rw [Array.getElem?_modify,if_pos rfl,h];rfl
theorem Zhl {w:World} {g:Nat} {f:Nat->Int} (h:RowAt w g f):w.rangeAt g 0 (arr f).toList:=by
 have:=World.rangeAt_of_block h.2 0 16
 rwa [show (arr f).extract 0 (0+16)=arr f by rw [Nat.zero_add,<-Zh f];exact Array.extract_size] at this
theorem ZhY (f:Nat->Int) (b:ByteArray) (n:Int) (w:World) (h0:Cd.chk f=0) (hn0:0<=n) (hn1:n<=1024) (hb:b.size<=140737488355328) :
 Calls Tryz.prog 152 #[.agg (arr f),.string b,.int .i64 n] w fun e w'=>e=.returned (.tuple #[.string (Cd.rd f b n).1,.int .i64 (Cd.rd f b n).2])/\Below w.heap.size w w':=by
 have hck:=fun w=>ZZ f w
 rw [h0] at hck;have hwd:=fun w=>Zcz f w
 have hin:=Zb f;have R1:=RowAt.new w f;have HB:Below w.heap.size w (w.alloc (.cells (arr f) 127)):=(bR _ _).alloc (nl _) _;have d1:decide (n<0)=false:=by simp;omega
 have d2:decide (1024<n)=false:=by simp;omega
 obtain ⟨r1,r2,hr⟩:∃ r1 r2,Cd.rd f b n=(r1,r2):=⟨_,_,rfl⟩
 rw [hr];have Hr:Hid (Cd.rd f b n=(r1,r2)):=hr;have H0:Hid (Cd.chk f=0):=h0;clear hr h0;go_enter Tryz.func152,Tryz.ntmps152
 go_wp2_with (refine wpList_load_row rfl 127 _ rfl w.heap.size rfl 127 (arr f) (0,0) _ R1.2 U127 rfl hin ?_)
 refine (hck _).mono ?_;rintro e w1 ⟨rfl,G1⟩;have S1:=R1.below G1;have B1:=bch HB G1 (nl _);clear R1 HB G1 hck;go_wp2_with fail
 go_cut [9] (fun p wx=>∃ gr,p=.pointer (some ⟨gr,0,none⟩)/\RdAt wx gr f (Cd.wds f) b 0/\w.heap.size<=gr/\Below w.heap.size w wx)
 case first =>
  refine wp_region_held_drew (S:=fun w'=>RowAt w' w.heap.size f) (by kernel_rfl) S1 (fun hS=>?_);refine wK (i:=0) (fuel:=6) rfl (by kernel_rfl) (by kernel_rfl) (by kernel_rfl) (fun _ _ _ h=>h) (yieldsIf_load_mid (by rfl) 127 _ rfl w.heap.size 0 rfl (arr f).toList _ (fun w' h'=>Zhl h') U127 rfl (by rw [Array.length_toList];exact hin)) hS ?_;refine wK (i:=1) (fuel:=5) rfl (by kernel_rfl) (by kernel_rfl) (by kernel_rfl) (fun _ _ _ h=>h) (yieldsIf_load_mid (by rfl) 127 _ rfl w.heap.size 0 rfl (arr f).toList _ (fun w' h'=>Zhl h') U127 rfl (by rw [Array.length_toList];exact hin)) hS ?_;refine wK (i:=3) (fuel:=4) (v:=.string b) rfl (by kernel_rfl) (by kernel_rfl) (by kernel_rfl) (fun _ _ _ h=>h) (Or.inl ⟨by rfl,fun w _=>by go_simp⟩) hS ?_;refine wY (rs:=[2,5]) (fuel:=3) (by kernel_rfl) (by simp) ?_;refine rC rfl (fun K hK=>?_) ?_
  ·go_simp
   refine (hwd _).mono ?_;rintro e w2 ⟨rfl,G2⟩;have T2:=(show RowAt w1.drew w.heap.size f from S1).below G2;have B2:=bch (show Below w.heap.size w w1.drew from B1.drew) G2 (nl _);refine hK.out _ _ T2 (fun hS2=>?_);clear hK;refine wK (i:=4) (fuel:=2) (v:=.agg (rdc f (Cd.wds f) b 0)) rfl (by kernel_rfl) (by kernel_rfl) (by kernel_rfl) (fun _ _ _ h=>h) (Zdu (by rfl) 206 _ rfl _ (by kernel_rfl)) hS2 ?_;refine wY (rs:=[5]) (fuel:=1) (by kernel_rfl) (by simp) ?_;refine rC rfl (fun K hK=>?_) rN;go_simp
   have A1:(w2.alloc (.cells #[.int .i64 0,.int .i64 0,.int .i64 0,.int .i64 0,.int .i64 0,.int .i64 0,.int .i64 0,.int .i64 0,.int .i64 0,.int .i64 0,.int .i64 0,.int .i64 0,.int .i64 0,.int .i64 0,.int .i64 0,.int .i64 0,.int .i64 0,.int .i64 0,.int .i64 0,.int .i64 0,.int .i64 0,.int .i64 0,.int .i64 0,.int .i64 0,.int .i64 0,.int .i64 0,.int .i64 0,.int .i64 0,.int .i64 0,.int .i64 0,.int .i64 0,.int .i64 0,.string ⟨#[]⟩,.int .i64 0] 206)).heap[w2.heap.size]?=some (.cells rd0 206):=by rw [ZnL];exact heap_alloc_last w2 _
   have T3:=T2.alloc (.cells #[.int .i64 0,.int .i64 0,.int .i64 0,.int .i64 0,.int .i64 0,.int .i64 0,.int .i64 0,.int .i64 0,.int .i64 0,.int .i64 0,.int .i64 0,.int .i64 0,.int .i64 0,.int .i64 0,.int .i64 0,.int .i64 0,.int .i64 0,.int .i64 0,.int .i64 0,.int .i64 0,.int .i64 0,.int .i64 0,.int .i64 0,.int .i64 0,.int .i64 0,.int .i64 0,.int .i64 0,.int .i64 0,.int .i64 0,.int .i64 0,.int .i64 0,.int .i64 0,.string ⟨#[]⟩,.int .i64 0] 206);have B3:=B2.alloc (nL T2.1) (.cells #[.int .i64 0,.int .i64 0,.int .i64 0,.int .i64 0,.int .i64 0,.int .i64 0,.int .i64 0,.int .i64 0,.int .i64 0,.int .i64 0,.int .i64 0,.int .i64 0,.int .i64 0,.int .i64 0,.int .i64 0,.int .i64 0,.int .i64 0,.int .i64 0,.int .i64 0,.int .i64 0,.int .i64 0,.int .i64 0,.int .i64 0,.int .i64 0,.int .i64 0,.int .i64 0,.int .i64 0,.int .i64 0,.int .i64 0,.int .i64 0,.int .i64 0,.int .i64 0,.string ⟨#[]⟩,.int .i64 0] 206);have hlt:=T2.1;generalize w2.alloc (.cells #[.int .i64 0,.int .i64 0,.int .i64 0,.int .i64 0,.int .i64 0,.int .i64 0,.int .i64 0,.int .i64 0,.int .i64 0,.int .i64 0,.int .i64 0,.int .i64 0,.int .i64 0,.int .i64 0,.int .i64 0,.int .i64 0,.int .i64 0,.int .i64 0,.int .i64 0,.int .i64 0,.int .i64 0,.int .i64 0,.int .i64 0,.int .i64 0,.int .i64 0,.int .i64 0,.int .i64 0,.int .i64 0,.int .i64 0,.int .i64 0,.int .i64 0,.int .i64 0,.string ⟨#[]⟩,.int .i64 0] 206)=w3 at *;generalize w2.heap.size=gr at *;clear T2 B2 G2;have hz0:rd0.size=34:=ZbM _ _ _ _;generalize rd0=z0 at *;refine hK.out _ _ T3 (fun hS3=>?_);clear hK;refine ZeU (i:=6) (fuel:=0) (by kernel_rfl) (by kernel_rfl) rfl rfl rfl 206 (Operand.tmp 9) (Operand.tmp 28) rfl gr (rdc f (Cd.wds f) b 0) rfl rfl 206 z0 A1 (by rw [ZbM];exact Znk) (by rw [ZbM];exact hz0) (Znp _ _ _ _) (T3.setRowFar (by omega) _) ?_;go_wp2_with fail
   go_meet
   exact ⟨gr,rfl,RdAt.laid A1 f (Cd.wds f) b 0,nL hlt,Zn B3 (nL hlt) _⟩
  refine rC rfl (fun K hK=>?_) rN;go_simp
  have A1:((w1.alloc (.cells #[.int .i64 0,.int .i64 0,.int .i64 0,.int .i64 0,.int .i64 0,.int .i64 0,.int .i64 0,.int .i64 0,.int .i64 0,.int .i64 0,.int .i64 0,.int .i64 0,.int .i64 0,.int .i64 0,.int .i64 0,.int .i64 0,.int .i64 0,.int .i64 0,.int .i64 0,.int .i64 0,.int .i64 0,.int .i64 0,.int .i64 0,.int .i64 0,.int .i64 0,.int .i64 0,.int .i64 0,.int .i64 0,.int .i64 0,.int .i64 0,.int .i64 0,.int .i64 0,.string ⟨#[]⟩,.int .i64 0] 206)).drew).heap[w1.heap.size]?=some (.cells rd0 206):=by rw [ZnL];exact heap_alloc_last w1 _
  have T3:RowAt ((w1.alloc (.cells #[.int .i64 0,.int .i64 0,.int .i64 0,.int .i64 0,.int .i64 0,.int .i64 0,.int .i64 0,.int .i64 0,.int .i64 0,.int .i64 0,.int .i64 0,.int .i64 0,.int .i64 0,.int .i64 0,.int .i64 0,.int .i64 0,.int .i64 0,.int .i64 0,.int .i64 0,.int .i64 0,.int .i64 0,.int .i64 0,.int .i64 0,.int .i64 0,.int .i64 0,.int .i64 0,.int .i64 0,.int .i64 0,.int .i64 0,.int .i64 0,.int .i64 0,.int .i64 0,.string ⟨#[]⟩,.int .i64 0] 206)).drew) w.heap.size f:=S1.alloc _;have B3:Below w.heap.size w ((w1.alloc (.cells #[.int .i64 0,.int .i64 0,.int .i64 0,.int .i64 0,.int .i64 0,.int .i64 0,.int .i64 0,.int .i64 0,.int .i64 0,.int .i64 0,.int .i64 0,.int .i64 0,.int .i64 0,.int .i64 0,.int .i64 0,.int .i64 0,.int .i64 0,.int .i64 0,.int .i64 0,.int .i64 0,.int .i64 0,.int .i64 0,.int .i64 0,.int .i64 0,.int .i64 0,.int .i64 0,.int .i64 0,.int .i64 0,.int .i64 0,.int .i64 0,.int .i64 0,.int .i64 0,.string ⟨#[]⟩,.int .i64 0] 206)).drew):=(B1.alloc (nL S1.1) (.cells #[.int .i64 0,.int .i64 0,.int .i64 0,.int .i64 0,.int .i64 0,.int .i64 0,.int .i64 0,.int .i64 0,.int .i64 0,.int .i64 0,.int .i64 0,.int .i64 0,.int .i64 0,.int .i64 0,.int .i64 0,.int .i64 0,.int .i64 0,.int .i64 0,.int .i64 0,.int .i64 0,.int .i64 0,.int .i64 0,.int .i64 0,.int .i64 0,.int .i64 0,.int .i64 0,.int .i64 0,.int .i64 0,.int .i64 0,.int .i64 0,.int .i64 0,.int .i64 0,.string ⟨#[]⟩,.int .i64 0] 206)).drew;have hlt:=S1.1;generalize (w1.alloc (.cells #[.int .i64 0,.int .i64 0,.int .i64 0,.int .i64 0,.int .i64 0,.int .i64 0,.int .i64 0,.int .i64 0,.int .i64 0,.int .i64 0,.int .i64 0,.int .i64 0,.int .i64 0,.int .i64 0,.int .i64 0,.int .i64 0,.int .i64 0,.int .i64 0,.int .i64 0,.int .i64 0,.int .i64 0,.int .i64 0,.int .i64 0,.int .i64 0,.int .i64 0,.int .i64 0,.int .i64 0,.int .i64 0,.int .i64 0,.int .i64 0,.int .i64 0,.int .i64 0,.string ⟨#[]⟩,.int .i64 0] 206)).drew=w3 at *;generalize w1.heap.size=gr at *;have hz0:rd0.size=34:=ZbM _ _ _ _;generalize rd0=z0 at *;refine hK.out _ _ T3 (fun hS3=>?_);clear hK;refine wY (rs:=[2]) (fuel:=2) (by kernel_rfl) (by simp) ?_;refine rC rfl (fun K hK=>?_) rN;go_simp
  refine (hwd _).mono ?_;rintro e w4 ⟨rfl,G4⟩;have A4:w4.heap[gr]?=some (.cells z0 206):=by rw [G4.block gr (Array.getElem?_eq_some_iff.1 A1).1];exact A1
  have T4:=T3.below G4;have B4:=bch B3 G4 (nl _);refine hK.out _ _ T4 (fun hS4=>?_);clear hK;refine wK (i:=4) (fuel:=1) (v:=.agg (rdc f (Cd.wds f) b 0)) rfl (by kernel_rfl) (by kernel_rfl) (by kernel_rfl) (fun _ _ _ h=>h) (Zdu (by rfl) 206 _ rfl _ (by kernel_rfl)) hS4 ?_;refine ZeU (i:=6) (fuel:=0) (by kernel_rfl) (by kernel_rfl) rfl rfl rfl 206 (Operand.tmp 9) (Operand.tmp 28) rfl gr (rdc f (Cd.wds f) b 0) rfl rfl 206 z0 A4 (by rw [ZbM];exact Znk) (by rw [ZbM];exact hz0) (Znp _ _ _ _) (T4.setRowFar (by omega) _) ?_;go_wp2_with fail
  go_meet
  exact ⟨gr,rfl,RdAt.laid A4 f (Cd.wds f) b 0,nL hlt,Zn B4 (nL hlt) _⟩
 case rest =>
  obtain ⟨gr,rfl,hB,hgr,B2⟩:=hcut;clear S1 B1 hwd;obtain ⟨i0,hi,hz0,hz1,hz2⟩:=info_parts Zca;go_wp2_with fail
  go_loopw [10,30] (fun v i wr=>∃ (k:Nat) (o:List UInt8) (a:Nat),(k:Int)<=n/\i=.int .i64 k/\Hid (Cd.rdK f b k=some (o,a))/\a<=8*b.size/\o.length<=1024/\Hid (o.length=k)/\RdAt wr gr f (Cd.wds f) b a/\wr.ownsRow (gr+1) 5 1 v o.length (bcs o)/\Below w.heap.size w wr) (fun _ i _=>n.toNat - (intOf i).toNat)
  case atStart=>exact ⟨0,[],0,hn0,rfl,rfl,by omega,by simp,rfl,hB,World.ownsRow_nil _ _ _ _,B2⟩
  case round =>
   clear hB B2;obtain ⟨k,o,a,hk,rfl,hK,ha,hol,Hol,hB,ho,B2⟩:=hrel;by_cases hlt:(k:Int)<n
   ·have hk1:decide ((k:Int)<n)=true:=by simpa using hlt
    obtain ⟨x,a1,h1⟩:∃ x a1,Cd.s15 f b a=(x,a1):=⟨_,_,rfl⟩
    obtain ⟨y,a2,h2⟩:∃ y a2,Cd.s15 f b a1=(y,a2):=⟨_,_,rfl⟩
    obtain ⟨p1,p2,p3⟩:=ZsS ha h1;obtain ⟨q1,q2,q3⟩:=ZsS p1 h2;have HS1:=fun w' h=>Zkb (gr:=gr) hb ha h1 w' h
    have HS2:=fun w' h=>Zkb (gr:=gr) hb p1 h2 w' h
    have H1:Hid (Cd.s15 f b a=(x,a1)):=h1;have H2:Hid (Cd.s15 f b a1=(y,a2)):=h2;clear h1 h2;go_wp2_with fail
    refine (HS1 _ hB).mono ?_;rintro e w4 ⟨rfl,G4,Z4⟩;have O4:=G4.own ho;have B4:=B2.trans (G4.1.mono hgr);clear hB ho B2 G4 HS1;go_wp2_with fail
    refine (HS2 _ Z4).mono ?_;rintro e w5 ⟨rfl,G5,Z5⟩;have O5:=G5.own O4;have B5:=B4.trans (G5.1.mono hgr);clear Z4 O4 B4 G5 HS2;by_cases hx:x=-1\/y=-1
    ·have h9:Cd.rd f b n=(⟨#[]⟩,1):=Cd.ZaS H0.out (by omega) (Cd.Zfw (by omega) hK.out H1.out H2.out hx);have h8:=Hr.out.symm.trans h9;simp only [Prod.mk.injEq] at h8;obtain ⟨rfl,rfl⟩:=h8;clear h9;by_cases hx1:x=-1
     ·subst hx1;clear hx;go_wp2_with fail
      go_ret2
      exact ⟨rfl,B5⟩
     ·have hy1:y=-1:=by omega
      subst hy1;have dx:(x == -1)=false:=by simpa using hx1
      clear hx;go_wp2_with fail
      go_ret2
      exact ⟨rfl,B5⟩
    ·have hx1:¬ x=-1:=fun h=>hx (.inl h)
     have hy1:¬ y=-1:=fun h=>hx (.inr h)
     have dx:(x == -1)=false:=by simpa using hx1
     have dy:(y == -1)=false:=by simpa using hy1
     have HN:Hid (Cd.rdK f b (k+1)=some (o++[UInt8.ofNat (x*16+y).toNat],a2)):=Cd.Zfr hK.out H1.out H2.out hx;have hx0:0<=x:=by omega
     have hy0:0<=y:=by omega
     have hxy:0<=x*16+y/\x*16+y<256:=by omega
     have hm:(x*16+y) % 256=x*16+y:=by omega
     have HB:Hid (bcs (o++[UInt8.ofNat (x*16+y).toNat])=bcs o++[.int .u8 (x*16+y)]):=Zcs o _ hxy.1 hxy.2;have hle:gr+1<=(w5.alloc (.cells #[.int .u8 (x*16+y)] 5)).heap.size:=by have:=Z5.1;simp;omega
     have hkn:k+1<=n.toNat:=by omega
     have HK1:Hid (((k+1:Nat):Int)<=n/\o.length+1<=1024/\o.length+1=k+1):=by have:=Hol.out;show _/\_/\_;omega
     clear hx hx1 hy1 H1 H2 hK p2 p3 q2 q3;go_wp2_with (at_builtin;go_must (refine wpList_append_own _ rfl _ _ 77 rfl (gr+1) 5 i0 (.int .u8 0) 1 1 U77 hi hz0 hz1 hz2 rfl (by decide) _ _ _ rfl (O5.alloc _) ⟨w5.heap.size,0,none⟩ 1 1 [.int .u8 (x*16+y)] rfl rfl (cell_one_new _ _ _) (Zdm _) (ZaJ (by omega)) (by omega) hle ?_;intro v' w6 hown' hgrow _))
     have hne:some gr ≠ Value.ownBlock u10:=fun e=>by have:=(O5.lt gr e.symm).1;omega
     have Z6:RdAt w6 gr f (Cd.wds f) b a2:=by
      refine Z5.grown hne hgrow
     have B6:Below w.heap.size w w6:=(B5.alloc (nt hgr (nL Z5.1)) _).grown hgrow (by have:=Z5.1;simp;omega) (fun j hj=>by have:=(O5.lt j hj).1;omega);refine ⟨⟨k+1,o++[UInt8.ofNat (x*16+y).toNat],a2,HK1.out.1,by go_num,HN,q1,by have:=HK1.out.2.1;simp;omega,by show _=_;have:=HK1.out.2.2;simp;omega,Z6,?_,B6⟩,by simp [intOf];omega⟩;rw [HB.out,List.length_append];exact hown'
   ·obtain hkn:(k:Int)=n:=by omega
    have hend:=ZlY gr f (Cd.wds f) b a wr hB hb ha;have h9:=Cd.Zbl (n:=n) (o:=o) (a:=a) H0.out (by omega) (by rw [<-hkn,Int.toNat_natCast];exact hK.out);have h8:=Hr.out.symm.trans h9;have hk1:decide ((k:Int)<n)=false:=by simpa using hlt
    clear h9;by_cases he:Cd.end_ b a=true
    ·rw [if_pos he] at h8;simp only [Prod.mk.injEq] at h8;obtain ⟨rfl,rfl⟩:=h8;rw [he] at hend;clear hkn he;go_wp2_with fail
     refine hend.mono ?_;rintro e w4 ⟨rfl,G4⟩;have hcv:=ZbQ (l:=o) (Zj ho G4);have B4:=bch B2 G4 (nl _);go_wp2_with fail
     go_ret2
     exact ⟨rfl,B4⟩
    ·rw [if_neg he] at h8;simp only [Prod.mk.injEq] at h8;obtain ⟨rfl,rfl⟩:=h8;have he':Cd.end_ b a=false:=by simpa using he
     rw [he'] at hend;clear hkn he he';go_wp2_with fail
     refine hend.mono ?_;rintro e w4 ⟨rfl,G4⟩;have B4:=bch B2 G4 (nl _);go_wp2_with fail
     go_ret2
     exact ⟨rfl,B4⟩
theorem Zhf (f:Nat->Int) (b:ByteArray) (n:Int) (w:World) (hb:b.size<=140737488355328) :
 Calls Tryz.prog 152 #[.agg (arr f),.string b,.int .i64 n] w fun e w'=>e=.returned (.tuple #[.string (Cd.rd f b n).1,.int .i64 (Cd.rd f b n).2])/\Below w.heap.size w w':=by
 by_cases h0:Cd.chk f=0
 ·by_cases hn:n<0\/1024<n
  ·have h9:Cd.rd f b n=(⟨#[]⟩,3):=by rw [Cd.rd,if_neg (fun h=>h h0),if_pos hn]
   rw [h9];have hck:=fun w=>ZZ f w
   rw [h0] at hck;have hin:=Zb f;have R1:=RowAt.new w f;have HB:Below w.heap.size w (w.alloc (.cells (arr f) 127)):=(bR _ _).alloc (nl _) _;clear h9 h0;by_cases hn0:n<0
   ·have d1:decide (n<0)=true:=by simpa using hn0
    clear hn;go_enter Tryz.func152,Tryz.ntmps152
    go_wp2_with (refine wpList_load_row rfl 127 _ rfl w.heap.size rfl 127 (arr f) (0,0) _ R1.2 U127 rfl hin ?_)
    refine (hck _).mono ?_;rintro e w1 ⟨rfl,G1⟩;have B1:=bch HB G1 (nl _);clear R1 HB G1 hck;go_wp2_with fail
    go_ret2
    exact ⟨rfl,B1⟩
   ·have d1:decide (n<0)=false:=by simpa using hn0
    have hn1:1024<n:=by omega
    have d2:decide (1024<n)=true:=by simpa using hn1
    clear hn;go_enter Tryz.func152,Tryz.ntmps152
    go_wp2_with (refine wpList_load_row rfl 127 _ rfl w.heap.size rfl 127 (arr f) (0,0) _ R1.2 U127 rfl hin ?_)
    refine (hck _).mono ?_;rintro e w1 ⟨rfl,G1⟩;have B1:=bch HB G1 (nl _);clear R1 HB G1 hck;go_wp2_with fail
    go_ret2
    exact ⟨rfl,B1⟩
  ·exact ZhY f b n w h0 (by omega) (by omega) hb
 ·have h9:Cd.rd f b n=(⟨#[]⟩,Cd.chk f):=by rw [Cd.rd,if_pos h0]
  rw [h9];have hck:=fun w=>ZZ f w
  have hin:=Zb f;have R1:=RowAt.new w f;have HB:Below w.heap.size w (w.alloc (.cells (arr f) 127)):=(bR _ _).alloc (nl _) _;generalize Cd.chk f=E at *;have d0:(E != 0)=true:=by simpa using h0
  clear h9 h0;go_enter Tryz.func152,Tryz.ntmps152
  go_wp2_with (refine wpList_load_row rfl 127 _ rfl w.heap.size rfl 127 (arr f) (0,0) _ R1.2 U127 rfl hin ?_)
  refine (hck _).mono ?_;rintro e w1 ⟨rfl,G1⟩;have B1:=bch HB G1 (nl _);clear R1 HB G1 hck;go_wp2_with fail
  go_ret2
  exact ⟨rfl,B1⟩
namespace Bk
def hvK (s:ByteArray):Nat->(Nat->Int)
 | 0=>fun _=>0
 | k+1=>upd (upd (hvK s k) (Cd.at8 s k / 16) (hvK s k (Cd.at8 s k / 16)+1)) (Cd.at8 s k % 16) (upd (hvK s k) (Cd.at8 s k / 16) (hvK s k (Cd.at8 s k / 16)+1) (Cd.at8 s k % 16)+1)
def hv (s:ByteArray):Nat->Int:=hvK s s.size
theorem ZhP (s:ByteArray):∀ k i,0<=hvK s k i/\hvK s k i<=2*k:=by
 intro k
 induction k with
 | zero=>intro i;simp [hvK]
 | succ k ih =>
  intro i;have h1:=ih i;have h2:=ih (Cd.at8 s k / 16);have h3:=ih (Cd.at8 s k % 16);rw [hvK];unfold upd;split
  ·split <;> omega
  ·split <;> omega
theorem ZnQ (s:ByteArray) (h:s.size<=1024):Cd.InR (hv s) 2048 16:=fun i _=>by
 have:=ZhP s s.size i;unfold hv;omega
end Bk
theorem Zks (s:ByteArray) (w:World) (hs:s.size<=1024) :
 Calls Tryz.prog 121 #[.string s] w fun e w'=>e=.returned (.agg (arr (Bk.hv s)))/\Below w.heap.size w w':=by
 obtain ⟨R2,R3⟩:=RowAt.two w (fun _=>0) (fun _=>0);have HB:=Zjv w (.cells (arr fun _=>0) 127) (.cells (arr fun _=>0) 127);rw [<-Zk] at R2 R3 HB;have hs':(s.size:Int)<=1024:=by omega
 obtain ⟨r,hr⟩:∃ r,Bk.hv s=r:=⟨_,rfl⟩
 rw [hr];have Hr:Hid (Bk.hvK s s.size=r):=hr;clear hr;go_enter Tryz.func121,Tryz.ntmps121
 go_wp2_with fail
 rw [Zk] at R2 R3 HB;rw [Zk];generalize (w.alloc (.cells (arr fun _=>0) 127)).alloc (.cells (arr fun _=>0) 127)=w0 at *
 obtain ⟨g1,hg1⟩:∃ g1,g1=w.heap.size:=⟨_,rfl⟩
 have hq:Hid (g1<w.heap.size+1/\w.heap.size=g1):=by show _/\_;omega
 generalize w.heap.size+1=g3 at *;clear hg1;go_loopw [7] (fun i wr=>∃ k:Nat,k<=s.size/\i=.int .i64 k/\RowAt wr w.heap.size (fun _=>0)/\RowAt wr g3 (Bk.hvK s k)/\Below w.heap.size w wr) (fun i _=>s.size - (intOf i).toNat)
 case atStart=>exact ⟨0,by omega,rfl,R2,R3,HB⟩
 case round =>
  clear R2 R3 HB;obtain ⟨k,hk,rfl,R2,R3,HB⟩:=hrel;by_cases hlt:k<s.size
  ·have hk1:decide ((k:Int)<(s.size:Int))=true:=by simp;omega
   have hk2:decide (k<s.size)=true:=by simp;omega
   have hk3:(k:Int)<(s.size:Int):=by omega
   obtain ⟨x,hx⟩:∃ x:Int,(s[k].toNat:Int)=x:=⟨_,rfl⟩
   have hA:Cd.at8 s k=s[k].toNat:=by unfold Cd.at8;rw [Nm.ZL s k hlt];rfl
   have hA2:=Cd.ZaC s k;have hx0:0<=x:=by omega
   have hx1:x<=255:=by omega
   obtain ⟨H,hH⟩:∃ H,Cd.at8 s k / 16=H:=⟨_,rfl⟩
   obtain ⟨L,hL⟩:∃ L,Cd.at8 s k % 16=L:=⟨_,rfl⟩
   have e1:x / 16=(H:Int):=by omega
   have e2:x % 16=(L:Int):=by omega
   have e3:x.tdiv 16=(H:Int):=by rw [Int.tdiv_eq_ediv_of_nonneg hx0];exact e1
   have e4:x.tmod 16=(L:Int):=by rw [Int.tmod_eq_emod_of_nonneg hx0];exact e2
   have hH1:H<16:=by omega
   have hL1:L<16:=by omega
   have hH2:(H:Int)<16:=by omega
   have hL2:(L:Int)<16:=by omega
   have HN:Hid (Bk.hvK s (k+1)=upd (upd (Bk.hvK s k) H (Bk.hvK s k H+1)) L (upd (Bk.hvK s k) H (Bk.hvK s k H+1) L+1)):=by show _=_;rw [Bk.hvK,hH,hL]
   have hb1:=Bk.ZhP s k H
   have hb2:0<=upd (Bk.hvK s k) H (Bk.hvK s k H+1) L/\upd (Bk.hvK s k) H (Bk.hvK s k H+1) L<=4096:=by
    have:=Bk.ZhP s k L;unfold upd;split <;> omega
   have hb3:Bk.hvK s k H<=4096:=by omega
   have hb4:=hb1.1;clear hA hA2 hH hL e1 e2 hb1;have c1:=R3.cell H hH1;have f1:=R3.frozen H;have S3:=R3.set H (Bk.hvK s k H+1);have S2:=R2.setFar (q:=g3) (by have:=hq.out;omega) H (.int .i64 (Bk.hvK s k H+1));have SB:=HB.setCell (p:=⟨g3,H,none⟩) (by have:=hq.out;show _<=g3;omega) (.int .i64 (Bk.hvK s k H+1));have c2:=S3.cell L hL1;have f2:=S3.frozen L;have T3:=S3.set L (upd (Bk.hvK s k) H (Bk.hvK s k H+1) L+1);have T2:=S2.setFar (q:=g3) (by have:=hq.out;omega) L (.int .i64 (upd (Bk.hvK s k) H (Bk.hvK s k H+1) L+1));have TB:=SB.setCell (p:=⟨g3,L,none⟩) (by have:=hq.out;show _<=g3;omega) (.int .i64 (upd (Bk.hvK s k) H (Bk.hvK s k H+1) L+1));rw [<-HN.out] at T3;generalize upd (Bk.hvK s k) H (Bk.hvK s k H+1) L=y2 at *;generalize Bk.hvK s k H=y1 at *;clear R2 R3 HB S2 S3 SB HN;go_wp2_with fail
   go_roundw
   case rel=>exact ⟨k+1,by omega,by go_num,T2,T3,TB⟩
   case measure=>simp [intOf];omega
  ·obtain rfl:k=s.size:=by omega
   rw [Hr.out] at R3;have hi1:=Zb r;have hk1:decide ((s.size:Int)<(s.size:Int))=false:=by simp
   have hk2:decide (s.size<s.size)=false:=by simp
   go_wp2_with (first | refine wpList_load_row rfl 127 _ rfl g3 rfl 127 (arr r) (0,0) _ R3.2 U127 rfl hi1 ?_ | refine wpList_store_row rfl 127 _ _ rfl w.heap.size (arr r) rfl rfl 127 _ R2.2 hi1 (by rw [Zh,Zh]) (ZV _) ?_)
   have U2:=R2.setRow r;exact bodyPost_ret (v:=.agg (arr r)) (results_cell_row Tryz.results121 _ _ w.heap.size 127 _ (0,0) _ rfl U2.2 U127 rfl hi1) rfl ⟨rfl,Zn HB (nl _) _⟩
theorem Zga (s:ByteArray) (w:World) (hs:s.size<=1024) :
 Calls Tryz.prog 140 #[.string s] w fun e w'=>e=.returned (.agg (arr (Bk.hv s)))/\Below w.heap.size w w':=by
 obtain ⟨R2,R3⟩:=RowAt.two w (fun _=>0) (fun _=>0);have HB:=Zjv w (.cells (arr fun _=>0) 127) (.cells (arr fun _=>0) 127);rw [<-Zk] at R2 R3 HB;have hs':(s.size:Int)<=1024:=by omega
 obtain ⟨r,hr⟩:∃ r,Bk.hv s=r:=⟨_,rfl⟩
 rw [hr];have Hr:Hid (Bk.hvK s s.size=r):=hr;clear hr;go_enter Tryz.func140,Tryz.ntmps140
 go_wp2_with fail
 rw [Zk] at R2 R3 HB;rw [Zk];generalize (w.alloc (.cells (arr fun _=>0) 127)).alloc (.cells (arr fun _=>0) 127)=w0 at *
 obtain ⟨g1,hg1⟩:∃ g1,g1=w.heap.size:=⟨_,rfl⟩
 have hq:Hid (g1<w.heap.size+1/\w.heap.size=g1):=by show _/\_;omega
 generalize w.heap.size+1=g3 at *;clear hg1;go_loopw [4] (fun i wr=>∃ k:Nat,k<=s.size/\i=.int .i64 k/\RowAt wr w.heap.size (fun _=>0)/\RowAt wr g3 (Bk.hvK s k)/\Below w.heap.size w wr) (fun i _=>s.size - (intOf i).toNat)
 case atStart=>exact ⟨0,by omega,rfl,R2,R3,HB⟩
 case round =>
  clear R2 R3 HB;obtain ⟨k,hk,rfl,R2,R3,HB⟩:=hrel;by_cases hlt:k<s.size
  ·have hk1:decide ((k:Int)<(s.size:Int))=true:=by simp;omega
   have hk2:decide (k<s.size)=true:=by simp;omega
   have hk3:(k:Int)<(s.size:Int):=by omega
   obtain ⟨x,hx⟩:∃ x:Int,(s[k].toNat:Int)=x:=⟨_,rfl⟩
   have hA:Cd.at8 s k=s[k].toNat:=by unfold Cd.at8;rw [Nm.ZL s k hlt];rfl
   have hA2:=Cd.ZaC s k;have hx0:0<=x:=by omega
   have hx1:x<=255:=by omega
   obtain ⟨H,hH⟩:∃ H,Cd.at8 s k / 16=H:=⟨_,rfl⟩
   obtain ⟨L,hL⟩:∃ L,Cd.at8 s k % 16=L:=⟨_,rfl⟩
   have e1:x / 16=(H:Int):=by omega
   have e2:x % 16=(L:Int):=by omega
   have e3:x.tdiv 16=(H:Int):=by rw [Int.tdiv_eq_ediv_of_nonneg hx0];exact e1
   have e4:x.tmod 16=(L:Int):=by rw [Int.tmod_eq_emod_of_nonneg hx0];exact e2
   have hH1:H<16:=by omega
   have hL1:L<16:=by omega
   have hH2:(H:Int)<16:=by omega
   have hL2:(L:Int)<16:=by omega
   have HN:Hid (Bk.hvK s (k+1)=upd (upd (Bk.hvK s k) H (Bk.hvK s k H+1)) L (upd (Bk.hvK s k) H (Bk.hvK s k H+1) L+1)):=by show _=_;rw [Bk.hvK,hH,hL]
   have hb1:=Bk.ZhP s k H
   have hb2:0<=upd (Bk.hvK s k) H (Bk.hvK s k H+1) L/\upd (Bk.hvK s k) H (Bk.hvK s k H+1) L<=4096:=by
    have:=Bk.ZhP s k L;unfold upd;split <;> omega
   have hb3:Bk.hvK s k H<=4096:=by omega
   have hb4:=hb1.1;clear hA hA2 hH hL e1 e2 hb1;have c1:=R3.cell H hH1;have f1:=R3.frozen H;have S3:=R3.set H (Bk.hvK s k H+1);have S2:=R2.setFar (q:=g3) (by have:=hq.out;omega) H (.int .i64 (Bk.hvK s k H+1));have SB:=HB.setCell (p:=⟨g3,H,none⟩) (by have:=hq.out;show _<=g3;omega) (.int .i64 (Bk.hvK s k H+1));have c2:=S3.cell L hL1;have f2:=S3.frozen L;have T3:=S3.set L (upd (Bk.hvK s k) H (Bk.hvK s k H+1) L+1);have T2:=S2.setFar (q:=g3) (by have:=hq.out;omega) L (.int .i64 (upd (Bk.hvK s k) H (Bk.hvK s k H+1) L+1));have TB:=SB.setCell (p:=⟨g3,L,none⟩) (by have:=hq.out;show _<=g3;omega) (.int .i64 (upd (Bk.hvK s k) H (Bk.hvK s k H+1) L+1));rw [<-HN.out] at T3;generalize upd (Bk.hvK s k) H (Bk.hvK s k H+1) L=y2 at *;generalize Bk.hvK s k H=y1 at *;clear R2 R3 HB S2 S3 SB HN;go_wp2_with fail
   go_roundw
   case rel=>exact ⟨k+1,by omega,by go_num,T2,T3,TB⟩
   case measure=>simp [intOf];omega
  ·obtain rfl:k=s.size:=by omega
   rw [Hr.out] at R3;have hi1:=Zb r;have hk1:decide ((s.size:Int)<(s.size:Int))=false:=by simp
   have hk2:decide (s.size<s.size)=false:=by simp
   go_wp2_with (first | refine wpList_load_row rfl 127 _ rfl g3 rfl 127 (arr r) (0,0) _ R3.2 U127 rfl hi1 ?_ | refine wpList_store_row rfl 127 _ _ rfl w.heap.size (arr r) rfl rfl 127 _ R2.2 hi1 (by rw [Zh,Zh]) (ZV _) ?_)
   have U2:=R2.setRow r;exact bodyPost_ret (v:=.agg (arr r)) (results_cell_row Tryz.results140 _ _ w.heap.size 127 _ (0,0) _ rfl U2.2 U127 rfl hi1) rfl ⟨rfl,Zn HB (nl _) _⟩
structure Tr where
 h:Nat->Bool
 w:Int
def trc (t:Tr):Array Value:=((List.range 16).map fun i=>Value.bool (t.h i)).toArray++#[.int .i64 t.w]
theorem Zah (t:Tr):(trc t).size=17:=by simp [trc]
theorem Zsv (t:Tr) (i:Nat) (hi:i<16):(trc t)[i]?=some (.bool (t.h i)):=by
 rw [trc,Array.getElem?_append_left (by simp;exact hi)];simp [hi]
theorem Zrd (t:Tr):(trc t)[16]?=some (.int .i64 t.w):=by
 rw [trc,Array.getElem?_append_right (by simp)];simp
theorem ZpL:(Tryz.prog.info? 195).map (·.size)=some 17:=by kernel_rfl
theorem ZR (t:Tr):(Tryz.prog.info? 195).map (·.size)=some (trc t).size:=by rw [Zah];exact ZpL
theorem ZcW (t:Tr):(trc t).all (·.oneCell')=true:=by
 unfold trc;rw [Array.all_append]
 have:((List.range 16).map fun i=>Value.bool (t.h i)).toArray.all (·.oneCell')=true:=by
  rw [Array.all_eq_true_iff_forall_mem];intro v hv;simp at hv;obtain ⟨i,_,rfl⟩:=hv;rfl
 rw [this];simp [Value.oneCell']
theorem Zhm {s t:Tr} (h:∀ i,i<16->s.h i=t.h i) (hw:s.w=t.w):trc s=trc t:=by
 unfold trc;rw [hw]
 congr 2
 apply List.map_congr_left;intro i hi;rw [h i (List.mem_range.1 hi)]
def TrAt (w:World) (g:Nat) (t:Tr):Prop:=g<w.heap.size/\w.heap[g]?=some (.cells (trc t) 195 (0,0))
theorem TrAt.new (w:World) (t:Tr):TrAt (w.alloc (.cells (trc t) 195)) w.heap.size t:=⟨by simp,heap_alloc_last w _⟩
theorem TrAt.below {w w':World} {g:Nat} {t:Tr} (H:TrAt w g t) (hb:Below w.heap.size w w'):TrAt w' g t:=⟨Nat.lt_of_lt_of_le H.1 hb.size,by rw [hb.block g H.1];exact H.2⟩
theorem TrAt.alloc {w:World} {g:Nat} {t:Tr} (H:TrAt w g t) (o:Obj):TrAt (w.alloc o) g t:=H.below ((Below.refl _ _).alloc (Nat.le_refl _) o)
theorem TrAt.cellh {w:World} {g:Nat} {t:Tr} (H:TrAt w g t) (k:Nat) (hk:k<16):w.cell? ⟨g,k,none⟩=some (.bool (t.h k)):=by rw [cell_of_row w g k _ _ _ H.2,Zsv t k hk]
theorem TrAt.cellw {w:World} {g:Nat} {t:Tr} (H:TrAt w g t):w.cell? ⟨g,16,none⟩=some (.int .i64 t.w):=by rw [cell_of_row w g 16 _ _ _ H.2,Zrd t]
theorem TrAt.frozen {w:World} {g:Nat} {t:Tr} (H:TrAt w g t) (k:Nat):w.frozen? ⟨g,k,none⟩=false:=by simp [World.frozen?,H.2]
theorem TrAt.range {w:World} {g:Nat} {t:Tr} (h:TrAt w g t):w.rangeAt g 0 (trc t).toList:=by
 have:=World.rangeAt_of_block h.2 0 17
 rwa [show (trc t).extract 0 (0+17)=trc t by rw [Nat.zero_add,<-Zah t];exact Array.extract_size] at this
namespace Cd
def lsF (h:Nat->Bool):Nat->Nat->Nat
 | 0,k=>k
 | m+1,k=>if h k=true then k else lsF h m (k+1)
def ls (h:Nat->Bool):Nat:=lsF h 16 0
def lgt (s t:Tr):Bool:=if s.w=t.w then decide (ls s.h<ls t.h) else decide (s.w<t.w)
end Cd
theorem Zbn (t:Tr) (w:World) :
 Calls Tryz.prog 169 #[.agg (trc t)] w fun e w'=>e=.returned (.int .i64 (Cd.ls t.h:Nat))/\Below w.heap.size w w':=by
 have R1:=TrAt.new w t;have B1:Below w.heap.size w (w.alloc (.cells (trc t) 195)):=(bR _ _).alloc (nl _) _
 obtain ⟨r,hr⟩:∃ r,Cd.ls t.h=r:=⟨_,rfl⟩
 rw [hr];have Hr:Hid (Cd.lsF t.h 16 0=r):=hr;clear hr;go_enter Tryz.func169,Tryz.ntmps169
 go_wp2_with fail
 generalize w.alloc (.cells (trc t) 195)=w0 at *;go_loop [3] (fun i=>∃ (k m:Nat),i=.int .i64 k/\Hid (k+m=16)/\k<=16/\Hid (Cd.lsF t.h m k=r)) (fun i=>16 - (intOf i).toNat)
 case atStart=>exact ⟨0,16,rfl,rfl,by omega,Hr⟩
 case round =>
  obtain ⟨k,m,rfl,Hm,hk,HF⟩:=hrel;by_cases hlt:k<16
  ·have hk1:decide ((k:Int)<16)=true:=by simp;omega
   have hk2:decide (k<16)=true:=by simp;omega
   have hk3:(k:Int)<16:=by omega
   obtain ⟨m,rfl⟩:∃ j,m=j+1:=⟨m - 1,by have:=Hm.out;omega⟩
   have c1:=R1.cellh k hlt
   cases hb:t.h k with
   | true =>
    have h9:=HF.out;rw [Cd.lsF,if_pos hb] at h9;subst h9;rw [hb] at c1;clear hb;go_wp2_with fail
    go_ret
    exact ⟨rfl,B1⟩
   | false =>
    have h9:=HF.out;rw [Cd.lsF,if_neg (by simp [hb])] at h9;have H9:Hid (Cd.lsF t.h m (k+1)=r):=h9;rw [hb] at c1;clear hb h9;go_wp2_with fail
    exact ⟨⟨k+1,m,by go_num,by have:=Hm.out;show _=_;omega,by omega,H9⟩,by simp [intOf];omega⟩
  ·obtain rfl:k=16:=by omega
   obtain rfl:m=0:=by have:=Hm.out;omega
   have h9:=HF.out;rw [Cd.lsF] at h9;subst h9;go_wp2_with fail
   go_ret
   exact ⟨rfl,B1⟩
theorem ZgJ {P:Program} {md:Region.Mode} {ops:Array Oper} {Q:Exit->Act->World->Prop} {S:World->Prop} {i:Nat} {o:Oper} {v:Value} {fuel:Nat} {listed:Array Bool} {a:Act} {w:World}
 (hr:Region.ready md ops listed=[i]) (hr2:Region.ready md ops (listed.setIfInBounds i true)=[]) (ho:ops[i]?=some o) (hy:YieldsIf P ops S o v a) (hS:S w) (h:Q .normal (a.put o.dst v) w):wpAnyH P md ops Q S (fuel+1) listed a w :=
 wpAnyH_all hr (by simp) (fun j hj=>by
  obtain rfl:j=i:=by simpa using hj
  exact hy.wpOp ho hS ⟨hS,wpAnyH_done hr2 h _⟩)
theorem ZuF (w:World) (s t:Tr):TrAt ((w.alloc (.cells (trc s) 195)).alloc (.cells (trc t) 195)) w.heap.size s/\TrAt ((w.alloc (.cells (trc s) 195)).alloc (.cells (trc t) 195)) (w.heap.size+1) t/\Below w.heap.size w ((w.alloc (.cells (trc s) 195)).alloc (.cells (trc t) 195)) :=
 ⟨(TrAt.new w s).alloc _,by have:=TrAt.new (w.alloc (.cells (trc s) 195)) t;simpa using this,((bR _ _).alloc (nl _) _).alloc (by simp) _⟩
theorem Zio (s t:Tr) (w:World) :
 Calls Tryz.prog 183 #[.agg (trc s),.agg (trc t)] w fun e w'=>e=.returned (.bool (Cd.lgt s t))/\Below w.heap.size w w':=by
 obtain ⟨R1,R2,B1⟩:=ZuF w s t;have c1:=R1.cellw;have c2:=R2.cellw;by_cases hw:s.w=t.w
 ·have h9:Cd.lgt s t=decide (Cd.ls s.h<Cd.ls t.h):=by rw [Cd.lgt,if_pos hw]
  rw [h9];have d1:(s.w != t.w)=false:=by simpa using hw
  have hl1:=fun w=>Zbn s w
  have hl2:=fun w=>Zbn t w
  have hi1:=ZR s;have hi2:=ZR t;generalize Cd.ls s.h=x at *;generalize Cd.ls t.h=y at *;generalize s.w=ws at *;generalize t.w=wt at *;clear h9 hw;go_enter Tryz.func183,Tryz.ntmps183
  go_wp2_with fail
  generalize (w.alloc (.cells (trc s) 195)).alloc (.cells (trc t) 195)=w0 at *;refine wp_region_held_drew (S:=fun w'=>TrAt w' w.heap.size s/\TrAt w' (w.heap.size+1) t) (by kernel_rfl) ⟨R1,R2⟩ (fun hS=>?_);refine wK (i:=0) (fuel:=5) rfl (by kernel_rfl) (by kernel_rfl) (by kernel_rfl) (fun _ _ _ h=>h) (yieldsIf_load_mid (by rfl) 195 _ rfl w.heap.size 0 rfl (trc s).toList _ (fun w' h'=>h'.1.range) U195 rfl (by rw [Array.length_toList];exact hi1)) hS ?_;refine wK (i:=2) (fuel:=4) rfl (by kernel_rfl) (by kernel_rfl) (by kernel_rfl) (fun _ _ _ h=>h) (yieldsIf_load_mid (by rfl) 195 _ rfl (w.heap.size+1) 0 rfl (trc t).toList _ (fun w' h'=>h'.2.range) U195 rfl (by rw [Array.length_toList];exact hi2)) hS ?_;refine wY (rs:=[1]) (fuel:=3) (by kernel_rfl) (by simp) ?_;refine rC rfl (fun K hK=>?_) rN;go_simp
  refine (hl1 _).mono ?_;rintro e w1 ⟨rfl,G1⟩;have S1:=(show TrAt w0.drew w.heap.size s from R1).below G1;have S2:=(show TrAt w0.drew (w.heap.size+1) t from R2).below G1;have B2:=bch (show Below w.heap.size w w0.drew from B1.drew) G1 (nl _);clear c1 c2 R1 R2 B1 G1 hl1;refine hK.out _ _ ⟨S1,S2⟩ (fun hS2=>?_);clear hK;refine wY (rs:=[3]) (fuel:=2) (by kernel_rfl) (by simp) ?_;refine rC rfl (fun K hK=>?_) rN;go_simp
  refine (hl2 _).mono ?_;rintro e w2 ⟨rfl,G2⟩;have B3:=bch B2 G2 (nl _);refine hK.out _ _ ⟨S1.below G2,S2.below G2⟩ (fun hS3=>?_);clear hK G2;refine wK (i:=4) (fuel:=1) (v:=.bool (decide (x<y))) rfl (by kernel_rfl) (by kernel_rfl) (by kernel_rfl) (fun _ _ _ h=>h) (Or.inl ⟨by rfl,fun w _=>by go_simp⟩) hS3 ?_;refine ZgJ (i:=5) (fuel:=0) (v:=.bool (decide (x<y))) (by kernel_rfl) (by kernel_rfl) rfl (Or.inl ⟨by rfl,fun w _=>by go_simp⟩) hS3 ?_;go_wp2_with fail
  go_ret
  exact ⟨rfl,B3⟩
 ·have h9:Cd.lgt s t=decide (s.w<t.w):=by rw [Cd.lgt,if_neg hw]
  rw [h9];have d1:(s.w != t.w)=true:=by simpa using hw
  generalize s.w=ws at *;generalize t.w=wt at *;clear h9 hw;go_enter Tryz.func183,Tryz.ntmps183
  go_wp2_with fail
  go_ret
  exact ⟨rfl,B1⟩
namespace Cd
def chr (b:Bool):UInt8:=if b then 49 else 48
def str (bs:List Bool):ByteArray:=⟨(bs.map chr).toArray⟩
theorem Zaa (bs:List Bool):(str bs).size=bs.length:=by
 show (bs.map chr).toArray.size=_;simp
theorem ZdW (a b:List Bool):str a++str b=str (a++b):=by
 unfold str;rw [List.map_append];exact Nm.ZiU _ _
theorem ZsH (word:Int):∀ k,wb word (k+1)=wb (word / 2) k++[decide (word % 2=1)]:=by
 intro k
 induction k generalizing word with
 | zero=>simp [wb]
 | succ k ih =>
  rw [wb,ih,wb,List.cons_append,Int.ediv_ediv_of_nonneg (by omega),Int.pow_succ,Int.mul_comm 2 (2 ^ k)]
theorem Zuv (n:Int):UInt8.ofNat (48+n % 2).toNat=chr (decide (n % 2=1)):=by
 have h:n % 2=0\/n % 2=1:=by omega
 rcases h with h | h <;> rw [h] <;> rfl
end Cd
theorem ZeD (k:Nat):∀ (n:Int) (w:World),0<=n->n<=1048576->k<=15 →
 Calls Tryz.prog 133 #[.int .i64 n,.int .i64 (k:Int)] w fun e w'=>e=.returned (.string (Cd.str (Cd.wb n k)))/\Below w.heap.size w w':=by
 induction k with
 | zero =>
  intro n w h0 hn _;go_enter Tryz.func133,Tryz.ntmps133
  go_wp2_with fail
  go_ret
  exact ⟨rfl,bR _ _⟩
 | succ k ih =>
  intro n w h0 hn hk;have hcv:=Zba (48+n % 2) (by omega) (by omega)
  have IH:Hid (∀ (n:Int) (w:World),0<=n->n<=1048576->k<=15 →
   Calls Tryz.prog 133 #[.int .i64 n,.int .i64 (k:Int)] w fun e w'=>e=.returned (.string (Cd.str (Cd.wb n k)))/\Below w.heap.size w w'):=ih
  clear ih;have hl:(Cd.str (Cd.wb (n / 2) k)).size<=15:=by rw [Cd.Zaa,Cd.Zdq];omega
  have HN:Hid (Cd.str (Cd.wb n (k+1))=Cd.str (Cd.wb (n / 2) k)++⟨#[UInt8.ofNat (48+n % 2).toNat]⟩):=by
   show _=_;rw [Cd.ZsH,<-Cd.ZdW,Cd.Zuv];rfl
  obtain ⟨K,hK⟩:∃ K:Int,((k+1:Nat):Int)=K:=⟨_,rfl⟩
  rw [hK];have hK0:(K == 0)=false:=by simp;omega
  have hK1:K - 1=(k:Int):=by omega
  have hr1:IntKind.i64.wrap (48+n % 2)=48+n % 2:=IntWalk.i64_in _ ⟨by omega,by omega⟩;have hr3:n.tmod 2=n % 2:=Int.tmod_eq_emod_of_nonneg h0;have hr4:n.tdiv 2=n / 2:=Int.tdiv_eq_ediv_of_nonneg h0;have hr5:IntKind.i64.wrap (n / 2)=n / 2:=IntWalk.i64_in _ ⟨by omega,by omega⟩;have hr6:IntKind.i64.wrap (k:Int)=(k:Int):=IntWalk.i64_in _ ⟨by omega,by omega⟩;have hr2:IntKind.u8.wrap (48+n % 2)=48+n % 2:=IntWalk.u8_in _ ⟨by omega,by omega⟩;clear hK;go_enter Tryz.func133,Tryz.ntmps133
  go_wp2_with fail
  go_region_with (go_at_call 133;refine (IH.out _ _ (by omega) (by omega) (by omega)).mono ?_;rintro e w1 ⟨rfl,hB⟩;have hk1:=Ztr hB)
  all_goals go_wp2
  all_goals go_ret
  all_goals refine ⟨?_,?_⟩
  all_goals first | exact congrArg (fun s=>Ending.returned (Value.string s)) HN.out.symm | skip
  all_goals first | exact bch ((bR _ _).alloc (nl _) _).drew hB (nl _) | exact bch (bR _ _).drew hB (nl _) | exact (bch (bR _ _).drew hB (nl _)).alloc hB.size _ | skip
end Go.Proofs.YtbjbjbpgmojcbacGreat
