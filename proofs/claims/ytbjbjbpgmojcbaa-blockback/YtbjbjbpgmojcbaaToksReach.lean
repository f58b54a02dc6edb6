/- What toks' reach does to the map of places; what longest then finds. -/
import Derived.Test.YtbjbjbpgmojcbaaToksLong
import Derived.Test.YtbjbjbpgmojcbaaToksRead
import Derived.Deep.RegionHeld3
namespace Go.Proofs.Ytbjbjbpgmojcbaa
open Go.RowKit Go.Maps Go.ChangeShapes

theorem info_int : (Try.prog.info? 3).map (fun i => (i.zero, i.size, i.bytes)) = some (some (.int .i64 0), 1, 8) := by kernel_rfl

theorem win_ext (s : ByteArray) (r : Nat) : Tk.win s.data.toList r = (s.extract r (r + 3)).data.toList := by
  rw [Tk.ext_data, show r + 3 - r = 3 by omega]
  rfl

theorem longest_any {w : World} {base gp bm r : Nat} {No : Nat → Prop} {s : ByteArray} (a : Nat) (h : PastAt w base gp bm No s r) (hr : a + 3 ≤ s.size → r = a) (ha : a ≤ s.size) (hs : s.size ≤ 2000) :
    Calls Try.prog 59 #[.pointer (some ⟨gp, 0, none⟩), .int .i64 a] w fun e w' => e = .returned (.tuple #[.int .i64 ((Tk.lng s.data.toList a).1 : Nat), .int .i64 ((Tk.lng s.data.toList a).2 : Nat)]) ∧ ∃ n, w' = w.drewN n := by
  have hl : s.data.toList.length = s.size := by simp
  by_cases hm : a + 3 ≤ s.size
  · obtain rfl := hr hm
    obtain ⟨ad, cap, hlk, hcl⟩ := past_look h (by omega) (k := s.extract r (r + 3)) (Nat.le_trans (Nm.ext_le (Nat.le_refl _)) (by unfold maxLen; omega))
    rw [← win_ext] at hlk hcl
    have hlng : Tk.lng s.data.toList r = (Tk.plc s.data.toList (Tk.win s.data.toList r) r).reverse.foldl (Tk.stp s.data.toList r (Tk.most s.data.toList r)) (0, 0) := by
      unfold Tk.lng
      rw [if_neg (by unfold Tk.most; omega)]
    rw [hlng]
    have hlen := Tk.plc_len s.data.toList (Tk.win s.data.toList r) r
    rcases hcl with h0 | ⟨g, rfl, hcell⟩
    · exact longest_many gp bm 0 cap s r _ _ ad w h.c0 h.c1 hs hm (by show _ = _; unfold Tk.most; rw [hl]) (by omega) hlk (.inl h0)
    · exact longest_many gp bm g cap s r _ _ _ w h.c0 h.c1 hs hm (by show _ = _; unfold Tk.most; rw [hl]) (by omega) hlk (.inr ⟨rfl, fun i p hp => ⟨Tk.plc_lt (List.mem_of_getElem? hp), hcell i p hp⟩⟩)
  · have hlng : Tk.lng s.data.toList a = (0, 0) := by
      unfold Tk.lng
      rw [if_pos (by unfold Tk.most; omega)]
    rw [hlng]
    exact longest_short gp s a w h.c0 hs (by omega) ha

/-- The number in a cell. -/
def cellInt (w : World) (p : Addr) : Nat := match w.cell? p with | some v => (intOf v).toNat | none => 0

set_option maxRecDepth 4000 in
set_option maxHeartbeats 2000000 in
theorem reach_any {w : World} {base gp bm r : Nat} {No : Nat → Prop} {s : ByteArray} (a : Nat) (h : PastAt w base gp bm No s r) (hno : ∀ g, No g → g < w.heap.size) (hr : r ≤ a) (ha : a ≤ s.size) (hs : s.size ≤ 2000) :
    Calls Try.prog 58 #[.pointer (some ⟨gp, 0, none⟩), .int .i64 a] w fun e w' => e = .returned (.tuple #[]) ∧ Keeps w w' base gp bm No ∧ ∃ r', r ≤ r' ∧ r' ≤ a ∧ (a + 3 ≤ s.size → r' = a) ∧ PastAt w' base gp bm No s r' := by
  obtain ⟨i0, hi, hz0, hz1, hz2⟩ := info_parts info_int
  go_enter Try.func58, Try.ntmps58
  go_wp2_with fail
  go_loopw [4] (fun _ wr => ∃ q : Nat, r ≤ q ∧ q ≤ a ∧ PastAt wr base gp bm No s q ∧ Keeps w wr base gp bm No) (fun _ wr => a - cellInt wr ⟨gp, 2, none⟩)
  case atStart => exact ⟨r, Nat.le_refl _, hr, h, Keeps.refl _ _ _ _ _⟩
  case round =>
    obtain ⟨q, hq1, hq2, hp, G⟩ := hrel
    have Hp : Hid (PastAt wr base gp bm No s q) := hp
    obtain ⟨c0, c1, c2, f2, hgb, hne, hbs, -⟩ := hp
    have hw3 : IntKind.i64.wrap ((q : Int) + 3) = (q : Int) + 3 := IntWalk.i64_in _ ⟨by omega, by omega⟩
    by_cases h1 : q < a
    · have d1 : decide ((q : Int) < (a : Int)) = true := by simp; omega
      have d1' : decide (q < a) = true := by simp; omega
      by_cases h2 : q + 3 ≤ s.size
      · have d2 : decide ((q : Int) + 3 ≤ (s.size : Int)) = true := by simp; omega
        have hsl := slice_at s (q : Int) ((q : Int) + 3) q (q + 3) rfl (by omega) (by omega) (by omega)
        go_wp2_with fail
        go_quiet (fail)
        go_wp2_with fail
        go_quiet (fail)
        go_wp2_with fail
        generalize hW : (wr.drewN _).drewN _ = W
        have hbel : Below wr.heap.size wr W := by rw [← hW]; exact below_drewN (below_drewN (Below.refl _ _) _) _
        have hpW := Hp.out.below hbel
        have hsz : wr.heap.size = W.heap.size := by rw [← hW]; rfl
        clear hW
        obtain ⟨v, zs, hlk, hoi, hzl, hback⟩ := past_round hpW (by omega) (k := s.extract q (q + 3)) (Nat.le_trans (Nm.ext_le (Nat.le_refl _)) (by unfold maxLen; omega)) (win_ext s q)
        have hbmW : bm < W.heap.size := by
          obtain ⟨D, _, ho, _⟩ := hpW.map
          obtain ⟨es, clock, hb, _⟩ := ho
          exact (Array.getElem?_eq_some_iff.1 hb).1
        have hgpW : gp < W.heap.size := Nat.lt_of_lt_of_le hgb hpW.bs
        have hbsW := hpW.bs
        have HpW : Hid (PastAt W base gp bm No s q) := hpW
        have e0 := hpW.c0
        have e1 := hpW.c1
        have e2 := hpW.c2
        have ef := hpW.f2
        have C2 : Hid (wr.cell? ⟨gp, 2, none⟩ = some (.int .i64 (q : Nat))) := c2
        clear hpW c0 c1 c2 f2
        have hlk1 : (Instr.lookup 78 (.map (some bm)) (.string (s.extract q (q + 3))) false).run Try.prog W.drew = .ok v W.drew := hlk _ rfl
        have hlk2 : ∀ o, (Instr.lookup 78 (.map (some bm)) (.string (s.extract q (q + 3))) false).run Try.prog (W.alloc o).drew = .ok v (W.alloc o).drew := fun o => hlk _ (Below.heap_alloc W o bm hbmW)
        clear hlk
        have hoiD : ∀ o, (W.drew.alloc o).ownsRow base 3 1 v zs.length (zs.map (Value.int .i64)) := fun o => (own_below hoi (Below.refl _ _).drew).alloc o
        have hnov : ∀ g, v.ownBlock = some g → base ≤ g := fun g hg => (hoi.lt g hg).1
        have hnw := World.new_ne W.drew ⟨gp, 1, none⟩ e1
        have hnw2 := World.new_ne W.drew ⟨gp, 2, none⟩ e2
        have hnoW : ∀ g, No g → g < W.heap.size := fun g hg => by have := hno g hg; have := G.size; omega
        have HG : Hid (Keeps w W base gp bm No) := G.trans (Keeps.of_below hbel)
        have HL : Hid (∀ w1 g cp, W.grownBy w1 v.ownBlock → w1.ownsRow base 3 1 (.slice (some ⟨g, 0, none⟩) (zs.length + 1) cp) (zs.length + 1) (zs.map (Value.int .i64) ++ [.int .i64 (q : Nat)]) → (v.ownBlock = some g ∨ W.heap.size ≤ g) →
            ∃ w2, (Instr.mapUpdate 78 (.map (some bm)) (.string (s.extract q (q + 3))) (.slice (some ⟨g, 0, none⟩) (zs.length + 1) cp)).run Try.prog w1 = .ok () w2 ∧
              (w1.cell? ⟨gp, 1, none⟩ = some (.map (some bm)) ∧ w1.cell? ⟨gp, 2, none⟩ = some (.int .i64 (q : Nat))) ∧ (w2.cell? ⟨gp, 1, none⟩ = some (.map (some bm)) ∧ w2.cell? ⟨gp, 2, none⟩ = some (.int .i64 (q : Nat))) ∧ w2.frozen? ⟨gp, 2, none⟩ = false ∧
              Hid (PastAt (w2.setCell ⟨gp, 2, none⟩ (.int .i64 ((q + 1 : Nat) : Int))) base gp bm No s (q + 1)) ∧ Hid (Keeps w (w2.setCell ⟨gp, 2, none⟩ (.int .i64 ((q + 1 : Nat) : Int))) base gp bm No)) := by
          intro w1 g cp hg1 hown1 hloc
          obtain ⟨w2, hrun2, hg2, hmap2, hk2⟩ := hback w1 _ hg1 hown1 (hloc.imp id (fun hge => ⟨g, rfl, hge, fun hN => by have := hnoW g hN; omega⟩))
          have hne1 : some gp ≠ v.ownBlock := fun e => by have := hnov gp e.symm; omega
          have x1 : w1.cell? ⟨gp, 1, none⟩ = some (.map (some bm)) := (hg1.cell_far _ hgpW hne1).trans e1
          have x2 : w1.cell? ⟨gp, 2, none⟩ = some (.int .i64 (q : Nat)) := (hg1.cell_far _ hgpW hne1).trans e2
          have hbk : gp ≠ bm := hne
          have y0 := (hk2.cell (p := ⟨gp, 0, none⟩) hgpW hbk hbk (.inl hgb)).trans e0
          have y1 := (hk2.cell (p := ⟨gp, 1, none⟩) hgpW hbk hbk (.inl hgb)).trans e1
          have y2 := (hk2.cell (p := ⟨gp, 2, none⟩) hgpW hbk hbk (.inl hgb)).trans e2
          have yf := (hk2.frozen (p := ⟨gp, 2, none⟩) hgpW hbk hbk (.inl hgb)).trans ef
          exact ⟨w2, hrun2, ⟨x1, x2⟩, ⟨y1, y2⟩, yf, past_next y0 y1 y2 yf hgb hne (Nat.le_trans hbsW hk2.size) hmap2, (HG.out.trans (hk2.wide gp)).setCell _ _⟩
        clear hback HpW hnoW
        go_region_held3 (fun w' => w'.cell? ⟨gp, 1, none⟩ = some (.map (some bm)) ∧ w'.cell? ⟨gp, 2, none⟩ = some (.int .i64 (q : Nat))) (first | go_keep | (constructor <;> assumption)) (first | (refine step_append_lies _ rfl _ _ 114 rfl base 3 i0 (.int .i64 0) 1 8 Try.underlying114 hi hz0 hz1 hz2 rfl (by decide) v _ _ rfl (hoiD _) ⟨W.drew.heap.size, 0, none⟩ 1 1 [.int .i64 (q : Nat)] rfl rfl (cell_one_new _ _ _) (ints_oneCell .i64 [(q : Int)]) (by decide) (by unfold maxLen; omega) (by omega) (by simp; omega) _ rfl ?_; intro g cp w1 hown1 hgrow1 hat1 hlt1; obtain ⟨w2, hrun2, ⟨k1, k2⟩, ⟨k3, k4⟩, k5, HP2, HK2⟩ := HL.out w1 g cp ((World.grownBy_alloc W _ _).trans ⟨hgrow1.os, hgrow1.tape, hgrow1.output, hgrow1.size, hgrow1.block⟩) hown1 (hat1.imp id (fun e => by rw [e]; simp))))
        all_goals
          go_wp2_with fail
          go_roundw
          case rel => exact ⟨q + 1, by omega, by omega, HP2.out, HK2.out⟩
          case measure =>
            unfold cellInt
            have hx : (w2.setCell ⟨gp, 2, none⟩ (.int .i64 ((q : Int) + 1))).cell? ⟨gp, 2, none⟩ = some (.int .i64 ((q + 1 : Nat) : Int)) := HP2.out.c2
            rw [hx, C2.out]
            simp [intOf]
            omega
      · have d2 : decide ((q : Int) + 3 ≤ (s.size : Int)) = false := by simp; omega
        go_wp2_with fail
        go_quiet (fail)
        go_wp2_with fail
        go_end0
        exact ⟨rfl, G.trans (Keeps.of_below (below_drewN (Below.refl _ _) _)), q, hq1, hq2, fun _ => by omega, Hp.out.below (below_drewN (Below.refl _ _) _)⟩
    · have d1 : decide ((q : Int) < (a : Int)) = false := by simp; omega
      have d1' : decide (q < a) = false := by simp; omega
      go_wp2_with fail
      go_quiet (fail)
      go_wp2_with fail
      go_end0
      exact ⟨rfl, G.trans (Keeps.of_below (below_drewN (Below.refl _ _) _)), q, hq1, hq2, fun _ => by omega, Hp.out.below (below_drewN (Below.refl _ _) _)⟩
end Go.Proofs.Ytbjbjbpgmojcbaa
