/- A part of the proof: what it leans on. -/
import Derived.Deep.RegionLaw
import Derived.Deep.CutRange
import Derived.Deep.Slices
import Derived.SizedLaws
import Derived.Carry
import Derived.ChangeSame
import Derived.Test.YtbjbjbpgmojcbabGreatImBook08
import Derived.Test.YtbjbjbpgmojcbabGreatImBook11
import Derived.Test.YtbjbjbpgmojcbabGreatImBook13
import Derived.Test.YtbjbjbpgmojcbabGreatImBook14
namespace Go.Proofs.YtbjbjbpgmojcbabGreat
open Go.RowKit
def AfSaid (a : Ar.A) (b : Bool) (w : World) (e : Ending) (w' : World) : Prop := ∃ ad cd af cf, e = .returned (.tuple #[.agg #[.slice ad a.dicts.length cd, .slice af a.files.length cf], .bool b]) ∧ ArV w' ad af a ∧ Below w.heap.size w w'
theorem af_nil {w w' : World} (h : Below w.heap.size w w') : AfSaid Ar.az false w (.returned (.tuple #[.agg #[.slice none 0 0, .slice none 0 0], .bool false])) w' := ⟨none, 0, none, 0, rfl, ⟨.inl rfl, .inl rfl⟩, h⟩
set_option maxRecDepth 8000 in
set_option maxHeartbeats 2000000 in
theorem archiveFrom_short (s : ByteArray) (w : World) (h : s.data.toList.take 5 ≠ Im.mrk) :
    Calls Tryz.prog 35 #[.string s] w fun e w' => AfSaid (Im.frmA s) (Im.frmB s) w e w' := by
  obtain ⟨e1, e2⟩ := Im.frm_short h
  rw [e1, e2]
  have B1 := alloc_below w (.cells #[.slice none 0 0, .slice none 0 0] 25 (0, 0))
  have B2 := bch B1 (alloc_below _ (.cells #[.slice none 0 0, .slice none 0 0] 25 (0, 0))) (Nat.le_refl _)
  have hq := af_nil B2
  clear B1 B2 e1 e2
  by_cases h5 : s.size < 5
  · have d1 : decide ((s.size : Int) < 5) = true := decide_eq_true (by omega)
    have d1' : decide (s.size < 5) = true := decide_eq_true h5
    clear h
    go_enter Tryz.func35, Tryz.ntmps35
    generalize AfSaid Ar.az false w = Q at *
    go_wp2_with fail
    exact bodyPost_ret (v := .tuple #[.agg #[.slice none 0 0, .slice none 0 0], .bool false]) (by simp [results, Tryz.results35, go_sem]) rfl hq
  · have d1 : decide ((s.size : Int) < 5) = false := decide_eq_false (by omega)
    have d1' : decide (s.size < 5) = false := decide_eq_false h5
    have h5i : (5 : Int) ≤ (s.size : Int) := by omega
    have h5n : 5 ≤ s.size := by omega
    have t1 : ((s.extract 0 5).toList == [112, 114, 101, 115, 115]) = false := by
      rw [ByteArray.toList_eq, Im.ext_take]
      exact beq_eq_false_iff_ne.2 h
    clear h
    go_enter Tryz.func35, Tryz.ntmps35
    generalize AfSaid Ar.az false w = Q at *
    go_wp2_with fail
    exact bodyPost_ret (v := .tuple #[.agg #[.slice none 0 0, .slice none 0 0], .bool false]) (by simp [results, Tryz.results35, go_sem]) rfl hq
end Go.Proofs.YtbjbjbpgmojcbabGreat
namespace Go.Proofs.YtbjbjbpgmojcbabGreat
open Go.RowKit
set_option maxRecDepth 8000 in
set_option maxHeartbeats 8000000 in
theorem archiveFrom_core (s r0 P : ByteArray) (w : World) (hs : s.size ≤ 16384) (h5 : 5 ≤ s.size) (hr : s.extract 5 s.size = r0) (hP : s.extract 0 5 = P) (hPe : (P.toList == [112, 114, 101, 115, 115]) = true) :
    Calls Tryz.prog 35 #[.string s] w fun e w' => AfSaid (Im.frmA s) (Im.frmB s) w e w' := by
  obtain ⟨i0, hi, hz0, hz1, hz2⟩ := info_parts (P := Tryz.prog) (e := 9) (z := .string ⟨#[]⟩) (size := 1) (bytes := 16) (by kernel_rfl)
  obtain ⟨j0, gi, gz0, gz1, gz2⟩ := info_parts (P := Tryz.prog) (e := 46) (z := .agg #[.string ⟨#[]⟩, .int .i64 0, .int .i64 0, .int .i64 0, .string ⟨#[]⟩]) (size := 5) (bytes := 56) (by kernel_rfl)
  have hr0 : r0.size ≤ 16384 := by rw [← hr]; simp; omega
  obtain ⟨n, r1, b1, h0⟩ : ∃ n r1 b1, Im.eNum (r0, false) = (n, (r1, b1)) := ⟨_, _, _, rfl⟩
  obtain ⟨ln, lr⟩ := Im.eNum_le r0 false
  rw [h0] at ln lr
  simp only at ln lr
  have HA : Hid (∀ ds r2 b2 m r3 b3 fs r4 b4, Im.eMany Im.eTxt 4 n (r1, b1) = (ds, (r2, b2)) → Im.eNum (r2, b2) = (m, (r3, b3)) → Im.eMany Im.eFile 12 m (r3, b3) = (fs, (r4, b4)) → Im.eArch s = (⟨ds, fs⟩, (r4, b4))) := fun ds r2 b2 m r3 b3 fs r4 b4 k1 k2 k3 => Im.eArch_at (by rw [hr]; exact h0) k1 k2 k3
  have HN : Hid (∀ a r b, Im.eArch s = (a, (r, b)) → (b = true ∨ Ar.chk a ≠ 0 ∨ Im.img a ≠ s) → ∀ w', Below w.heap.size w w' → AfSaid (Im.frmA s) (Im.frmB s) w (.returned (.tuple #[.agg #[.slice none 0 0, .slice none 0 0], .bool false])) w') := fun a r b k1 k2 w' k3 => by
    obtain ⟨e1, e2⟩ := Im.frm_bad k1 k2
    rw [e1, e2]
    exact af_nil k3
  have HY : Hid (∀ a, Ar.chk a = 0 → Im.img a = s → ∀ w' ad cd af cf, ArV w' ad af a → Below w.heap.size w w' → AfSaid (Im.frmA s) (Im.frmB s) w (.returned (.tuple #[.agg #[.slice ad a.dicts.length cd, .slice af a.files.length cf], .bool true])) w') := fun a k1 k2 w' ad cd af cf k3 k4 => by
    obtain ⟨e1, e2⟩ := Im.frm_good k1 k2
    rw [e1, e2]
    exact ⟨ad, cd, af, cf, rfl, k3, k4⟩
  generalize AfSaid (Im.frmA s) (Im.frmB s) w = Q at *
  have C0 := fun w' h => eyeNum_any r0 false (w.heap.size + 2) w' h (by omega)
  simp only [h0] at C0
  clear h0
  have XB := Bx.new w (.slice none 0 0) (.slice none 0 0)
  have B1 := alloc_below w (.cells #[.slice none 0 0, .slice none 0 0] 25 (0, 0))
  have hsz : (w.alloc (.cells #[.slice none 0 0, .slice none 0 0] 25 (0, 0))).heap.size = w.heap.size + 1 := by simp
  have S0 := CpS.start (w.alloc (.cells #[.slice none 0 0, .slice none 0 0] 25 (0, 0))) (w.heap.size + 1) (by omega) 25
  have G2 := alloc_below (w.alloc (.cells #[.slice none 0 0, .slice none 0 0] 25 (0, 0))) (.cells #[.slice none 0 0, .slice none 0 0] 25 (0, 0))
  have B2 := bch B1 G2 (Nat.le_refl _)
  have XB2 := XB.next G2
  rw [hsz] at S0
  have hsz2 : ((w.alloc (.cells #[.slice none 0 0, .slice none 0 0] 25 (0, 0))).alloc (.cells #[.slice none 0 0, .slice none 0 0] 25 (0, 0))).heap.size = w.heap.size + 2 := by simp
  have G3 := alloc_below ((w.alloc (.cells #[.slice none 0 0, .slice none 0 0] 25 (0, 0))).alloc (.cells #[.slice none 0 0, .slice none 0 0] 25 (0, 0))) (.cells #[.string r0, .bool false] 108 (0, 0))
  have E0 := Ey.new ((w.alloc (.cells #[.slice none 0 0, .slice none 0 0] 25 (0, 0))).alloc (.cells #[.slice none 0 0, .slice none 0 0] 25 (0, 0))) 108 r0 false
  rw [hsz2] at E0
  have T0 : ES w (((w.alloc (.cells #[.slice none 0 0, .slice none 0 0] 25 (0, 0))).alloc (.cells #[.slice none 0 0, .slice none 0 0] 25 (0, 0))).alloc (.cells #[.string r0, .bool false] 108 (0, 0))) (.slice none 0 0) (.slice none 0 0) 0 0 [] [] r0 false := by
    have c := S0.below G3
    exact ⟨⟨c.c0, c.c1, c.f0, c.f1, c.o1, c.o2, c.ne, c.a1, c.a2, c.hC, c.hb, Below.refl _ _⟩, bch B2 G3 (Nat.le_refl _), E0, XB2.next G3, by simp [Value.ownBlock], by simp [Value.ownBlock]⟩
  clear XB B1 S0 G2 B2 XB2 G3 E0 hsz hsz2
  have h5i : (5 : Int) ≤ (s.size : Int) := by omega
  have d5 : decide ((s.size : Int) < 5) = false := decide_eq_false (by omega)
  have d5' : decide (s.size < 5) = false := decide_eq_false (by omega)
  go_enter Tryz.func35, Tryz.ntmps35
  go_wp2_with fail
  clear d5 d5' hPe
  generalize (((w.alloc (.cells #[.slice none 0 0, .slice none 0 0] 25 (0, 0))).alloc (.cells #[.slice none 0 0, .slice none 0 0] 25 (0, 0))).alloc (.cells #[.string r0, .bool false] 108 (0, 0))) = w0 at *
  refine (C0 _ T0.e).mono ?_
  rintro e w1 ⟨rfl, G, E1⟩
  have T1 := T0.on G E1
  clear C0 T0 G E1
  go_wp2_with fail
  go_loopw [6] (fun i wr => ∃ (m k : Nat) (v1 : Value) (ds : List ByteArray) (r : ByteArray) (b : Bool), Hid (m + k = n) ∧ i = .int .i64 m ∧ Hid (Im.eMany Im.eTxt 4 k (r1, b1) = (ds, (r, b))) ∧ Hid (Im.Lt 16384 ds) ∧ r.size ≤ 16384 ∧ ES w wr v1 (.slice none 0 0) ds.length 0 (ds.map Value.string) [] r b) (fun i _ => (intOf i).toNat)
  case atStart => exact ⟨n, 0, _, [], r1, b1, rfl, rfl, rfl, (fun _ h => by cases h), by omega, T1⟩
  case round =>
    clear T1
    obtain ⟨m, k, v1, ds, r, b, HK, rfl, HM, HL, hrz, T2⟩ := hrel
    have hdl : ds.length ≤ 5 := by have := (Im.eMany_len Im.eTxt 4 (r1, b1) k).2; rw [HM.out] at this; exact this
    obtain ⟨x1, c1, rfl, _⟩ := own_slice T2.cp.o1
    obtain ⟨gq, hgq⟩ : ∃ gq : Bool, Hid ((decide (0 < m) && (!b && decide (ds.length ≤ 4))) = gq) := ⟨_, rfl⟩
    have hm9 : m ≤ 2147483647 := by have := HK.out; omega
    go_upto_region 6 with fail
    go_cut [38] from 24 to 47 (fun c wx => c = .bool gq ∧ wx = wr)
    case first =>
      have y0 := T2.cp.c0
      have z1 := T2.e.c1
      clear T2 HM HL HA HN HY
      generalize ds.length = D at *
      have HG := hgq.out
      clear hgq
      by_cases hm : 0 < m
      · have d1 : decide ((m : Int) > 0) = true := decide_eq_true (by omega)
        have d1' : decide (0 < m) = true := decide_eq_true hm
        have d1'' : decide ((0 : Int) < (m : Int)) = true := decide_eq_true (by omega)
        rw [d1', Bool.true_and] at HG
        cases b with
        | true =>
          subst HG
          go_wp2_with fail
          go_meet
          exact ⟨rfl, rfl⟩
        | false =>
          by_cases hl : D ≤ 4
          · have d2 : decide ((D : Int) ≤ 4) = true := decide_eq_true (by omega)
            have d2' : decide (D ≤ 4) = true := decide_eq_true hl
            rw [d2'] at HG
            subst HG
            go_wp2_with fail
            go_meet
            exact ⟨rfl, rfl⟩
          · have d2 : decide ((D : Int) ≤ 4) = false := decide_eq_false (by omega)
            have d2' : decide (D ≤ 4) = false := decide_eq_false hl
            rw [d2'] at HG
            subst HG
            go_wp2_with fail
            go_meet
            exact ⟨rfl, rfl⟩
      · have d1 : decide ((m : Int) > 0) = false := decide_eq_false (by omega)
        have d1' : decide (0 < m) = false := decide_eq_false hm
        have d1'' : decide ((0 : Int) < (m : Int)) = false := decide_eq_false (by omega)
        rw [d1', Bool.false_and] at HG
        subst HG
        go_wp2_with fail
        go_meet
        exact ⟨rfl, rfl⟩
    case rest =>
      obtain ⟨rfl, rfl⟩ := hcut
      cases gq with
      | true =>
        obtain ⟨hm, rfl, hl⟩ : 0 < m ∧ b = false ∧ ds.length ≤ 4 := by simpa using hgq.out
        obtain ⟨m, rfl⟩ : ∃ m', m = m' + 1 := ⟨m - 1, by omega⟩
        obtain ⟨t, q, c, ht⟩ : ∃ t q c, Im.eTxt (r, false) = (t, (q, c)) := ⟨_, _, _, rfl⟩
        obtain ⟨l1, l2⟩ := Im.eTxt_le r false
        rw [ht] at l1 l2
        simp only at l1 l2
        have HM' : Hid (Im.eMany Im.eTxt 4 (k + 1) (r1, b1) = (ds ++ [t], (q, c))) := by
          have h9 := Im.eMany_go HM.out hl
          rw [ht] at h9
          exact h9
        have HL' : Hid (Im.Lt 16384 (ds ++ [t])) := HL.out.snoc (by omega)
        have HK' : Hid (m + (k + 1) = n) := by show _ = _; have := HK.out; omega
        have HS : Hid ((ds ++ [t]).length = ds.length + 1 ∧ (ds ++ [t]).map Value.string = ds.map Value.string ++ [.string t]) := ⟨by simp, by simp⟩
        have T3 := T2.below ((Below.refl _ _).drew)
        have C := eyeText_any r false (w.heap.size + 2) wc.drew T3.e (by omega)
        rw [ht] at C
        simp only at C
        have c0 := T3.cp.c0
        have k0 := T2.cp.c0
        clear HM HL ht HK hgq HA HN HY
        generalize ds.length = D at *
        generalize ds.map Value.string = XS at *
        have hDi : (D : Int) ≤ 5 := by omega
        go_wp2_with fail
        go_region_law (first
          | (refine step_append_lies _ rfl _ _ 22 rfl (w.heap.size + 1) 9 i0 (.string ⟨#[]⟩) 1 16 Tryz.underlying22 hi hz0 hz1 hz2 rfl (by decide) (.slice x1 D c1) _ _ rfl (T5.cp.o1.alloc _) ⟨w4.heap.size, 0, none⟩ 1 1 [.string t] rfl rfl (cell_one_new _ _ _) (by simp [Value.oneCell']) (by decide) (by unfold maxLen; omega) (by omega) (by simp; omega) _ rfl ?_; intro g cp w5 hown5 hgrow5 hat5 hlt5; obtain ⟨⟨qq1, qq2⟩, T6⟩ := T5.put1 hgrow5 hown5 hat5; clear hgrow5 hown5 hat5 hlt5)
          | (go_simp; go_at_call 78; refine C.mono ?_; rintro e w4 ⟨rfl, G, E4⟩; have T5 := T3.on G E4; have c2 := T5.cp.c0; have c3 : ∀ o, (w4.alloc o).cell? ⟨w.heap.size + 1, 0, none⟩ = some (.slice x1 D c1) := (fun o => (World.cell?_alloc_lt _ _ _ (World.block_lt_of_cell? w4 _ c2)).trans c2); have hb4 := T5.cp.hb))
        all_goals
          clear T2 T3 T5 c2 c3 hb4 C c0 k0 qq1 qq2 G E4
          generalize (w5.setCell ⟨w.heap.size + 1, 0, none⟩ (.slice (some ⟨g, 0, none⟩) (D + 1) cp)) = wq at *
          go_wp2_with fail
          go_roundw
          case rel => exact ⟨m, k + 1, _, ds ++ [t], q, c, HK', by go_num, HM', HL', by omega, by rw [HS.out.1, HS.out.2]; exact T6⟩
          case measure => simp [intOf]
      | false =>
        have hx : k = n ∨ b = true ∨ 4 < ds.length := by
          have h9 := hgq.out
          have h8 := HK.out
          by_cases hm : 0 < m
          · cases b with
            | true => exact .inr (.inl rfl)
            | false =>
              refine .inr (.inr ?_)
              simp [hm] at h9
              exact h9
          · exact .inl (by omega)
        have HE1 : Hid (Im.eMany Im.eTxt 4 n (r1, b1) = (ds, (r, b))) := Im.eMany_fin HM.out (by have := HK.out; omega) hx
        obtain ⟨N, r3, b3, h2⟩ : ∃ N r3 b3, Im.eNum (r, b) = (N, (r3, b3)) := ⟨_, _, _, rfl⟩
        obtain ⟨ln2, lr2⟩ := Im.eNum_le r b
        rw [h2] at ln2 lr2
        simp only at ln2 lr2
        have C := eyeNum_any r b (w.heap.size + 2) wc T2.e (by omega)
        rw [h2] at C
        simp only at C
        have HA2 : Hid (∀ fs r4 b4, Im.eMany Im.eFile 12 N (r3, b3) = (fs, (r4, b4)) → Im.eArch s = (⟨ds, fs⟩, (r4, b4))) := fun fs r4 b4 k3 => HA.out _ _ _ _ _ _ _ _ _ HE1.out h2 k3
        clear HM HK hgq h2 HE1 HA hx
        obtain ⟨D, HD⟩ : ∃ D, Hid (ds.length = D) := ⟨_, rfl⟩
        obtain ⟨XS, HX⟩ : ∃ XS, Hid (ds.map Value.string = XS) := ⟨_, rfl⟩
        rw [HD.out, HX.out] at T2
        rw [HD.out] at hdl
        go_wp2_with fail
        refine C.mono ?_
        rintro e w1 ⟨rfl, G, E1⟩
        have T3 := T2.on G E1
        clear C T2 G E1
        go_wp2_with fail
        go_loopw [7] (fun i wr => ∃ (m k : Nat) (v2 : Value) (fs : List Ar.F) (r : ByteArray) (b : Bool), Hid (m + k = N) ∧ i = .int .i64 m ∧ Hid (Im.eMany Im.eFile 12 k (r3, b3) = (fs, (r, b))) ∧ Hid (Im.Lf 16384 fs) ∧ r.size ≤ 16384 ∧ ES w wr (.slice x1 D c1) v2 D fs.length XS (fcs fs) r b) (fun i _ => (intOf i).toNat)
        case atStart => exact ⟨N, 0, _, [], r3, b3, rfl, rfl, rfl, (fun _ h => by cases h), by omega, T3⟩
        case round =>
          clear T3
          obtain ⟨m, k, v2, fs, r, b, HK, rfl, HM, HF, hrz, T4⟩ := hrel
          have hfl : fs.length ≤ 13 := by have := (Im.eMany_len Im.eFile 12 (r3, b3) k).2; rw [HM.out] at this; exact this
          obtain ⟨x2, c2, rfl, _⟩ := own_slice T4.cp.o2
          obtain ⟨gq, hgq⟩ : ∃ gq : Bool, Hid ((decide (0 < m) && (!b && decide (fs.length ≤ 12))) = gq) := ⟨_, rfl⟩
          have hm9 : m ≤ 2147483647 := by have := HK.out; omega
          go_upto_region 10 with fail
          go_cut [64] from 50 to 87 (fun c wx => c = .bool gq ∧ wx = wr)
          case first =>
            have y0 := T4.cp.c1
            have z1 := T4.e.c1
            clear T4 HM HF HA2 HN HY HL
            generalize fs.length = F at *
            have HG := hgq.out
            clear hgq
            by_cases hm : 0 < m
            · have d1 : decide ((m : Int) > 0) = true := decide_eq_true (by omega)
              have d1' : decide (0 < m) = true := decide_eq_true hm
              have d1'' : decide ((0 : Int) < (m : Int)) = true := decide_eq_true (by omega)
              rw [d1', Bool.true_and] at HG
              cases b with
              | true =>
                subst HG
                go_wp2_with fail
                go_meet
                exact ⟨rfl, rfl⟩
              | false =>
                by_cases hl : F ≤ 12
                · have d2 : decide ((F : Int) ≤ 12) = true := decide_eq_true (by omega)
                  have d2' : decide (F ≤ 12) = true := decide_eq_true hl
                  rw [d2'] at HG
                  subst HG
                  go_wp2_with fail
                  go_meet
                  exact ⟨rfl, rfl⟩
                · have d2 : decide ((F : Int) ≤ 12) = false := decide_eq_false (by omega)
                  have d2' : decide (F ≤ 12) = false := decide_eq_false hl
                  rw [d2'] at HG
                  subst HG
                  go_wp2_with fail
                  go_meet
                  exact ⟨rfl, rfl⟩
            · have d1 : decide ((m : Int) > 0) = false := decide_eq_false (by omega)
              have d1' : decide (0 < m) = false := decide_eq_false hm
              have d1'' : decide ((0 : Int) < (m : Int)) = false := decide_eq_false (by omega)
              rw [d1', Bool.false_and] at HG
              subst HG
              go_wp2_with fail
              go_meet
              exact ⟨rfl, rfl⟩
          case rest =>
            obtain ⟨rfl, rfl⟩ := hcut
            cases gq with
            | true =>
              obtain ⟨hm, rfl, hl⟩ : 0 < m ∧ b = false ∧ fs.length ≤ 12 := by simpa using hgq.out
              obtain ⟨m, rfl⟩ : ∃ m', m = m' + 1 := ⟨m - 1, by omega⟩
              obtain ⟨nm, q1, e1, h0⟩ : ∃ t q c, Im.eTxt (r, false) = (t, (q, c)) := ⟨_, _, _, rfl⟩
              obtain ⟨d, q2, e2, h1⟩ : ∃ t q c, Im.eNum (q1, e1) = (t, (q, c)) := ⟨_, _, _, rfl⟩
              obtain ⟨z, q3, e3, h2⟩ : ∃ t q c, Im.eNum (q2, e2) = (t, (q, c)) := ⟨_, _, _, rfl⟩
              obtain ⟨u, q4, e4, h3⟩ : ∃ t q c, Im.eNum (q3, e3) = (t, (q, c)) := ⟨_, _, _, rfl⟩
              obtain ⟨bk, q5, e5, h4⟩ : ∃ t q c, Im.eTxt (q4, e4) = (t, (q, c)) := ⟨_, _, _, rfl⟩
              have g0 := Im.eTxt_le r false
              have g1 := Im.eNum_le q1 e1
              have g2 := Im.eNum_le q2 e2
              have g3 := Im.eNum_le q3 e3
              have g4 := Im.eTxt_le q4 e4
              rw [h0] at g0
              rw [h1] at g1
              rw [h2] at g2
              rw [h3] at g3
              rw [h4] at g4
              simp only at g0 g1 g2 g3 g4
              have K0 := eyeText_any r false (w.heap.size + 2) wc T4.e (by omega)
              have K1 := fun w' h => eyeNum_any q1 e1 (w.heap.size + 2) w' h (by omega)
              have K2 := fun w' h => eyeNum_any q2 e2 (w.heap.size + 2) w' h (by omega)
              have K3 := fun w' h => eyeNum_any q3 e3 (w.heap.size + 2) w' h (by omega)
              have K4 := fun w' h => eyeText_any q4 e4 (w.heap.size + 2) w' h (by omega)
              simp only [h0, h1, h2, h3, h4] at K0 K1 K2 K3 K4
              have HM' : Hid (Im.eMany Im.eFile 12 (k + 1) (r3, b3) = (fs ++ [⟨nm, (d : Nat), (z : Nat), (u : Nat), bk⟩], (q5, e5))) := by
                have h9 := Im.eMany_go HM.out hl
                rw [Im.eFile_at h0 h1 h2 h3 h4] at h9
                exact h9
              have HF' : Hid (Im.Lf 16384 (fs ++ [⟨nm, (d : Nat), (z : Nat), (u : Nat), bk⟩])) := HF.out.snoc ⟨by show nm.size ≤ _; omega, by show bk.size ≤ _; omega⟩
              have HK' : Hid (m + (k + 1) = N) := by show _ = _; have := HK.out; omega
              have HS : Hid ((fs ++ [(⟨nm, (d : Nat), (z : Nat), (u : Nat), bk⟩ : Ar.F)]).length = fs.length + 1 ∧ fcs (fs ++ [⟨nm, (d : Nat), (z : Nat), (u : Nat), bk⟩]) = fcs fs ++ [.string nm, .int .i64 (d : Nat), .int .i64 (z : Nat), .int .i64 (u : Nat), .string bk]) := ⟨by simp, by rw [fcs_append]; rfl⟩
              have hq5 : q5.size ≤ 16384 := by omega
              clear h0 h1 h2 h3 h4 HM HF HK hgq HA2 HN HY HL g0 g1 g2 g3 g4
              generalize (d : Int) = di at *
              generalize (z : Int) = zi at *
              generalize (u : Int) = ui at *
              generalize hfs : fs ++ [(⟨nm, di, zi, ui, bk⟩ : Ar.F)] = fs' at *
              clear hfs
              obtain ⟨F, hF⟩ : ∃ F, fs.length = F := ⟨_, rfl⟩
              simp only [hF] at *
              clear hF
              generalize fcs fs = FS at *
              go_wp2_with fail
              refine K0.mono ?_
              rintro e w4 ⟨rfl, G, E4⟩
              have T5 := T4.on G E4
              obtain ⟨ne1, ne2⟩ := T5.new1
              have hbF : w.heap.size + 2 < w4.heap.size := T5.e.lt
              have GA := alloc_below w4 (.cells #[.string nm, .int .i64 0, .int .i64 0, .int .i64 0, .string ⟨#[]⟩] 46 (0, 0))
              have T6 := T5.below GA
              have F6 := FB.new w4 46 (.string nm) (.int .i64 0) (.int .i64 0) (.int .i64 0) (.string ⟨#[]⟩)
              clear K0 T4 T5 G E4 GA
              go_wp2_with fail
              generalize (w4.alloc (.cells #[.string nm, .int .i64 0, .int .i64 0, .int .i64 0, .string ⟨#[]⟩] 46 (0, 0))) = w5 at *
              generalize w4.heap.size = bF at *
              refine (K1 _ T6.e).mono ?_
              rintro e y1 ⟨rfl, G, E4⟩
              have T7 := (T6.on G E4).far hbF ne1 ne2 1 (.int .i64 di)
              have F7 := F6.on G (by omega)
              have F8 := F7.set 1 (by omega) (.int .i64 di)
              have x9 := F7.c 1 (by omega)
              have z9 := F7.z 1 (by omega)
              simp only at x9
              clear K1 T6 F6 F7 G E4
              go_wp2_with fail
              clear x9 z9
              generalize (y1.setCell ⟨bF, 1, none⟩ (.int .i64 di)) = v1 at *
              have T6 := T7
              have F6 := F8
              clear T7 F8
              refine (K2 _ T6.e).mono ?_
              rintro e y2 ⟨rfl, G, E4⟩
              have T7 := (T6.on G E4).far hbF ne1 ne2 2 (.int .i64 zi)
              have F7 := F6.on G (by omega)
              have F8 := F7.set 2 (by omega) (.int .i64 zi)
              have x9 := F7.c 2 (by omega)
              have z9 := F7.z 2 (by omega)
              simp only at x9
              clear K2 T6 F6 F7 G E4
              go_wp2_with fail
              clear x9 z9
              generalize (y2.setCell ⟨bF, 2, none⟩ (.int .i64 zi)) = v2 at *
              have T6 := T7
              have F6 := F8
              clear T7 F8
              refine (K3 _ T6.e).mono ?_
              rintro e y3 ⟨rfl, G, E4⟩
              have T7 := (T6.on G E4).far hbF ne1 ne2 3 (.int .i64 ui)
              have F7 := F6.on G (by omega)
              have F8 := F7.set 3 (by omega) (.int .i64 ui)
              have x9 := F7.c 3 (by omega)
              have z9 := F7.z 3 (by omega)
              simp only at x9
              clear K3 T6 F6 F7 G E4
              go_wp2_with fail
              clear x9 z9
              generalize (y3.setCell ⟨bF, 3, none⟩ (.int .i64 ui)) = v3 at *
              have T6 := T7
              have F6 := F8
              clear T7 F8
              refine (K4 _ T6.e).mono ?_
              rintro e y4 ⟨rfl, G, E4⟩
              have T7 := (T6.on G E4).far hbF ne1 ne2 4 (.string bk)
              have F7 := F6.on G (by omega)
              have F8 := F7.set 4 (by omega) (.string bk)
              have x9 := F7.c 4 (by omega)
              have z9 := F7.z 4 (by omega)
              simp only at x9
              clear K4 T6 F6 F7 G E4
              go_upto_region 17 with fail
              clear x9 z9
              generalize (y4.setCell ⟨bF, 4, none⟩ (.string bk)) = v4 at *
              have T6 := T7
              have F6 := F8
              clear T7 F8
              have b0 : v4.cell? ⟨bF, 0, none⟩ = some (.string nm) := F6.c 0 (by omega)
              have b1 : v4.cell? ⟨bF, 1, none⟩ = some (.int .i64 di) := F6.c 1 (by omega)
              have b2 : v4.cell? ⟨bF, 2, none⟩ = some (.int .i64 zi) := F6.c 2 (by omega)
              have b3 : v4.cell? ⟨bF, 3, none⟩ = some (.int .i64 ui) := F6.c 3 (by omega)
              have b4 : v4.cell? ⟨bF, 4, none⟩ = some (.string bk) := F6.c 4 (by omega)
              have c1 := T6.cp.c1
              have hb3 := T6.cp.hb
              clear F6
              go_wp2_with (first
                | (at_builtin; go_must (refine wpList_append_lies _ rfl _ _ 23 rfl (w.heap.size + 1) 46 j0 (.agg #[.string ⟨#[]⟩, .int .i64 0, .int .i64 0, .int .i64 0, .string ⟨#[]⟩]) 5 56 Tryz.underlying23 gi gz0 gz1 gz2 rfl (by decide) (.slice x2 F c2) _ _ rfl (T6.cp.o2.alloc _) ⟨v4.heap.size, 0, none⟩ 1 1 [.string nm, .int .i64 di, .int .i64 zi, .int .i64 ui, .string bk] rfl rfl (news5 _ _ _ _ _ _ _) (one5 _ _ _ _ _) (by decide) (by unfold maxLen; omega) (by omega) (by simp; omega) _ rfl ?_; intro g cp w7 hown7 hgrow7 hat7 hlt7; obtain ⟨⟨qq1, qq2⟩, T10⟩ := T6.put2 hgrow7 hown7 hat7; clear hgrow7 hown7 hat7 hlt7))
                | fail)
              go_roundw
              case rel => exact ⟨m, k + 1, _, fs', q5, e5, HK', by go_num, HM', HF', hq5, by rw [HS.out.1, HS.out.2]; exact T10⟩
              case measure => simp [intOf]
            | false =>
              have hx : k = N ∨ b = true ∨ 12 < fs.length := by
                have h9 := hgq.out
                have h8 := HK.out
                by_cases hm : 0 < m
                · cases b with
                  | true => exact .inr (.inl rfl)
                  | false =>
                    refine .inr (.inr ?_)
                    simp [hm] at h9
                    exact h9
                · exact .inl (by omega)
              have hE := hid_of (HA2.out _ _ _ (Im.eMany_fin HM.out (by have := HK.out; omega) hx))
              have hsA := sane_eye HL.out HF.out (by omega) (by rw [HD.out]; exact hdl) hfl
              have hAO : ArOwn (w.heap.size + 1) wc (.slice x1 D c1) (.slice x2 fs.length c2) ⟨ds, fs⟩ := ⟨by show World.ownsRow _ _ _ _ _ ds.length (ds.map Value.string); rw [HD.out, HX.out]; exact T4.cp.o1, T4.cp.o2, T4.cp.ne⟩
              have hv := hAO.arv
              have CK := checkArch_any x1 x2 c1 c2 ⟨ds, fs⟩ wc hv hsA
              unfold av at CK
              simp only [HD.out] at CK
              have HI : Hid (Ar.chk ⟨ds, fs⟩ = 0 → ∀ w', Below wc.heap.size wc w' → Calls Tryz.prog 73 #[.agg #[.slice x1 D c1, .slice x2 fs.length c2]] w' fun e w2 => e = .returned (.string (Im.img ⟨ds, fs⟩)) ∧ Below w'.heap.size w' w2) := fun h0 w' h9 => by
                have h8 := imageOf_any x1 x2 c1 c2 ⟨ds, fs⟩ w' (hv.below h9) h0
                unfold av at h8
                simp only [HD.out] at h8
                exact h8
              have HN2 : Hid ((b = true ∨ Ar.chk ⟨ds, fs⟩ ≠ 0 ∨ Im.img ⟨ds, fs⟩ ≠ s) → ∀ w', Below w.heap.size w w' → Q (.returned (.tuple #[.agg #[.slice none 0 0, .slice none 0 0], .bool false])) w') := fun h9 => HN.out _ _ _ hE.out h9
              have HY2 : Hid (Ar.chk ⟨ds, fs⟩ = 0 → Im.img ⟨ds, fs⟩ = s → ∀ w', ArV w' x1 x2 ⟨ds, fs⟩ → Below w.heap.size w w' → Q (.returned (.tuple #[.agg #[.slice x1 D c1, .slice x2 fs.length c2], .bool true])) w') := fun h1 h2 w' h3 h4 => by
                have h8 := HY.out ⟨ds, fs⟩ h1 h2 w' x1 c1 x2 c2 h3 h4
                simp only [HD.out] at h8
                exact h8
              have OA : Hid (∀ w', Below wc.heap.size wc w' → ArOwn (w.heap.size + 1) w' (.slice x1 D c1) (.slice x2 fs.length c2) ⟨ds, fs⟩) := fun w' h9 => hAO.next h9
              clear HN HY hE HA2 HM HK hgq hx hsA hv hAO HF HL HX
              generalize Ar.chk ⟨ds, fs⟩ = ck at *
              generalize Im.img ⟨ds, fs⟩ = im at *
              generalize fs.length = F at *
              generalize fcs fs = FS at *
              have z1 := T4.e.c1
              cases b with
              | true =>
                clear CK HI HY2 OA
                have X9 := T4.x.set (u := .slice none 0 0) (v := .slice none 0 0)
                have hq := HN2.out (.inl rfl) _ (below_set2 T4.g (b := w.heap.size) (Nat.le_refl _) (.slice none 0 0) (.slice none 0 0))
                have x0 := T4.x.c0
                have x1' := T4.x.c1
                have f0 := T4.x.f0
                have f1 := T4.x.f1
                clear T4 HN2
                go_wp2_with fail
                clear x0 x1' f0 f1
                have x0 := X9.c0
                have x1' := X9.c1
                generalize ((wc.setCell ⟨w.heap.size, 0, none⟩ (.slice none 0 0)).setCell ⟨w.heap.size, 1, none⟩ (.slice none 0 0)) = wz at *
                exact bodyPost_ret (v := (.tuple #[.agg #[.slice none 0 0, .slice none 0 0], .bool false])) (by simp [results, Tryz.results35, go_sem, x0, x1']) rfl hq
              | false =>
                have y0 := T4.cp.c0
                have y1 := T4.cp.c1
                go_wp2_with fail
                clear y0 y1
                refine CK.mono ?_
                rintro e w5 ⟨rfl, G⟩
                have T5 := T4.below G
                clear CK T4 z1
                by_cases hk : ck = 0
                · have dk : (ck == 0) = true := by simpa using hk
                  have CI := HI.out hk _ G
                  have y0 := T5.cp.c0
                  have y1 := T5.cp.c1
                  subst hk
                  clear HI
                  go_wp2_with fail
                  clear y0 y1
                  refine CI.mono ?_
                  rintro e w6 ⟨rfl, G6⟩
                  have T6 := T5.below G6
                  have O6 := OA.out _ (bch G G6 (Nat.le_refl _))
                  clear CI T5 OA G G6
                  have hbe := ba_beq im s
                  by_cases him : im = s
                  · rw [decide_eq_true him] at hbe
                    have y0 := T6.cp.c0
                    have y1 := T6.cp.c1
                    have X9 := T6.x.set (u := .slice x1 D c1) (v := .slice x2 F c2)
                    have hq := HY2.out trivial him _ (O6.set2 (b := w.heap.size) (by omega) (.slice x1 D c1) (.slice x2 F c2)).arv (below_set2 T6.g (b := w.heap.size) (Nat.le_refl _) (.slice x1 D c1) (.slice x2 F c2))
                    have x0 := T6.x.c0
                    have x1' := T6.x.c1
                    have f0 := T6.x.f0
                    have f1 := T6.x.f1
                    clear T6 O6 HY2 HN2 him
                    go_wp2_with fail
                    clear x0 x1' f0 f1 y0 y1
                    have x0 := X9.c0
                    have x1' := X9.c1
                    generalize ((w6.setCell ⟨w.heap.size, 0, none⟩ (.slice x1 D c1)).setCell ⟨w.heap.size, 1, none⟩ (.slice x2 F c2)) = wz at *
                    exact bodyPost_ret (v := (.tuple #[.agg #[.slice x1 D c1, .slice x2 F c2], .bool true])) (by simp [results, Tryz.results35, go_sem, x0, x1']) rfl hq
                  · rw [decide_eq_false him] at hbe
                    clear O6 HY2
                    have X9 := T6.x.set (u := .slice none 0 0) (v := .slice none 0 0)
                    have hq := HN2.out (.inr (.inr him)) _ (below_set2 T6.g (b := w.heap.size) (Nat.le_refl _) (.slice none 0 0) (.slice none 0 0))
                    have x0 := T6.x.c0
                    have x1' := T6.x.c1
                    have f0 := T6.x.f0
                    have f1 := T6.x.f1
                    clear T6 HN2
                    go_wp2_with fail
                    clear x0 x1' f0 f1
                    have x0 := X9.c0
                    have x1' := X9.c1
                    generalize ((w6.setCell ⟨w.heap.size, 0, none⟩ (.slice none 0 0)).setCell ⟨w.heap.size, 1, none⟩ (.slice none 0 0)) = wz at *
                    exact bodyPost_ret (v := (.tuple #[.agg #[.slice none 0 0, .slice none 0 0], .bool false])) (by simp [results, Tryz.results35, go_sem, x0, x1']) rfl hq
                · have dk : (ck == 0) = false := by simpa using hk
                  clear HI HY2 OA
                  have X9 := T5.x.set (u := .slice none 0 0) (v := .slice none 0 0)
                  have hq := HN2.out (.inr (.inl hk)) _ (below_set2 T5.g (b := w.heap.size) (Nat.le_refl _) (.slice none 0 0) (.slice none 0 0))
                  have x0 := T5.x.c0
                  have x1' := T5.x.c1
                  have f0 := T5.x.f0
                  have f1 := T5.x.f1
                  clear T5 HN2
                  go_wp2_with fail
                  clear x0 x1' f0 f1
                  have x0 := X9.c0
                  have x1' := X9.c1
                  generalize ((w5.setCell ⟨w.heap.size, 0, none⟩ (.slice none 0 0)).setCell ⟨w.heap.size, 1, none⟩ (.slice none 0 0)) = wz at *
                  exact bodyPost_ret (v := (.tuple #[.agg #[.slice none 0 0, .slice none 0 0], .bool false])) (by simp [results, Tryz.results35, go_sem, x0, x1']) rfl hq
theorem archiveFrom_any (s : ByteArray) (w : World) (hs : s.size ≤ 16384) :
    Calls Tryz.prog 35 #[.string s] w fun e w' => AfSaid (Im.frmA s) (Im.frmB s) w e w' := by
  by_cases h : s.data.toList.take 5 = Im.mrk
  · have h5 : 5 ≤ s.size := by
      have h9 := congrArg List.length h
      rw [List.length_take, ← Im.size_len] at h9
      have h2 : Im.mrk.length = 5 := rfl
      omega
    refine archiveFrom_core s _ _ w hs h5 rfl rfl ?_
    rw [ByteArray.toList_eq, Im.ext_take, h]
    rfl
  · exact archiveFrom_short s w h
end Go.Proofs.YtbjbjbpgmojcbabGreat
namespace Go.Proofs.YtbjbjbpgmojcbabGreat
open Go.RowKit
set_option maxRecDepth 4000 in
set_option maxHeartbeats 2000000 in
theorem saveOf_any (ad af : Option Addr) (cd cf : Nat) (a : Ar.A) (w : World) (h : ArV w ad af a) (hs : SaneA a) :
    Calls Tryz.prog 32 #[av ad cd af cf a] w fun e w' => e = .returned (.tuple #[.string (Im.savT a), .int .i64 (Im.savE a)]) ∧ Below w.heap.size w w' := by
  have B1 := alloc_below w (.cells #[.slice ad a.dicts.length cd, .slice af a.files.length cf] 25 (0, 0))
  have XA := Bx.new w (.slice ad a.dicts.length cd) (.slice af a.files.length cf)
  have CK := checkArch_any ad af cd cf a _ (h.below B1) hs
  by_cases hk : Ar.chk a = 0
  · have CI : Hid (∀ w', Below w.heap.size w w' → Calls Tryz.prog 73 #[av ad cd af cf a] w' fun e w2 => e = .returned (.string (Im.img a)) ∧ Below w'.heap.size w' w2) := fun w' h9 => imageOf_any ad af cd cf a w' (h.below h9) hk
    rw [hk] at CK
    have e0 : Im.savE a = if 16384 < (Im.img a).size then 2 else 0 := by unfold Im.savE; rw [if_neg (by simpa using hk)]
    have e9 : Im.savT a = if 16384 < (Im.img a).size then ⟨#[]⟩ else Im.img a := by
      unfold Im.savT
      rw [e0]
      by_cases hb : 16384 < (Im.img a).size
      · rw [if_pos hb, if_neg (by decide), if_pos hb]
      · rw [if_neg hb, if_pos rfl, if_neg hb]
    rw [e0, e9]
    clear e0 e9 hk h hs
    unfold av at CK CI ⊢
    generalize Im.img a = im at *
    generalize a.dicts.length = D at *
    generalize a.files.length = N at *
    by_cases hb : 16384 < im.size
    · rw [if_pos hb, if_pos hb]
      have d1 : decide ((16384 : Int) < (im.size : Int)) = true := decide_eq_true (by omega)
      go_enter Tryz.func32, Tryz.ntmps32
      go_wp2_with fail
      refine CK.mono ?_
      rintro e w1 ⟨rfl, G⟩
      have B2 := bch B1 G (Nat.le_refl _)
      have X2 := XA.next G
      have x0 := X2.c0
      have x1 := X2.c1
      go_wp2_with fail
      refine (CI.out _ B2).mono ?_
      rintro e w2 ⟨rfl, G2⟩
      go_wp2_with fail
      go_ret2
      exact ⟨rfl, bch B2 G2 (Nat.le_refl _)⟩
    · rw [if_neg hb, if_neg hb]
      have d1 : decide ((16384 : Int) < (im.size : Int)) = false := decide_eq_false (by omega)
      go_enter Tryz.func32, Tryz.ntmps32
      go_wp2_with fail
      refine CK.mono ?_
      rintro e w1 ⟨rfl, G⟩
      have B2 := bch B1 G (Nat.le_refl _)
      have X2 := XA.next G
      have x0 := X2.c0
      have x1 := X2.c1
      go_wp2_with fail
      refine (CI.out _ B2).mono ?_
      rintro e w2 ⟨rfl, G2⟩
      go_wp2_with fail
      go_ret2
      exact ⟨rfl, bch B2 G2 (Nat.le_refl _)⟩
  · have e1 : Im.savE a = Ar.chk a := by unfold Im.savE; rw [if_pos hk]
    have e2 : Im.savT a = ⟨#[]⟩ := by unfold Im.savT; rw [e1, if_neg hk]
    rw [e1, e2]
    have dk : (Ar.chk a == 0) = false := by simpa using hk
    unfold av at CK ⊢
    generalize Ar.chk a = ck at *
    generalize a.dicts.length = D at *
    generalize a.files.length = N at *
    clear h hs
    go_enter Tryz.func32, Tryz.ntmps32
    go_wp2_with fail
    refine CK.mono ?_
    rintro e w1 ⟨rfl, G⟩
    go_wp2_with fail
    go_ret2
    exact ⟨rfl, bch B1 G (Nat.le_refl _)⟩
end Go.Proofs.YtbjbjbpgmojcbabGreat
namespace Go.Proofs.YtbjbjbpgmojcbabGreat
open Go.ChangeShapes Go.WideShapes Go.RowKit Go.Deep
theorem weights_all {H : Type} {P : Program} {e : TypeId} {f : Nat → DataW H} {n i : Nat} (hi : i < n) {m : Nat} (h : m ∈ (f i).weights P e) : m ∈ DataW.weightsAll P e ((List.range n).map f) := by
  have gen : ∀ (l : List (DataW H)) (d : DataW H), d ∈ l → m ∈ d.weights P e → m ∈ DataW.weightsAll P e l := by
    intro l
    induction l with
    | nil => intro d h; simp at h
    | cons a l ih =>
      intro d hd hm
      rw [DataW.weightsAll, List.mem_append]
      rcases List.mem_cons.1 hd with rfl | hd
      · exact .inl hm
      · exact .inr (ih d hd hm)
  exact gen _ (f i) (List.mem_map.2 ⟨i, List.mem_range.2 hi, rfl⟩) h
theorem row_lt {W : World} {a : Addr} {n : Nat} {ps : List MemPlace} (h : ∀ x ∈ MemPlace.row a (n + 1) ++ ps, x.block < W.heap.size) : a.block < W.heap.size := by
  refine h (.cell a.block (a.off + 0)) ?_
  rw [List.mem_append]
  left
  exact List.mem_map.2 ⟨0, List.mem_range.2 (by omega), rfl⟩
end Go.Proofs.YtbjbjbpgmojcbabGreat
namespace Go.Proofs.YtbjbjbpgmojcbabGreat
open Go.ChangeShapes Go.WideShapes Go.RowKit Go.Deep
theorem tx_laid : laidOutB Tryz.prog = true := by kernel_rfl
theorem tx_cells : Tryz.prog.cellsOf 9 = 1 := by kernel_rfl
theorem tx_bytes : Tryz.prog.bytesOf 9 = 16 := by kernel_rfl
theorem open_texts {H : Type} {enc : TypeId × Value → H} {W : World} {a : Option Addr} {len cap fuel : Nat} {d : DataW H} {ps : List MemPlace}
    (hf : DataW.trod enc Tryz.prog W 0 (fun _ => true) true fuel 22 [.slice a len cap] = some (d, ps))
    (hsz : ∀ n ∈ d.weights Tryz.prog 22, n ≤ reachBytes) :
    ∃ l : List ByteArray, len = l.length ∧ TxSl W a l ∧ l.length ≤ 8796093022208 ∧ (∀ i, (Tr.xa l i).size ≤ 140737488355328) := by
  have lt : ∀ x ∈ ps, x.block < W.heap.size := DataW.trod_lt fuel _ _ _ hf
  rcases open_slice1 Tryz.underlying22 tx_cells hf with ⟨hcs, _⟩ | ⟨x, len', cap', m, n, V, D, Pl, hcs, _, hl, hm, hmm, hx, each⟩
  · simp at hcs
    obtain ⟨rfl, rfl, rfl⟩ := hcs
    exact ⟨[], rfl, .inl rfl, by simp, fun i => by show 0 ≤ _; omega⟩
  · simp at hcs
    obtain ⟨rfl, rfl, rfl⟩ := hcs
    simp only [if_true] at hmm
    subst hmm
    have hx1 := congrArg Prod.fst hx
    have hx2 := congrArg Prod.snd hx
    dsimp only at hx1 hx2
    rw [hx1] at hsz
    rw [hx2] at lt
    clear hx hx1 hx2 hf
    have key : ∀ i, i < m → ∃ q : ByteArray, W.cell? (x.add i) = some (.string q) ∧ D i = .lit (.string q.data.toList) := by
      intro i hi
      obtain ⟨h1, h2⟩ := each i hi
      obtain ⟨s, hs0, hy0, _⟩ := DataW.trod_string Tryz.underlying9 h2
      simp only [List.cons.injEq, and_true] at hs0
      rw [hs0] at h1
      exact ⟨s, h1, congrArg Prod.fst hy0⟩
    have : Inhabited ByteArray := ⟨⟨#[]⟩⟩
    obtain ⟨q, hq⟩ := choose_lt key
    have hlen : ((List.range len).map q).length = len := by simp
    have hxa : ∀ i, i < len → Tr.xa ((List.range len).map q) i = q i := fun i hi => by simp [Tr.xa, hi]
    refine ⟨(List.range len).map q, hlen.symm, ?_, ?_, ?_⟩
    · by_cases h0 : len = 0
      · left; simp [h0]
      · right
        obtain ⟨b, off, sp⟩ := x
        have hc0 := (hq 0 (by omega)).1
        have hsp : sp = none := by simpa [Addr.add] using World.cell?_spot hc0
        subst hsp
        have hb : b < W.heap.size := by
          rw [show m = (m - 1) + 1 by omega] at lt
          exact row_lt lt
        refine ⟨b, off, rfl, hb, fun i hi => ?_⟩
        rw [hlen] at hi
        rw [hxa i hi, ← (hq i (by omega)).1, add_plain]
    · rw [hlen]
      have := hsz ((((List.range len).map D).length + ((List.range (m - len)).map fun j => D (len + j)).length) * Tryz.prog.bytesOf 9) (by rw [DataW.weights, Tryz.underlying22]; exact List.mem_cons_self ..)
      rw [tx_bytes] at this
      simp [reachBytes] at this
      omega
    · intro i
      by_cases hi : i < len
      · rw [hxa i hi]
        have hd := (hq i (by omega)).2
        have hw : (q i).data.toList.length ∈ (D i).weights Tryz.prog 9 := by
          rw [hd, DataW.weights]
          exact List.mem_singleton.2 rfl
        have := hsz _ (by rw [DataW.weights, Tryz.underlying22]; exact List.mem_cons_of_mem _ (List.mem_append.2 (.inl (weights_all hi hw))))
        have h2 : (q i).data.toList.length = (q i).size := by simp
        rw [h2] at this
        simp [reachBytes] at this
        omega
      · have : Tr.xa ((List.range len).map q) i = ⟨#[]⟩ := by simp [Tr.xa, show len ≤ i by omega]
        rw [this]
        show 0 ≤ _
        omega
end Go.Proofs.YtbjbjbpgmojcbabGreat
namespace Go.Proofs.YtbjbjbpgmojcbabGreat
open Go.ChangeShapes Go.WideShapes Go.RowKit Go.Deep
theorem fl_cells : Tryz.prog.cellsOf 46 = 5 := by kernel_rfl
theorem fl_bytes : Tryz.prog.bytesOf 46 = 56 := by kernel_rfl
theorem fl_str : Tryz.prog.cellsOf 9 = 1 := by kernel_rfl
theorem fl_int : Tryz.prog.cellsOf 3 = 1 := by kernel_rfl
theorem ar_cells : Tryz.prog.cellsOf 25 = 2 := by kernel_rfl
theorem ar_sl1 : Tryz.prog.cellsOf 22 = 1 := by kernel_rfl
theorem ar_sl2 : Tryz.prog.cellsOf 23 = 1 := by kernel_rfl
def fieldsIn : Option TypeDesc → List (TypeId × Nat)
  | some (.struct fs) => fs.toList.map (fun f => (f.type, f.offset))
  | _ => []
theorem fields5 {u : Option TypeDesc} {a0 a1 a2 a3 a4 : TypeId × Nat} (h : fieldsIn u = [a0, a1, a2, a3, a4]) : ∃ f0 f1 f2 f3 f4 : Field, u = some (.struct #[f0, f1, f2, f3, f4]) ∧ (f0.type = a0.1 ∧ f0.offset = a0.2) ∧ (f1.type = a1.1 ∧ f1.offset = a1.2) ∧ (f2.type = a2.1 ∧ f2.offset = a2.2) ∧ (f3.type = a3.1 ∧ f3.offset = a3.2) ∧ (f4.type = a4.1 ∧ f4.offset = a4.2) := by
  unfold fieldsIn at h
  split at h
  · rename_i fs0
    obtain ⟨fs⟩ := fs0
    match fs, h with
    | [f0, f1, f2, f3, f4], h =>
      simp at h
      obtain ⟨rfl, rfl, rfl, rfl, rfl⟩ := h
      exact ⟨f0, f1, f2, f3, f4, rfl, ⟨rfl, rfl⟩, ⟨rfl, rfl⟩, ⟨rfl, rfl⟩, ⟨rfl, rfl⟩, ⟨rfl, rfl⟩⟩
    | [], h => simp at h
    | [_], h => simp at h
    | [_, _], h => simp at h
    | [_, _, _], h => simp at h
    | [_, _, _, _], h => simp at h
    | _ :: _ :: _ :: _ :: _ :: _ :: _, h => simp at h
  · simp at h
theorem fields2 {u : Option TypeDesc} {a0 a1 : TypeId × Nat} (h : fieldsIn u = [a0, a1]) : ∃ f0 f1 : Field, u = some (.struct #[f0, f1]) ∧ (f0.type = a0.1 ∧ f0.offset = a0.2) ∧ (f1.type = a1.1 ∧ f1.offset = a1.2) := by
  unfold fieldsIn at h
  split at h
  · rename_i fs0
    obtain ⟨fs⟩ := fs0
    match fs, h with
    | [f0, f1], h =>
      simp at h
      obtain ⟨rfl, rfl⟩ := h
      exact ⟨f0, f1, rfl, ⟨rfl, rfl⟩, ⟨rfl, rfl⟩⟩
    | [], h => simp at h
    | [_], h => simp at h
    | _ :: _ :: _ :: _, h => simp at h
  · simp at h
theorem fl_fields : fieldsIn (Tryz.prog.underlying 46) = [(9, 0), (3, 1), (3, 2), (3, 3), (9, 4)] := by kernel_rfl
theorem ar_fields : fieldsIn (Tryz.prog.underlying 25) = [(22, 0), (23, 1)] := by kernel_rfl
theorem len5 {α : Type} {l : List α} (h : l.length = 5) : ∃ a b c d e, l = [a, b, c, d, e] := by
  match l, h with
  | [a, b, c, d, e], _ => exact ⟨a, b, c, d, e, rfl⟩
theorem len2 {α : Type} {l : List α} (h : l.length = 2) : ∃ a b, l = [a, b] := by
  match l, h with
  | [a, b], _ => exact ⟨a, b, rfl⟩
theorem open_files {H : Type} {enc : TypeId × Value → H} {W : World} {a : Option Addr} {len cap fuel : Nat} {d : DataW H} {ps : List MemPlace}
    (hf : DataW.trod enc Tryz.prog W 0 (fun _ => true) true fuel 23 [.slice a len cap] = some (d, ps))
    (hsz : ∀ n ∈ d.weights Tryz.prog 23, n ≤ reachBytes) :
    ∃ l : List Ar.F, len = l.length ∧ FlSl W a l ∧ l.length * 56 ≤ 140737488355328 ∧ (∀ f ∈ l, f.name.size ≤ 140737488355328 ∧ f.blk.size ≤ 140737488355328) := by
  obtain ⟨f0, f1, f2, f3, f4, hs, ⟨t0, o0⟩, ⟨t1, o1⟩, ⟨t2, o2⟩, ⟨t3, o3⟩, ⟨t4, o4⟩⟩ := fields5 fl_fields
  have lt : ∀ x ∈ ps, x.block < W.heap.size := DataW.trod_lt fuel _ _ _ hf
  rcases open_slice Tryz.underlying23 hf with ⟨hcs, _⟩ | ⟨x, len', cap', m, n, D, Pl, hcs, _, hl, hm, hmm, hx, each⟩
  · simp at hcs
    obtain ⟨rfl, rfl, rfl⟩ := hcs
    exact ⟨[], rfl, .inl rfl, by simp, by simp⟩
  · simp at hcs
    obtain ⟨rfl, rfl, rfl⟩ := hcs
    simp only [if_true] at hmm
    subst hmm
    have hx1 := congrArg Prod.fst hx
    have hx2 := congrArg Prod.snd hx
    dsimp only at hx1 hx2
    rw [hx1] at hsz
    rw [hx2] at lt
    clear hx hx1 hx2 hf
    have key : ∀ i, i < m → ∃ q : Ar.F, W.cell? (x.add (i * 5)) = some (.string q.name) ∧ W.cell? (x.add (i * 5 + 1)) = some (.int .i64 q.dict) ∧ W.cell? (x.add (i * 5 + 2)) = some (.int .i64 q.size) ∧ W.cell? (x.add (i * 5 + 3)) = some (.int .i64 q.sum) ∧ W.cell? (x.add (i * 5 + 4)) = some (.string q.blk) ∧ D i = .agg [.lit (.string q.name.data.toList), .lit (.int .i64 q.dict), .lit (.int .i64 q.size), .lit (.int .i64 q.sum), .lit (.string q.blk.data.toList)] := by
      intro i hi
      obtain ⟨cs', h1, h2⟩ := each i hi
      rw [fl_cells] at h1
      obtain ⟨_, hlen, hcell⟩ := World.cells?_some h1
      obtain ⟨xs, k, hk, hxy, _, hxl, hfs⟩ := DataW.trod_struct hs h2
      obtain ⟨y0, y1, y2, y3, y4, rfl⟩ := len5 (show xs.length = 5 from hxl)
      obtain ⟨v0, v1, v2, v3, v4, rfl⟩ := len5 hlen
      have g0 := hfs 0 f0 rfl
      have g1 := hfs 1 f1 rfl
      have g2 := hfs 2 f2 rfl
      have g3 := hfs 3 f3 rfl
      have g4 := hfs 4 f4 rfl
      simp [t0, o0, t1, o1, t2, o2, t3, o3, t4, o4, fl_str, fl_int] at g0 g1 g2 g3 g4
      have e0 := hcell 0 (by omega)
      have e1 := hcell 1 (by omega)
      have e2 := hcell 2 (by omega)
      have e3 := hcell 3 (by omega)
      have e4 := hcell 4 (by omega)
      rw [add_add] at e0 e1 e2 e3 e4
      obtain ⟨s, hs0, hy0, _⟩ := DataW.trod_string Tryz.underlying9 g0
      obtain ⟨p, hp0, hy1, _⟩ := DataW.trod_int Tryz.underlying3 g1
      obtain ⟨r, hr0, hy2, _⟩ := DataW.trod_int Tryz.underlying3 g2
      obtain ⟨u, hu0, hy3, _⟩ := DataW.trod_int Tryz.underlying3 g3
      obtain ⟨z, hz0, hy4, _⟩ := DataW.trod_string Tryz.underlying9 g4
      simp only [List.cons.injEq, and_true] at hs0 hp0 hr0 hu0 hz0
      subst hs0 hp0 hr0 hu0 hz0 hy0 hy1 hy2 hy3 hy4
      simp only [Prod.mk.injEq] at hxy
      exact ⟨⟨s, p, r, u, z⟩, by simpa using e0, by simpa using e1, by simpa using e2, by simpa using e3, by simpa using e4, by simpa using hxy.1⟩
    have : Inhabited Ar.F := ⟨Ar.fz⟩
    obtain ⟨q, hq⟩ := choose_lt key
    have hlen : ((List.range len).map q).length = len := by simp
    refine ⟨(List.range len).map q, hlen.symm, ?_, ?_, ?_⟩
    · by_cases h0 : len = 0
      · left; simp [h0]
      · right
        obtain ⟨b, off, sp⟩ := x
        have hc0 := (hq 0 (by omega)).1
        have hsp : sp = none := by simpa [Addr.add] using World.cell?_spot hc0
        subst hsp
        have hb : b < W.heap.size := by
          rw [fl_cells, show m * 5 = (m * 5 - 1) + 1 by omega] at lt
          exact row_lt lt
        refine ⟨b, off, rfl, hb, fun i hi => ?_⟩
        rw [hlen] at hi
        obtain ⟨q0, q1, q2, q3, q4, _⟩ := hq i (by omega)
        have e : Ar.fa ((List.range len).map q) i = q i := by simp [Ar.fa, hi]
        rw [e]
        refine ⟨?_, ?_, ?_, ?_, ?_⟩
        · rw [← q0, add_plain]
        · rw [← q1, add_plain, Nat.add_assoc]
        · rw [← q2, add_plain, Nat.add_assoc]
        · rw [← q3, add_plain, Nat.add_assoc]
        · rw [← q4, add_plain, Nat.add_assoc]
    · rw [hlen]
      have := hsz ((((List.range len).map D).length + ((List.range (m - len)).map fun j => D (len + j)).length) * Tryz.prog.bytesOf 46) (by rw [DataW.weights, Tryz.underlying23]; exact List.mem_cons_self ..)
      rw [fl_bytes] at this
      simp [reachBytes] at this
      omega
    · intro t ht
      obtain ⟨i, hi, rfl⟩ := List.mem_map.1 ht
      have hi' := List.mem_range.1 hi
      have hd := (hq i (by omega)).2.2.2.2.2
      have hw1 : (q i).name.data.toList.length ∈ (D i).weights Tryz.prog 46 := by
        rw [hd, DataW.weights, hs]
        simp only [List.map_cons, List.map_nil]
        rw [DataW.weightsEach, List.mem_append]
        left
        rw [DataW.weights]
        exact List.mem_singleton.2 rfl
      have hw2 : (q i).blk.data.toList.length ∈ (D i).weights Tryz.prog 46 := by
        rw [hd, DataW.weights, hs]
        simp only [List.map_cons, List.map_nil]
        rw [DataW.weightsEach, List.mem_append]
        right
        rw [DataW.weightsEach, List.mem_append]
        right
        rw [DataW.weightsEach, List.mem_append]
        right
        rw [DataW.weightsEach, List.mem_append]
        right
        rw [DataW.weightsEach, List.mem_append]
        left
        rw [DataW.weights]
        exact List.mem_singleton.2 rfl
      have k1 := hsz _ (by rw [DataW.weights, Tryz.underlying23]; exact List.mem_cons_of_mem _ (List.mem_append.2 (.inl (weights_all hi' hw1))))
      have k2 := hsz _ (by rw [DataW.weights, Tryz.underlying23]; exact List.mem_cons_of_mem _ (List.mem_append.2 (.inl (weights_all hi' hw2))))
      have j1 : (q i).name.data.toList.length = (q i).name.size := by simp
      have j2 : (q i).blk.data.toList.length = (q i).blk.size := by simp
      rw [j1] at k1
      rw [j2] at k2
      simp [reachBytes] at k1 k2
      omega
theorem slice_is {H : Type} {enc : TypeId × Value → H} {P : Program} {W : World} {fuel : Nat} {t e : TypeId} {v : Value} {x : DataW H × List MemPlace} (hu : P.underlying t = some (.slice e)) (h : DataW.trod enc P W 0 (fun _ => true) true fuel t [v] = some x) : ∃ a len cap, v = .slice a len cap := by
  rcases DataW.trod_slice hu h with ⟨h1, _⟩ | ⟨a, len, cap, _, _, _, _, h1, _⟩
  · simp at h1; exact ⟨_, _, _, h1⟩
  · simp at h1; exact ⟨_, _, _, h1⟩
set_option maxRecDepth 100000 in
theorem open_arch {H : Type} {enc : TypeId × Value → H} {W : World} {v : Value} {d : DataW H} {ps : List MemPlace} {r : Reach} {b0 : Nat}
    (hv : Value.okWide Tryz.prog W r b0 25 v)
    (h : DataW.Trod enc Tryz.prog W 0 (fun _ => true) true 25 v d ps)
    (hsz : ∀ n ∈ d.weights Tryz.prog 25, n ≤ reachBytes) :
    ∃ ad cd af cf a, v = av ad cd af cf a ∧ ArV W ad af a ∧ SaneA a ∧ a.files.length * 56 ≤ 140737488355328 := by
  obtain ⟨f0, f1, hs, ⟨t0, o0⟩, ⟨t1, o1⟩⟩ := fields2 ar_fields
  obtain ⟨xs0, rfl, _⟩ := okWide_struct hs hv
  obtain ⟨xs⟩ := xs0
  obtain ⟨fuel, hf⟩ := h
  obtain ⟨y0, y1, n, hx, hl, g0, g1⟩ := trod_struct2 hs hf
  rw [ar_cells] at hl
  simp only [Value.cells] at hl g0 g1
  obtain ⟨v0, v1, rfl⟩ := len2 hl
  simp [t0, o0, t1, o1, ar_sl1, ar_sl2] at g0 g1
  obtain ⟨ad, n1, cd, rfl⟩ := slice_is Tryz.underlying22 g0
  obtain ⟨af, n2, cf, rfl⟩ := slice_is Tryz.underlying23 g1
  have hd := congrArg Prod.fst hx
  dsimp only at hd
  have hw : ∀ n, n ∈ y0.1.weights Tryz.prog 22 ∨ n ∈ y1.1.weights Tryz.prog 23 → n ≤ reachBytes := by
    intro n hn
    refine hsz n ?_
    rw [hd, DataW.weights, hs]
    simp only [List.map_cons, List.map_nil, t0, t1]
    rw [DataW.weightsEach, List.mem_append, DataW.weightsEach, List.mem_append]
    rcases hn with hn | hn
    · exact .inl hn
    · exact .inr (.inl hn)
  obtain ⟨l1, rfl, S1, N1, M1⟩ := open_texts g0 (fun n hn => hw n (.inl hn))
  obtain ⟨l2, rfl, S2, N2, M2⟩ := open_files g1 (fun n hn => hw n (.inr hn))
  refine ⟨ad, cd, af, cf, ⟨l1, l2⟩, rfl, ⟨S1, S2⟩, sane_of N1 (by show l2.length ≤ _; omega) (fun d hd => ?_) M2, N2⟩
  obtain ⟨i, hi, rfl⟩ := List.getElem_of_mem hd
  have := M1 i
  simpa [Tr.xa, hi] using this
end Go.Proofs.YtbjbjbpgmojcbabGreat
