/- A part of the proof: what it leans on. -/
import Derived.Deep.RegionHeld3
import Derived.OrdersHeld
import Derived.Deep.QuietTactic
import Derived.BigQuiet
import Derived.Test.YtbjbjbpgmojcbabGreatImBook01
import Derived.Test.YtbjbjbpgmojcbabGreatImBook02
import Derived.Test.YtbjbjbpgmojcbabGreatImBook06
import Derived.Test.YtbjbjbpgmojcbabGreatImBook07
import Derived.Test.YtbjbjbpgmojcbabGreatImBook08
import Derived.Test.YtbjbjbpgmojcbabGreatImBook09
import Derived.Test.YtbjbjbpgmojcbabGreatImBook11
import Derived.Test.YtbjbjbpgmojcbabGreatImBook12
import Derived.Test.YtbjbjbpgmojcbabGreatImBook13
namespace Go.Proofs.YtbjbjbpgmojcbabGreat
open Go.RowKit
set_option maxRecDepth 4000 in
set_option maxHeartbeats 1000000 in
theorem textBytes_wide (s : ByteArray) (w : World) (h : s.size ≤ 2147483647) :
    Calls Tryz.prog 84 #[.string s] w fun e w' => e = .returned (.string ⟨(Im.tb s).toArray⟩) ∧ Below w.heap.size w w' := by
  have h2 : (s.size : Int) ≤ 2147483647 := by omega
  have hc := numBytes_any s.size s.size w (by omega) (by omega) (by omega)
  rw [Int.toNat_natCast] at hc
  have hl := Nm.nb_len5 s.size (by omega)
  have HT : Hid ((⟨(Im.tb s).toArray⟩ : ByteArray) = ⟨(Nm.nb s.size).toArray⟩ ++ s) := by
    show _ = _
    apply Nm.ba_ext
    simp [Im.tb]
  rw [HT.out]
  clear HT
  go_enter Tryz.func84, Tryz.ntmps84
  go_wp2_with fail
  refine hc.mono ?_
  rintro e w' ⟨rfl, G⟩
  clear hc
  generalize hL : Nm.nb s.size = L at *
  have HL : Hid (Nm.nb s.size = L) := hL
  clear hL
  go_wp2_with fail
  go_ret
  exact ⟨by rw [HL.out]; rfl, G⟩
end Go.Proofs.YtbjbjbpgmojcbabGreat
namespace Go.Proofs.YtbjbjbpgmojcbabGreat
open Go.RowKit
theorem ba_app (a b : List UInt8) : (⟨a.toArray⟩ : ByteArray) ++ ⟨b.toArray⟩ = ⟨(a ++ b).toArray⟩ := by
  apply Nm.ba_ext
  simp
theorem ba_size (a : List UInt8) : (⟨a.toArray⟩ : ByteArray).size = a.length := by rw [Im.size_len]
set_option maxRecDepth 8000 in
set_option maxHeartbeats 4000000 in
theorem imageOf_any (ad af : Option Addr) (cd cf : Nat) (a : Ar.A) (w : World) (h : ArV w ad af a) (hk : Ar.chk a = 0) :
    Calls Tryz.prog 73 #[av ad cd af cf a] w fun e w' => e = .returned (.string (Im.img a)) ∧ Below w.heap.size w w' := by
  obtain ⟨hok, hlen⟩ := Im.chk_ok hk
  have HX : Hid (∀ w', Below w.heap.size w w' → ∀ k, k < a.dicts.length → ∃ b off, ad = some ⟨b, off, none⟩ ∧ b < w'.heap.size ∧ w'.cell? ⟨b, off + k, none⟩ = some (.string (Tr.xa a.dicts k))) := fun w' hb k hk => (h.below hb).ds.at hk
  have HFl : Hid (∀ w', Below w.heap.size w w' → ∀ k, k < a.files.length → ∃ b off, af = some ⟨b, off, none⟩ ∧ b < w'.heap.size ∧ FlC w' b (off + k * 5) (Ar.fa a.files k)) := fun w' h9 k hk => (h.below h9).fs.at hk
  have HD : Hid (∀ k, k < a.dicts.length → (⟨(Im.pD a (k + 1)).toArray⟩ : ByteArray) = ⟨(Im.pD a k).toArray⟩ ++ ⟨(Im.tb (Tr.xa a.dicts k)).toArray⟩ ∧ (Tr.xa a.dicts k).size ≤ 512 ∧ (⟨(Im.tb (Tr.xa a.dicts k)).toArray⟩ : ByteArray).size ≤ 600) := fun k hk => by
    have h5 : (Tr.xa a.dicts k).size ≤ 512 := by rw [show Tr.xa a.dicts k = a.dicts[k] by simp [Tr.xa, hk]]; exact hok.ds _ (List.getElem_mem hk)
    exact ⟨by rw [ba_app, Im.pD_succ hk], h5, by rw [ba_size]; have := Im.tb_len h5 (by omega); omega⟩
  have HF : Hid (∀ k, k < a.files.length → (⟨(Im.pF a (k + 1)).toArray⟩ : ByteArray) = ⟨(Im.pF a k).toArray⟩ ++ ⟨(Im.tb (Ar.fa a.files k).name).toArray⟩ ++ ⟨(Nm.nb (Ar.fa a.files k).dict.toNat).toArray⟩ ++ ⟨(Nm.nb (Ar.fa a.files k).size.toNat).toArray⟩ ++ ⟨(Nm.nb (Ar.fa a.files k).sum.toNat).toArray⟩ ++ ⟨(Im.tb (Ar.fa a.files k).blk).toArray⟩ ∧ Im.okF (Ar.fa a.files k) ∧ (⟨(Im.tb (Ar.fa a.files k).name).toArray⟩ : ByteArray).size ≤ 8000 ∧ (⟨(Im.tb (Ar.fa a.files k).blk).toArray⟩ : ByteArray).size ≤ 8000 ∧ (⟨(Nm.nb (Ar.fa a.files k).dict.toNat).toArray⟩ : ByteArray).size ≤ 8000 ∧ (⟨(Nm.nb (Ar.fa a.files k).size.toNat).toArray⟩ : ByteArray).size ≤ 8000 ∧ (⟨(Nm.nb (Ar.fa a.files k).sum.toNat).toArray⟩ : ByteArray).size ≤ 8000) := fun k hk9 => by
    obtain ⟨o, n1, n2⟩ := Im.chk_file hk hk9
    obtain ⟨_, ⟨_, q1⟩, ⟨_, q2⟩, ⟨_, q3⟩, _⟩ := id o
    have t1 := Im.tb_len n1 (by omega)
    have t2 := Im.tb_len n2 (by omega)
    have m1 := Nm.nb_len5 (Ar.fa a.files k).dict.toNat (by omega)
    have m2 := Nm.nb_len5 (Ar.fa a.files k).size.toNat (by omega)
    have m3 := Nm.nb_len5 (Ar.fa a.files k).sum.toNat (by omega)
    refine ⟨?_, o, ?_, ?_, ?_, ?_, ?_⟩
    · rw [ba_app, ba_app, ba_app, ba_app, ba_app, Im.pF_succ hk9]
      unfold Im.fileB
      simp only [List.append_assoc]
    all_goals rw [ba_size]; omega
  have HLD : Hid (∀ k, (⟨(Im.pD a k).toArray⟩ : ByteArray).size ≤ 200000) := fun k => by show _ ≤ _; rw [ba_size]; have := Im.pD_len a k; omega
  have HLF : Hid (∀ k, (⟨(Im.pF a k).toArray⟩ : ByteArray).size ≤ 200000) := fun k => by show _ ≤ _; rw [ba_size]; have := Im.pF_len a k; omega
  have hnd := hok.nd
  have hnf := hok.nf
  have HN : (⟨(Nm.nb a.dicts.length).toArray⟩ : ByteArray).size ≤ 5 := by rw [ba_size]; exact Nm.nb_len5 _ (by omega)
  have HM : (⟨(Nm.nb a.files.length).toArray⟩ : ByteArray).size ≤ 5 := by rw [ba_size]; exact Nm.nb_len5 _ (by omega)
  have H0 : Hid ((⟨#[112, 114, 101, 115, 115]⟩ : ByteArray) ++ ⟨(Nm.nb a.dicts.length).toArray⟩ = ⟨(Im.pD a 0).toArray⟩) := by
    show _ = _
    rw [show (⟨#[112, 114, 101, 115, 115]⟩ : ByteArray) = ⟨Im.mrk.toArray⟩ from rfl, ba_app]
    unfold Im.pD
    simp [Im.flat]
  have H1 : Hid ((⟨(Im.pD a a.dicts.length).toArray⟩ : ByteArray) ++ ⟨(Nm.nb a.files.length).toArray⟩ = ⟨(Im.pF a 0).toArray⟩) := by show _ = _; rw [ba_app, Im.pD_all]
  have H2 : Hid ((⟨(Im.pF a a.files.length).toArray⟩ : ByteArray) = Im.img a) := by show _ = _; rw [Im.pF_all]; rfl
  have CD := fun w => numBytes_any a.dicts.length a.dicts.length w (by omega) (by omega) (by omega)
  have CN := fun w => numBytes_any a.files.length a.files.length w (by omega) (by omega) (by omega)
  simp only [Int.toNat_natCast] at CD CN
  have XA := Bx.new w (.slice ad a.dicts.length cd) (.slice af a.files.length cf)
  have B1 := alloc_below w (.cells #[.slice ad a.dicts.length cd, .slice af a.files.length cf] 25 (0, 0))
  clear h hk hok hlen
  unfold av
  generalize (⟨(Nm.nb a.dicts.length).toArray⟩ : ByteArray) = sN at *
  generalize (⟨(Nm.nb a.files.length).toArray⟩ : ByteArray) = sM at *
  obtain ⟨ps, Hps⟩ : ∃ ps : Nat → ByteArray, ps = fun k => ⟨(Im.pD a k).toArray⟩ := ⟨_, rfl⟩
  obtain ⟨qs, Hqs⟩ : ∃ qs : Nat → ByteArray, qs = fun k => ⟨(Im.pF a k).toArray⟩ := ⟨_, rfl⟩
  have HP : ∀ k, (⟨(Im.pD a k).toArray⟩ : ByteArray) = ps k := fun k => by rw [Hps]
  have HQ : ∀ k, (⟨(Im.pF a k).toArray⟩ : ByteArray) = qs k := fun k => by rw [Hqs]
  simp only [HP, HQ] at HD HF HLD HLF H0 H1 H2
  clear HP HQ Hps Hqs
  generalize Im.img a = IM at *
  generalize a.dicts.length = D at *
  generalize a.files.length = N at *
  go_enter Tryz.func73, Tryz.ntmps73
  go_wp2_with fail
  generalize (w.alloc (.cells #[.slice ad D cd, .slice af N cf] 25 (0, 0))) = w0 at *
  refine (CD _).mono ?_
  rintro e w1 ⟨rfl, G⟩
  have XA1 := XA.next G
  have B2 := bch B1 G (Nat.le_refl _)
  clear XA B1 G CD
  have x0 := XA1.c0
  have x1 := XA1.c1
  go_wp2_with fail
  clear x0 x1
  rw [H0.out]
  go_loopw [3, 4] (fun s i wr => ∃ k : Nat, k ≤ D ∧ s = .string (ps k) ∧ i = .int .i64 k ∧ Below w.heap.size w wr ∧ Bx wr w.heap.size (.slice ad D cd) (.slice af N cf)) (fun _ i _ => D - (intOf i).toNat)
  case atStart => exact ⟨0, by omega, rfl, rfl, B2, XA1⟩
  case round =>
    clear B2 XA1
    obtain ⟨k, hk2, rfl, rfl, B3, X3⟩ := hrel
    have x0 := X3.c0
    have x1 := X3.c1
    by_cases hlt : k < D
    · have d1 : decide ((k : Int) < (D : Int)) = true := decide_eq_true (by omega)
      have d1' : decide (k < D) = true := decide_eq_true hlt
      have hki : (k : Int) < (D : Int) := by omega
      obtain ⟨b, off, rfl, hbl, hcell⟩ := HX.out wr B3 k hlt
      obtain ⟨e1, e2, e3⟩ := HD.out k hlt
      have e4 := HLD.out k
      have HE := (show Hid _ from e1)
      clear e1
      generalize Tr.xa a.dicts k = X at *
      have C := textBytes_wide X wr (by omega)
      generalize (⟨(Im.tb X).toArray⟩ : ByteArray) = T at *
      go_wp2_with fail
      refine C.mono ?_
      rintro e w3 ⟨rfl, G⟩
      have B4 := bch B3 G (Nat.le_refl _)
      have X4 := X3.next G
      clear C B3 X3 x0 x1 G hcell
      generalize hps : ps k = S at *
      go_wp2_with fail
      go_roundw
      case rel => exact ⟨k + 1, by omega, by rw [HE.out], by go_num, B4, X4⟩
      case measure => simp [intOf]; omega
    · obtain rfl : k = D := by omega
      have d1 : decide ((k : Int) < (k : Int)) = false := by simp
      have d1' : decide (k < k) = false := by simp
      have e4 := HLD.out k
      have HH := (show Hid _ from H1.out)
      generalize ps k = S at *
      go_wp2_with fail
      refine (CN _).mono ?_
      rintro e w3 ⟨rfl, G⟩
      have B4 := bch B3 G (Nat.le_refl _)
      have X4 := X3.next G
      clear B3 X3 x0 x1 G
      go_wp2_with fail
      rw [HH.out]
      go_loopw [3, 5] (fun s i wr => ∃ m : Nat, m ≤ N ∧ s = .string (qs m) ∧ i = .int .i64 m ∧ Below w.heap.size w wr ∧ Bx wr w.heap.size (.slice ad k cd) (.slice af N cf)) (fun _ i _ => N - (intOf i).toNat)
      case atStart => exact ⟨0, by omega, rfl, rfl, B4, X4⟩
      case round =>
        clear B4 X4
        obtain ⟨m, hm2, rfl, rfl, B5, X5⟩ := hrel
        have x0 := X5.c0
        have x1 := X5.c1
        by_cases hlt : m < N
        · have d2 : decide ((m : Int) < (N : Int)) = true := decide_eq_true (by omega)
          have d2' : decide (m < N) = true := decide_eq_true hlt
          have hmi : (m : Int) < (N : Int) := by omega
          obtain ⟨b, off, rfl, hbl, c0, c1, c2, c3, c4⟩ := HFl.out wr B5 m hlt
          obtain ⟨e1, ⟨o0, ⟨o1, o1'⟩, ⟨o2, o2'⟩, ⟨o3, o3'⟩, o4⟩, l0, l4, l1, l2, l3⟩ := HF.out m hlt
          have e4 := HLF.out m
          have HE := (show Hid _ from e1)
          clear e1
          generalize (Ar.fa a.files m).name = f0 at *
          generalize (Ar.fa a.files m).dict = f1 at *
          generalize (Ar.fa a.files m).size = f2 at *
          generalize (Ar.fa a.files m).sum = f3 at *
          generalize (Ar.fa a.files m).blk = f4 at *
          have C0 := fun w => textBytes_wide f0 w (by omega)
          have C4 := fun w => textBytes_wide f4 w (by omega)
          have C1 := fun w => numBytes_any f1.toNat f1 w o1 (by omega) o1'
          have C2 := fun w => numBytes_any f2.toNat f2 w o2 (by omega) o2'
          have C3 := fun w => numBytes_any f3.toNat f3 w o3 (by omega) o3'
          generalize (⟨(Im.tb f0).toArray⟩ : ByteArray) = t0 at *
          generalize (⟨(Im.tb f4).toArray⟩ : ByteArray) = t4 at *
          generalize (⟨(Nm.nb f1.toNat).toArray⟩ : ByteArray) = t1 at *
          generalize (⟨(Nm.nb f2.toNat).toArray⟩ : ByteArray) = t2 at *
          generalize (⟨(Nm.nb f3.toNat).toArray⟩ : ByteArray) = t3 at *
          have FB0 := FB.new wr 46 (.string f0) (.int .i64 f1) (.int .i64 f2) (.int .i64 f3) (.string f4)
          have GF := alloc_below wr (.cells #[.string f0, .int .i64 f1, .int .i64 f2, .int .i64 f3, .string f4] 46 (0, 0))
          have B6 := bch B5 GF (Nat.le_refl _)
          have X6 := X5.next GF
          generalize qs m = S at *
          go_wp2_with fail
          clear x0 x1 B5 X5 GF c0 c1 c2 c3 c4
          generalize (wr.alloc (.cells #[.string f0, .int .i64 f1, .int .i64 f2, .int .i64 f3, .string f4] 46 (0, 0))) = z0 at *
          generalize wr.heap.size = bF at *
          have hbF := FB0.lt
          have HSS : Hid (∀ w', Below z0.heap.size z0 w' → (fun w' : World => w'.cell? ⟨bF, 0, none⟩ = some (.string f0) ∧ w'.cell? ⟨bF, 1, none⟩ = some (.int .i64 f1) ∧ w'.cell? ⟨bF, 2, none⟩ = some (.int .i64 f2) ∧ w'.cell? ⟨bF, 3, none⟩ = some (.int .i64 f3) ∧ w'.cell? ⟨bF, 4, none⟩ = some (.string f4)) w') := fun w' h9 => ⟨(h9.cell (p := ⟨bF, 0, none⟩) hbF).trans (FB0.c 0 (by omega)), (h9.cell (p := ⟨bF, 1, none⟩) hbF).trans (FB0.c 1 (by omega)), (h9.cell (p := ⟨bF, 2, none⟩) hbF).trans (FB0.c 2 (by omega)), (h9.cell (p := ⟨bF, 3, none⟩) hbF).trans (FB0.c 3 (by omega)), (h9.cell (p := ⟨bF, 4, none⟩) hbF).trans (FB0.c 4 (by omega))⟩
          clear FB0
          have b1 : ¬ 9223372036854775807 < S.size + t0.size := by omega
          have b2 : ¬ 9223372036854775807 < S.size + t0.size + t1.size := by omega
          have b3 : ¬ 9223372036854775807 < S.size + t0.size + t1.size + t2.size := by omega
          have b4 : ¬ 9223372036854775807 < S.size + t0.size + t1.size + t2.size + t3.size := by omega
          have b5 : ¬ 9223372036854775807 < S.size + t0.size + t1.size + t2.size + t3.size + t4.size := by omega
          have G0 := (Below.refl z0.heap.size z0).drew
          refine wp_region_held_drew (S := fun w' => w'.cell? ⟨bF, 0, none⟩ = some (.string f0) ∧ w'.cell? ⟨bF, 1, none⟩ = some (.int .i64 f1) ∧ w'.cell? ⟨bF, 2, none⟩ = some (.int .i64 f2) ∧ w'.cell? ⟨bF, 3, none⟩ = some (.int .i64 f3) ∧ w'.cell? ⟨bF, 4, none⟩ = some (.string f4)) (by kernel_rfl) (HSS.out _ G0) (fun hS => ?_)
          refine wpAnyH_take (i := 0) (fuel := 21) (v := .string S) rfl (by kernel_rfl) (by kernel_rfl) (by kernel_rfl) (fun _ _ _ h => h) (Or.inl ⟨by rfl, fun w' h9 => by obtain ⟨k1, k2, k3, k4, k5⟩ := h9; go_simp⟩) hS ?_
          refine wpAnyH_take (i := 1) (fuel := 20) (v := .pointer (some ⟨bF, 0, none⟩)) rfl (by kernel_rfl) (by kernel_rfl) (by kernel_rfl) (fun _ _ _ h => h) (Or.inl ⟨by rfl, fun w' h9 => by obtain ⟨k1, k2, k3, k4, k5⟩ := h9; go_simp⟩) hS ?_
          refine wpAnyH_take (i := 2) (fuel := 19) (v := .string f0) rfl (by kernel_rfl) (by kernel_rfl) (by kernel_rfl) (fun _ _ _ h => h) (Or.inl ⟨by rfl, fun w' h9 => by obtain ⟨k1, k2, k3, k4, k5⟩ := h9; go_simp⟩) hS ?_
          refine wpAnyH_take (i := 5) (fuel := 18) (v := .pointer (some ⟨bF, 1, none⟩)) rfl (by kernel_rfl) (by kernel_rfl) (by kernel_rfl) (fun _ _ _ h => h) (Or.inl ⟨by rfl, fun w' h9 => by obtain ⟨k1, k2, k3, k4, k5⟩ := h9; go_simp⟩) hS ?_
          refine wpAnyH_take (i := 6) (fuel := 17) (v := .int .i64 f1) rfl (by kernel_rfl) (by kernel_rfl) (by kernel_rfl) (fun _ _ _ h => h) (Or.inl ⟨by rfl, fun w' h9 => by obtain ⟨k1, k2, k3, k4, k5⟩ := h9; go_simp⟩) hS ?_
          refine wpAnyH_take (i := 9) (fuel := 16) (v := .pointer (some ⟨bF, 2, none⟩)) rfl (by kernel_rfl) (by kernel_rfl) (by kernel_rfl) (fun _ _ _ h => h) (Or.inl ⟨by rfl, fun w' h9 => by obtain ⟨k1, k2, k3, k4, k5⟩ := h9; go_simp⟩) hS ?_
          refine wpAnyH_take (i := 10) (fuel := 15) (v := .int .i64 f2) rfl (by kernel_rfl) (by kernel_rfl) (by kernel_rfl) (fun _ _ _ h => h) (Or.inl ⟨by rfl, fun w' h9 => by obtain ⟨k1, k2, k3, k4, k5⟩ := h9; go_simp⟩) hS ?_
          refine wpAnyH_take (i := 13) (fuel := 14) (v := .pointer (some ⟨bF, 3, none⟩)) rfl (by kernel_rfl) (by kernel_rfl) (by kernel_rfl) (fun _ _ _ h => h) (Or.inl ⟨by rfl, fun w' h9 => by obtain ⟨k1, k2, k3, k4, k5⟩ := h9; go_simp⟩) hS ?_
          refine wpAnyH_take (i := 14) (fuel := 13) (v := .int .i64 f3) rfl (by kernel_rfl) (by kernel_rfl) (by kernel_rfl) (fun _ _ _ h => h) (Or.inl ⟨by rfl, fun w' h9 => by obtain ⟨k1, k2, k3, k4, k5⟩ := h9; go_simp⟩) hS ?_
          refine wpAnyH_take (i := 17) (fuel := 12) (v := .pointer (some ⟨bF, 4, none⟩)) rfl (by kernel_rfl) (by kernel_rfl) (by kernel_rfl) (fun _ _ _ h => h) (Or.inl ⟨by rfl, fun w' h9 => by obtain ⟨k1, k2, k3, k4, k5⟩ := h9; go_simp⟩) hS ?_
          refine wpAnyH_take (i := 18) (fuel := 11) (v := .string f4) rfl (by kernel_rfl) (by kernel_rfl) (by kernel_rfl) (fun _ _ _ h => h) (Or.inl ⟨by rfl, fun w' h9 => by obtain ⟨k1, k2, k3, k4, k5⟩ := h9; go_simp⟩) hS ?_
          refine wpAnyH_ready (rs := [3]) (fuel := 10) (by kernel_rfl) (by simp) ?_
          refine AllReadyH.cons rfl (fun K hK => ?_) AllReadyH.nil
          go_simp
          go_at_call 84
          refine (C0 _).mono ?_
          rintro e w5 ⟨rfl, H1⟩
          have G1 := bch G0 H1 (Nat.le_refl _)
          refine hK.out _ _ (HSS.out _ G1) (fun hS1 => ?_)
          clear hK H1
          refine wpAnyH_take (i := 4) (fuel := 9) (v := .string (S ++ t0)) rfl (by kernel_rfl) (by kernel_rfl) (by kernel_rfl) (fun _ _ _ h => h) (Or.inl ⟨by rfl, fun w' h9 => by obtain ⟨k1, k2, k3, k4, k5⟩ := h9; go_simp⟩) hS1 ?_
          refine wpAnyH_ready (rs := [7]) (fuel := 8) (by kernel_rfl) (by simp) ?_
          refine AllReadyH.cons rfl (fun K hK => ?_) AllReadyH.nil
          go_simp
          go_at_call 83
          refine (C1 _).mono ?_
          rintro e w6 ⟨rfl, H2⟩
          have G2 := bch G1 H2 (Nat.le_refl _)
          refine hK.out _ _ (HSS.out _ G2) (fun hS2 => ?_)
          clear hK H2
          refine wpAnyH_take (i := 8) (fuel := 7) (v := .string (S ++ t0 ++ t1)) rfl (by kernel_rfl) (by kernel_rfl) (by kernel_rfl) (fun _ _ _ h => h) (Or.inl ⟨by rfl, fun w' h9 => by obtain ⟨k1, k2, k3, k4, k5⟩ := h9; go_simp⟩) hS2 ?_
          refine wpAnyH_ready (rs := [11]) (fuel := 6) (by kernel_rfl) (by simp) ?_
          refine AllReadyH.cons rfl (fun K hK => ?_) AllReadyH.nil
          go_simp
          go_at_call 83
          refine (C2 _).mono ?_
          rintro e w7 ⟨rfl, H3⟩
          have G3 := bch G2 H3 (Nat.le_refl _)
          refine hK.out _ _ (HSS.out _ G3) (fun hS3 => ?_)
          clear hK H3
          refine wpAnyH_take (i := 12) (fuel := 5) (v := .string (S ++ t0 ++ t1 ++ t2)) rfl (by kernel_rfl) (by kernel_rfl) (by kernel_rfl) (fun _ _ _ h => h) (Or.inl ⟨by rfl, fun w' h9 => by obtain ⟨k1, k2, k3, k4, k5⟩ := h9; go_simp⟩) hS3 ?_
          refine wpAnyH_ready (rs := [15]) (fuel := 4) (by kernel_rfl) (by simp) ?_
          refine AllReadyH.cons rfl (fun K hK => ?_) AllReadyH.nil
          go_simp
          go_at_call 83
          refine (C3 _).mono ?_
          rintro e w8 ⟨rfl, H4⟩
          have G4 := bch G3 H4 (Nat.le_refl _)
          refine hK.out _ _ (HSS.out _ G4) (fun hS4 => ?_)
          clear hK H4
          refine wpAnyH_take (i := 16) (fuel := 3) (v := .string (S ++ t0 ++ t1 ++ t2 ++ t3)) rfl (by kernel_rfl) (by kernel_rfl) (by kernel_rfl) (fun _ _ _ h => h) (Or.inl ⟨by rfl, fun w' h9 => by obtain ⟨k1, k2, k3, k4, k5⟩ := h9; go_simp⟩) hS4 ?_
          refine wpAnyH_ready (rs := [19]) (fuel := 2) (by kernel_rfl) (by simp) ?_
          refine AllReadyH.cons rfl (fun K hK => ?_) AllReadyH.nil
          go_simp
          go_at_call 84
          refine (C4 _).mono ?_
          rintro e w9 ⟨rfl, H5⟩
          have G5 := bch G4 H5 (Nat.le_refl _)
          refine hK.out _ _ (HSS.out _ G5) (fun hS5 => ?_)
          clear hK H5
          refine wpAnyH_take (i := 20) (fuel := 1) (v := .string (S ++ t0 ++ t1 ++ t2 ++ t3 ++ t4)) rfl (by kernel_rfl) (by kernel_rfl) (by kernel_rfl) (fun _ _ _ h => h) (Or.inl ⟨by rfl, fun w' h9 => by obtain ⟨k1, k2, k3, k4, k5⟩ := h9; go_simp⟩) hS5 ?_
          refine wpAnyH_ready (rs := [21]) (fuel := 0) (by kernel_rfl) (by simp) ?_
          refine AllReadyH.cons rfl (fun K hK => ?_) AllReadyH.nil
          go_simp
          refine hK.out _ _ hS5 (fun _ => ?_)
          clear hK
          refine ⟨by kernel_rfl, ?_⟩
          have B9 := bch B6 G5 (Nat.le_refl _)
          have X9 := X6.next G5
          clear B6 X6 G0 G1 G2 G3 G4 G5 HSS hS hS1 hS2 hS3 hS4 hS5
          go_wp2_with fail
          go_roundw
          case rel => exact ⟨m + 1, by omega, by rw [HE.out], by go_num, B9, X9⟩
          case measure => simp [intOf]; omega
        · obtain rfl : m = N := by omega
          have d2 : decide ((m : Int) < (m : Int)) = false := by simp
          have d2' : decide (m < m) = false := by simp
          rw [H2.out]
          go_wp2_with fail
          go_ret
          exact ⟨rfl, B5⟩
end Go.Proofs.YtbjbjbpgmojcbabGreat
namespace Go.Proofs.YtbjbjbpgmojcbabGreat
open Go.RowKit
set_option linter.unusedVariables false
set_option maxRecDepth 4000 in
set_option maxHeartbeats 1000000 in
theorem played_any (dict : ByteArray) (ad : Option Addr) (cap : Nat) (l : List Tk.T) (w : World) (hl : SlAt w ad l) (hs : Sane l) :
    Calls Tryz.prog 102 #[.string dict, .slice ad l.length cap] w fun e w' => e = .returned (.string (playOf dict l)) ∧ Below w.heap.size w w' := by
  have c1 := fun w hl => ref_any dict ad cap l w hl hs
  generalize playOf dict l = P at *
  generalize checkOf dict l = C at *
  go_enter Tryz.func102, Tryz.ntmps102
  go_wp2_with fail
  refine (c1 _ hl).mono ?_
  rintro e w1 ⟨rfl, G⟩
  go_wp2_with fail
  go_ret
  exact ⟨rfl, G⟩
theorem from_some {dict s : ByteArray} {m : List Tk.T} (hd : dict.size ≤ 256) (hs : s.size ≤ 140737488355328) (hm : readOf dict s = some m) (w : World) : Calls Tryz.prog 101 #[.string dict, .string s] w fun e w' => Below w.heap.size w w' ∧ ∃ ad cap, e = .returned (.tuple #[.slice ad m.length cap, .bool true]) ∧ SlAt w' ad m := (toksFrom_any dict s w hs).mono fun e w' h => by
  rw [from_read hd] at h
  rcases h with ⟨h1, ⟨h2, _⟩ | ⟨k, a, c, h2, h3, h4⟩⟩
  · rw [hm] at h2; cases h2
  · rw [hm] at h2; cases h2; exact ⟨h1, a, c, h3, h4⟩
theorem from_nil {dict s : ByteArray} (hd : dict.size ≤ 256) (hs : s.size ≤ 140737488355328) (hm : readOf dict s = none) (w : World) : Calls Tryz.prog 101 #[.string dict, .string s] w fun e w' => Below w.heap.size w w' ∧ e = .returned (.tuple #[.slice none 0 0, .bool false]) := (toksFrom_any dict s w hs).mono fun e w' h => by
  rw [from_read hd] at h
  rcases h with ⟨h1, ⟨_, h2⟩ | ⟨k, a, c, h2, h3, h4⟩⟩
  · exact ⟨h1, h2⟩
  · rw [hm] at h2; cases h2
theorem played_of {dict s : ByteArray} {m : List Tk.T} (hd : dict.size ≤ 256) (hm : readOf dict s = some m) (ad : Option Addr) (cap : Nat) (w : World) (h : SlAt w ad m) : Calls Tryz.prog 102 #[.string dict, .slice ad m.length cap] w fun e w' => e = .returned (.string (playOf dict m)) ∧ Below w.heap.size w w' :=
  played_any dict ad cap m w h (small_sane (check_small (readOf_some hd hm).2))
theorem not_empty {b : ByteArray} (h0 : b.size ≠ 0) : b.toList.isEmpty = false := by
  rw [ByteArray.toList_eq, Bool.eq_false_iff]
  intro e
  rw [List.isEmpty_iff] at e
  apply h0
  have := congrArg List.length e
  rw [Cd.size_list] at this
  simpa using this
theorem at_first {b : ByteArray} (h : 0 < b.size) : Cd.at8 b 0 = b[0].toNat := by unfold Cd.at8; rw [Nm.at_list b 0 h]; rfl
theorem at_ext (s : ByteArray) (j : Nat) (hj : j < 8) : Cd.at8 (s.extract 0 8) j = Cd.at8 s j := by
  unfold Cd.at8
  congr 2
  simp [ByteArray.data_extract, Array.toList_extract]
  rw [List.getElem?_take_of_lt hj, Array.getElem?_toList]
theorem pt_ext (s : ByteArray) (i : Nat) : Bk.ptK s 8 i = Bk.pt (s.extract 0 8) i := by
  unfold Bk.pt Bk.ptK
  by_cases h : i < 2 * 8
  · rw [if_pos h, if_pos h, at_ext s (i / 2) (by omega)]
  · rw [if_neg h, if_neg h]
set_option maxRecDepth 4000 in
set_option maxHeartbeats 1000000 in
theorem unpackOf_empty (dict : ByteArray) (w : World) :
    Calls Tryz.prog 62 #[.string dict, .string ⟨#[]⟩] w fun e w' => e = .returned (.tuple #[.string ⟨#[]⟩, .bool false]) ∧ Below w.heap.size w w' := by
  go_enter Tryz.func62, Tryz.ntmps62
  go_wp2_with fail
  go_ret2
  exact ⟨rfl, Below.refl _ _⟩
set_option maxRecDepth 4000 in
set_option maxHeartbeats 1000000 in
theorem unpackOf_0 (dict b S : ByteArray) (w : World) (hd : dict.size ≤ 256) (hb : b.size ≤ 140737488355328) (h0 : 0 < b.size) (hS : b.extract 1 b.size = S) (hx : (b[0].toNat : Int) = 0) :
    Calls Tryz.prog 62 #[.string dict, .string b] w fun e w' => e = .returned (.tuple #[.string S, .bool (decide ((S.size : Int) ≤ 512))]) ∧ Below w.heap.size w w' := by
  have hne := not_empty (b := b) (by omega)
  have hb1 : (1 : Int) ≤ (b.size : Int) := by omega
  have hb1n : 1 ≤ b.size := by omega
  have hb0 : (0 : Int) < (b.size : Int) := by omega
  have hbi : (b.size : Int) ≤ 140737488355328 := by omega
  have hs1 := ext_size b 1 b.size
  rw [hS] at hs1
  have hs2 : S.size ≤ 140737488355328 := by omega
  clear hs1
  go_enter Tryz.func62, Tryz.ntmps62
  go_wp2_with fail
  go_region
  go_wp2_with fail
  go_ret2
  exact ⟨rfl, (Below.refl _ _).drew⟩
set_option maxRecDepth 4000 in
set_option maxHeartbeats 1000000 in
theorem unpackOf_3 (dict b S : ByteArray) (w : World) (hd : dict.size ≤ 256) (hb : b.size ≤ 140737488355328) (h0 : 0 < b.size) (hS : b.extract 1 b.size = S) (hx : 2 < (b[0].toNat : Int)) :
    Calls Tryz.prog 62 #[.string dict, .string b] w fun e w' => e = .returned (.tuple #[.string ⟨#[]⟩, .bool false]) ∧ Below w.heap.size w w' := by
  have hne := not_empty (b := b) (by omega)
  have hb1 : (1 : Int) ≤ (b.size : Int) := by omega
  have hb1n : 1 ≤ b.size := by omega
  have hb0 : (0 : Int) < (b.size : Int) := by omega
  have hbi : (b.size : Int) ≤ 140737488355328 := by omega
  have hs1 := ext_size b 1 b.size
  rw [hS] at hs1
  have hs2 : S.size ≤ 140737488355328 := by omega
  clear hs1
  obtain ⟨x, hxe⟩ : ∃ x : Int, (b[0].toNat : Int) = x := ⟨_, rfl⟩
  rw [hxe] at hx
  have q0 : (x == 0) = false := by simp; omega
  have q1 : (x == 2) = false := by simp; omega
  have q2 : ¬ x = 0 := by omega
  have q3 : ¬ x = 2 := by omega
  have q4 : decide (2 < x) = true := by simp; omega
  go_enter Tryz.func62, Tryz.ntmps62
  go_wp2_with fail
  go_region
  go_wp2_with fail
  go_ret2
  exact ⟨rfl, (Below.refl _ _).drew⟩
set_option maxRecDepth 4000 in
set_option maxHeartbeats 1000000 in
theorem unpackOf_1n (dict b S : ByteArray) (w : World) (hd : dict.size ≤ 256) (hb : b.size ≤ 140737488355328) (h0 : 0 < b.size) (hS : b.extract 1 b.size = S) (hx : (b[0].toNat : Int) = 1) (hm : readOf dict S = none) :
    Calls Tryz.prog 62 #[.string dict, .string b] w fun e w' => e = .returned (.tuple #[.string ⟨#[]⟩, .bool false]) ∧ Below w.heap.size w w' := by
  have hne := not_empty (b := b) (by omega)
  have hb1 : (1 : Int) ≤ (b.size : Int) := by omega
  have hb1n : 1 ≤ b.size := by omega
  have hb0 : (0 : Int) < (b.size : Int) := by omega
  have hbi : (b.size : Int) ≤ 140737488355328 := by omega
  have hs1 := ext_size b 1 b.size
  rw [hS] at hs1
  have hs2 : S.size ≤ 140737488355328 := by omega
  clear hs1
  have c1 := fun w => from_nil hd (by omega) hm w
  clear hm
  go_enter Tryz.func62, Tryz.ntmps62
  go_wp2_with fail
  go_region
  go_wp2_with fail
  refine (c1 _).mono ?_
  rintro e w1 ⟨G1, rfl⟩
  have B1 : Below w.heap.size w w1 := (Below.refl _ _).drew.trans G1
  go_wp2_with fail
  go_ret2
  exact ⟨rfl, B1⟩
set_option maxRecDepth 4000 in
set_option maxHeartbeats 1000000 in
theorem unpackOf_1s (dict b S : ByteArray) (w : World) (hd : dict.size ≤ 256) (hb : b.size ≤ 140737488355328) (h0 : 0 < b.size) (hS : b.extract 1 b.size = S) (hx : (b[0].toNat : Int) = 1) (m : List Tk.T) (hm : readOf dict S = some m) :
    Calls Tryz.prog 62 #[.string dict, .string b] w fun e w' => e = .returned (.tuple #[.string (playOf dict m), .bool true]) ∧ Below w.heap.size w w' := by
  have hne := not_empty (b := b) (by omega)
  have hb1 : (1 : Int) ≤ (b.size : Int) := by omega
  have hb1n : 1 ≤ b.size := by omega
  have hb0 : (0 : Int) < (b.size : Int) := by omega
  have hbi : (b.size : Int) ≤ 140737488355328 := by omega
  have hs1 := ext_size b 1 b.size
  rw [hS] at hs1
  have hs2 : S.size ≤ 140737488355328 := by omega
  clear hs1
  have c1 := fun w => from_some hd (by omega) hm w
  have c2 := fun ad cap w h => played_of hd hm ad cap w h
  clear hm
  generalize playOf dict m = P at *
  go_enter Tryz.func62, Tryz.ntmps62
  go_wp2_with fail
  go_region
  go_wp2_with fail
  refine (c1 _).mono ?_
  rintro e w1 ⟨G1, ad, cap, rfl, S1⟩
  have B1 : Below w.heap.size w w1 := (Below.refl _ _).drew.trans G1
  go_wp2_with fail
  refine (c2 ad cap _ S1).mono ?_
  rintro e w2 ⟨rfl, G2⟩
  have B2 := bch B1 G2 (Nat.le_refl _)
  go_wp2_with fail
  go_ret2
  exact ⟨rfl, B2⟩
set_option maxRecDepth 4000 in
set_option maxHeartbeats 1000000 in
theorem unpackOf_2s (dict b S : ByteArray) (w : World) (hd : dict.size ≤ 256) (hb : b.size ≤ 140737488355328) (h0 : 0 < b.size) (hS : b.extract 1 b.size = S) (hx : (b[0].toNat : Int) = 2) (h8 : S.size < 8) :
    Calls Tryz.prog 62 #[.string dict, .string b] w fun e w' => e = .returned (.tuple #[.string ⟨#[]⟩, .bool false]) ∧ Below w.heap.size w w' := by
  have hne := not_empty (b := b) (by omega)
  have hb1 : (1 : Int) ≤ (b.size : Int) := by omega
  have hb1n : 1 ≤ b.size := by omega
  have hb0 : (0 : Int) < (b.size : Int) := by omega
  have hbi : (b.size : Int) ≤ 140737488355328 := by omega
  have hs1 := ext_size b 1 b.size
  rw [hS] at hs1
  have hs2 : S.size ≤ 140737488355328 := by omega
  clear hs1
  have h8' : (S.size : Int) < 8 := by omega
  have h8d : decide ((S.size : Int) < 8) = true := by simp; omega
  go_enter Tryz.func62, Tryz.ntmps62
  go_wp2_with fail
  go_region
  go_wp2_with fail
  go_ret2
  exact ⟨rfl, (Below.refl _ _).drew⟩
end Go.Proofs.YtbjbjbpgmojcbabGreat
namespace Go.Proofs.YtbjbjbpgmojcbabGreat
open Go.RowKit
set_option linter.unusedVariables false
set_option maxRecDepth 4000 in
set_option maxHeartbeats 1000000 in
theorem unpackOf_2n (dict b S : ByteArray) (w : World) (hd : dict.size ≤ 256) (hb : b.size ≤ 140737488355328) (h0 : 0 < b.size) (hS : b.extract 1 b.size = S) (hx : (b[0].toNat : Int) = 2) (Z : ByteArray) (hZ : S.extract 8 S.size = Z) (h8 : ¬ S.size < 8) (hn : Nm.from_ Z.data.toList = none) :
    Calls Tryz.prog 62 #[.string dict, .string b] w fun e w' => e = .returned (.tuple #[.string ⟨#[]⟩, .bool false]) ∧ Below w.heap.size w w' := by
  have hne := not_empty (b := b) (by omega)
  have hb1 : (1 : Int) ≤ (b.size : Int) := by omega
  have hb1n : 1 ≤ b.size := by omega
  have hb0 : (0 : Int) < (b.size : Int) := by omega
  have hbi : (b.size : Int) ≤ 140737488355328 := by omega
  have hs1 := ext_size b 1 b.size
  rw [hS] at hs1
  have hs2 : S.size ≤ 140737488355328 := by omega
  have hz1 := ext_size S 8 S.size
  rw [hZ] at hz1
  have hz2 : Z.size ≤ 140737488355328 := by omega
  clear hs1 hz1
  have h8' : (8 : Int) ≤ (S.size : Int) := by omega
  have h8n : 8 ≤ S.size := by omega
  have h8d : decide ((S.size : Int) < 8) = false := by simp; omega
  have h8s : (S.size : Int) ≤ 140737488355328 := by omega
  have c1 := fun w => numFrom_no Z w (by omega) hn
  have c2 := fun w => readCode_any (Bk.pt (S.extract 0 8)) ⟨#[]⟩ 0 w
  generalize (Cd.rd (Bk.pt (S.extract 0 8)) ⟨#[]⟩ 0).1 = X1 at *
  generalize (Cd.rd (Bk.pt (S.extract 0 8)) ⟨#[]⟩ 0).2 = X2 at *
  clear hn
  have HX : Hid (∀ i, Bk.ptK S 8 i = Bk.pt (S.extract 0 8) i) := pt_ext S
  generalize Bk.pt (S.extract 0 8) = f at *
  have hif := arr_infoc f
  have R3 := RowAt.new w (fun _ => 0)
  have HB : Below w.heap.size w (w.alloc (.cells (arr fun _ => 0) 127)) := (Below.refl _ _).alloc (Nat.le_refl _) _
  rw [← arr_zero] at R3 HB
  go_enter Tryz.func62, Tryz.ntmps62
  go_wp2_with fail
  go_region
  go_wp2_with fail
  rw [arr_zero] at R3 HB
  rw [arr_zero]
  generalize w.alloc (.cells (arr fun _ => 0) 127) = w0 at *
  obtain ⟨g3, hg3⟩ : ∃ g3, w.heap.size = g3 := ⟨_, rfl⟩
  have hq : Hid (w.heap.size ≤ g3) := Nat.le_of_eq hg3
  have hg3' : w.heap.size = g3 := hg3
  have R3' : RowAt w0 g3 (Bk.ptK S 0) := by rw [← hg3]; exact R3.congr (fun i _ => by simp [Bk.ptK])
  clear R3
  rw [hg3']
  clear hg3
  go_loopw [9] (fun i wr => ∃ k : Nat, k ≤ 8 ∧ i = .int .i64 k ∧ RowAt wr g3 (Bk.ptK S k) ∧ Below w.heap.size w wr) (fun i _ => 8 - (intOf i).toNat)
  case atStart => exact ⟨0, by omega, rfl, R3', HB.drew⟩
  case round =>
    clear R3' HB
    obtain ⟨k, hk, rfl, R3, HB⟩ := hrel
    by_cases hlt : k < 8
    · have hk1 : decide ((k : Int) < 8) = true := by simp; omega
      have hk2 : decide (k < 8) = true := by simp; omega
      have hks : k < S.size := by omega
      have hk3 : (k : Int) < (S.size : Int) := by omega
      obtain ⟨x, hxx⟩ : ∃ x : Int, (S[k].toNat : Int) = x := ⟨_, rfl⟩
      have hA : Cd.at8 S k = S[k].toNat := by unfold Cd.at8; rw [Nm.at_list S k hks]; rfl
      have hA2 := Cd.at8_lt S k
      have hx0 : 0 ≤ x := by omega
      have hx1 : x ≤ 255 := by omega
      obtain ⟨H, hH⟩ : ∃ H, Cd.at8 S k / 16 = H := ⟨_, rfl⟩
      obtain ⟨L, hL⟩ : ∃ L, Cd.at8 S k % 16 = L := ⟨_, rfl⟩
      have e1 : x / 16 = (H : Int) := by omega
      have e2 : x % 16 = (L : Int) := by omega
      have e3 : x.tdiv 16 = (H : Int) := by rw [Int.tdiv_eq_ediv_of_nonneg hx0]; exact e1
      have e4 : x.tmod 16 = (L : Int) := by rw [Int.tmod_eq_emod_of_nonneg hx0]; exact e2
      have hH2 : H < 16 := by omega
      have hL2 : L < 16 := by omega
      have u1 : IntKind.u8.wrap (H : Int) = (H : Int) := IntWalk.u8_in _ ⟨by omega, by omega⟩
      have u2 : IntKind.i64.wrap (H : Int) = (H : Int) := IntWalk.i64_in _ ⟨by omega, by omega⟩
      have u3 : IntKind.u8.wrap (L : Int) = (L : Int) := IntWalk.u8_in _ ⟨by omega, by omega⟩
      have u4 : IntKind.i64.wrap (L : Int) = (L : Int) := IntWalk.i64_in _ ⟨by omega, by omega⟩
      obtain ⟨K2, hK2e⟩ : ∃ K2, 2 * k = K2 := ⟨_, rfl⟩
      obtain ⟨K3, hK3e⟩ : ∃ K3, 2 * k + 1 = K3 := ⟨_, rfl⟩
      have hK2 : K2 < 16 := by omega
      have hK3 : K3 < 16 := by omega
      have m2 : 2 * (k : Int) = (K2 : Int) := by omega
      have m3 : (K2 : Int) + 1 = (K3 : Int) := by omega
      have hK2i : (K2 : Int) < 16 := by omega
      have hK3i : (K3 : Int) < 16 := by omega
      have w4 : IntKind.i64.wrap (K2 : Int) = (K2 : Int) := IntWalk.i64_in _ ⟨by omega, by omega⟩
      have w5 : IntKind.i64.wrap (K3 : Int) = (K3 : Int) := IntWalk.i64_in _ ⟨by omega, by omega⟩
      have c1 := R3.cell K2 hK2
      have f1 := R3.frozen K2
      have c2 := R3.cell K3 hK3
      have f2 := R3.frozen K3
      have S3 := R3.set K2 (H : Int)
      have SB := HB.setCell (p := ⟨g3, K2, none⟩) (by have := hq.out; show _ ≤ g3; omega) (.int .i64 (H : Int))
      have T3 := (S3.set K3 (L : Int)).congr (f' := Bk.ptK S (k + 1)) (fun i _ => by rw [← hK2e, ← hK3e, ← hH, ← hL]; exact Bk.ptK_next S k i)
      have TB := SB.setCell (p := ⟨g3, K3, none⟩) (by have := hq.out; show _ ≤ g3; omega) (.int .i64 (L : Int))
      clear hA hA2 hH hL e1 e2 hK2e hK3e R3 HB S3 SB
      go_wp2_with fail
      go_region
      all_goals go_wp2_with fail
      all_goals go_roundw
      case rel => exact ⟨k + 1, by omega, by go_num, T3, TB.drew⟩
      case measure => simp [intOf]; omega
    · obtain rfl : k = 8 := by omega
      have hk1 : decide ((8 : Int) < 8) = false := by decide
      have R4 := R3.congr (f' := f) (fun i _ => HX.out i)
      clear R3 HX hx
      go_wp2_with fail
      refine (c1 _).mono ?_
      rintro e w1 ⟨rfl, G1⟩
      have R5 := R4.below G1
      have B5 := bch HB G1 (Nat.le_refl _)
      clear R4 HB G1 c1
      go_wp2_with (refine wpList_load_row rfl 127 _ rfl g3 rfl 127 (arr f) (0, 0) _ R5.2 Tryz.underlying127 rfl hif ?_)
      refine (c2 _).mono ?_
      rintro e w2 ⟨rfl, G2⟩
      have B6 := bch B5 G2 (Nat.le_refl _)
      go_wp2_with fail
      go_ret2
      exact ⟨rfl, B6⟩
set_option maxRecDepth 4000 in
set_option maxHeartbeats 1000000 in
theorem unpackOf_2e (dict b S : ByteArray) (w : World) (hd : dict.size ≤ 256) (hb : b.size ≤ 140737488355328) (h0 : 0 < b.size) (hS : b.extract 1 b.size = S) (hx : (b[0].toNat : Int) = 2) (Z : ByteArray) (hZ : S.extract 8 S.size = Z) (h8 : ¬ S.size < 8) (n k : Nat) (Y : ByteArray) (hn : Nm.from_ Z.data.toList = some (n, k)) (hY : Z.extract k Z.size = Y) (hE : (Cd.rd (Bk.pt (S.extract 0 8)) Y (n : Nat)).2 ≠ 0) :
    Calls Tryz.prog 62 #[.string dict, .string b] w fun e w' => e = .returned (.tuple #[.string ⟨#[]⟩, .bool false]) ∧ Below w.heap.size w w' := by
  have hne := not_empty (b := b) (by omega)
  have hb1 : (1 : Int) ≤ (b.size : Int) := by omega
  have hb1n : 1 ≤ b.size := by omega
  have hb0 : (0 : Int) < (b.size : Int) := by omega
  have hbi : (b.size : Int) ≤ 140737488355328 := by omega
  have hs1 := ext_size b 1 b.size
  rw [hS] at hs1
  have hs2 : S.size ≤ 140737488355328 := by omega
  have hz1 := ext_size S 8 S.size
  rw [hZ] at hz1
  have hz2 : Z.size ≤ 140737488355328 := by omega
  clear hs1 hz1
  have h8' : (8 : Int) ≤ (S.size : Int) := by omega
  have h8n : 8 ≤ S.size := by omega
  have h8d : decide ((S.size : Int) < 8) = false := by simp; omega
  have h8s : (S.size : Int) ≤ 140737488355328 := by omega
  have c1 := fun w => numFrom_yes Z w n k (by omega) hn
  rw [hY] at c1
  have c2 := fun w => readCode_any (Bk.pt (S.extract 0 8)) Y (n : Nat) w
  generalize (Cd.rd (Bk.pt (S.extract 0 8)) Y (n : Nat)).1 = X1 at *
  generalize (Cd.rd (Bk.pt (S.extract 0 8)) Y (n : Nat)).2 = X2 at *
  have q1 : (X2 == 0) = false := by simp [hE]
  have q2 : (X2 != 0) = true := by simp [hE]
  clear hn hY
  have HX : Hid (∀ i, Bk.ptK S 8 i = Bk.pt (S.extract 0 8) i) := pt_ext S
  generalize Bk.pt (S.extract 0 8) = f at *
  have hif := arr_infoc f
  have R3 := RowAt.new w (fun _ => 0)
  have HB : Below w.heap.size w (w.alloc (.cells (arr fun _ => 0) 127)) := (Below.refl _ _).alloc (Nat.le_refl _) _
  rw [← arr_zero] at R3 HB
  go_enter Tryz.func62, Tryz.ntmps62
  go_wp2_with fail
  go_region
  go_wp2_with fail
  rw [arr_zero] at R3 HB
  rw [arr_zero]
  generalize w.alloc (.cells (arr fun _ => 0) 127) = w0 at *
  obtain ⟨g3, hg3⟩ : ∃ g3, w.heap.size = g3 := ⟨_, rfl⟩
  have hq : Hid (w.heap.size ≤ g3) := Nat.le_of_eq hg3
  have hg3' : w.heap.size = g3 := hg3
  have R3' : RowAt w0 g3 (Bk.ptK S 0) := by rw [← hg3]; exact R3.congr (fun i _ => by simp [Bk.ptK])
  clear R3
  rw [hg3']
  clear hg3
  go_loopw [9] (fun i wr => ∃ k : Nat, k ≤ 8 ∧ i = .int .i64 k ∧ RowAt wr g3 (Bk.ptK S k) ∧ Below w.heap.size w wr) (fun i _ => 8 - (intOf i).toNat)
  case atStart => exact ⟨0, by omega, rfl, R3', HB.drew⟩
  case round =>
    clear R3' HB
    obtain ⟨k, hk, rfl, R3, HB⟩ := hrel
    by_cases hlt : k < 8
    · have hk1 : decide ((k : Int) < 8) = true := by simp; omega
      have hk2 : decide (k < 8) = true := by simp; omega
      have hks : k < S.size := by omega
      have hk3 : (k : Int) < (S.size : Int) := by omega
      obtain ⟨x, hxx⟩ : ∃ x : Int, (S[k].toNat : Int) = x := ⟨_, rfl⟩
      have hA : Cd.at8 S k = S[k].toNat := by unfold Cd.at8; rw [Nm.at_list S k hks]; rfl
      have hA2 := Cd.at8_lt S k
      have hx0 : 0 ≤ x := by omega
      have hx1 : x ≤ 255 := by omega
      obtain ⟨H, hH⟩ : ∃ H, Cd.at8 S k / 16 = H := ⟨_, rfl⟩
      obtain ⟨L, hL⟩ : ∃ L, Cd.at8 S k % 16 = L := ⟨_, rfl⟩
      have e1 : x / 16 = (H : Int) := by omega
      have e2 : x % 16 = (L : Int) := by omega
      have e3 : x.tdiv 16 = (H : Int) := by rw [Int.tdiv_eq_ediv_of_nonneg hx0]; exact e1
      have e4 : x.tmod 16 = (L : Int) := by rw [Int.tmod_eq_emod_of_nonneg hx0]; exact e2
      have hH2 : H < 16 := by omega
      have hL2 : L < 16 := by omega
      have u1 : IntKind.u8.wrap (H : Int) = (H : Int) := IntWalk.u8_in _ ⟨by omega, by omega⟩
      have u2 : IntKind.i64.wrap (H : Int) = (H : Int) := IntWalk.i64_in _ ⟨by omega, by omega⟩
      have u3 : IntKind.u8.wrap (L : Int) = (L : Int) := IntWalk.u8_in _ ⟨by omega, by omega⟩
      have u4 : IntKind.i64.wrap (L : Int) = (L : Int) := IntWalk.i64_in _ ⟨by omega, by omega⟩
      obtain ⟨K2, hK2e⟩ : ∃ K2, 2 * k = K2 := ⟨_, rfl⟩
      obtain ⟨K3, hK3e⟩ : ∃ K3, 2 * k + 1 = K3 := ⟨_, rfl⟩
      have hK2 : K2 < 16 := by omega
      have hK3 : K3 < 16 := by omega
      have m2 : 2 * (k : Int) = (K2 : Int) := by omega
      have m3 : (K2 : Int) + 1 = (K3 : Int) := by omega
      have hK2i : (K2 : Int) < 16 := by omega
      have hK3i : (K3 : Int) < 16 := by omega
      have w4 : IntKind.i64.wrap (K2 : Int) = (K2 : Int) := IntWalk.i64_in _ ⟨by omega, by omega⟩
      have w5 : IntKind.i64.wrap (K3 : Int) = (K3 : Int) := IntWalk.i64_in _ ⟨by omega, by omega⟩
      have c1 := R3.cell K2 hK2
      have f1 := R3.frozen K2
      have c2 := R3.cell K3 hK3
      have f2 := R3.frozen K3
      have S3 := R3.set K2 (H : Int)
      have SB := HB.setCell (p := ⟨g3, K2, none⟩) (by have := hq.out; show _ ≤ g3; omega) (.int .i64 (H : Int))
      have T3 := (S3.set K3 (L : Int)).congr (f' := Bk.ptK S (k + 1)) (fun i _ => by rw [← hK2e, ← hK3e, ← hH, ← hL]; exact Bk.ptK_next S k i)
      have TB := SB.setCell (p := ⟨g3, K3, none⟩) (by have := hq.out; show _ ≤ g3; omega) (.int .i64 (L : Int))
      clear hA hA2 hH hL e1 e2 hK2e hK3e R3 HB S3 SB
      go_wp2_with fail
      go_region
      all_goals go_wp2_with fail
      all_goals go_roundw
      case rel => exact ⟨k + 1, by omega, by go_num, T3, TB.drew⟩
      case measure => simp [intOf]; omega
    · obtain rfl : k = 8 := by omega
      have hk1 : decide ((8 : Int) < 8) = false := by decide
      have R4 := R3.congr (f' := f) (fun i _ => HX.out i)
      clear R3 HX hx
      go_wp2_with fail
      refine (c1 _).mono ?_
      rintro e w1 ⟨rfl, G1⟩
      have R5 := R4.below G1
      have B5 := bch HB G1 (Nat.le_refl _)
      clear R4 HB G1 c1
      go_wp2_with (refine wpList_load_row rfl 127 _ rfl g3 rfl 127 (arr f) (0, 0) _ R5.2 Tryz.underlying127 rfl hif ?_)
      refine (c2 _).mono ?_
      rintro e w2 ⟨rfl, G2⟩
      have B6 := bch B5 G2 (Nat.le_refl _)
      clear R5 B5 G2 c2
      go_wp2_with fail
      go_ret2
      exact ⟨rfl, B6⟩
set_option maxRecDepth 4000 in
set_option maxHeartbeats 1000000 in
theorem unpackOf_2tn (dict b S : ByteArray) (w : World) (hd : dict.size ≤ 256) (hb : b.size ≤ 140737488355328) (h0 : 0 < b.size) (hS : b.extract 1 b.size = S) (hx : (b[0].toNat : Int) = 2) (Z : ByteArray) (hZ : S.extract 8 S.size = Z) (h8 : ¬ S.size < 8) (n k : Nat) (Y : ByteArray) (hn : Nm.from_ Z.data.toList = some (n, k)) (hY : Z.extract k Z.size = Y) (X1 : ByteArray) (hE : Cd.rd (Bk.pt (S.extract 0 8)) Y (n : Nat) = (X1, 0)) (hX : X1.size ≤ 140737488355328) (hm : readOf dict X1 = none) :
    Calls Tryz.prog 62 #[.string dict, .string b] w fun e w' => e = .returned (.tuple #[.string ⟨#[]⟩, .bool false]) ∧ Below w.heap.size w w' := by
  have hne := not_empty (b := b) (by omega)
  have hb1 : (1 : Int) ≤ (b.size : Int) := by omega
  have hb1n : 1 ≤ b.size := by omega
  have hb0 : (0 : Int) < (b.size : Int) := by omega
  have hbi : (b.size : Int) ≤ 140737488355328 := by omega
  have hs1 := ext_size b 1 b.size
  rw [hS] at hs1
  have hs2 : S.size ≤ 140737488355328 := by omega
  have hz1 := ext_size S 8 S.size
  rw [hZ] at hz1
  have hz2 : Z.size ≤ 140737488355328 := by omega
  clear hs1 hz1
  have h8' : (8 : Int) ≤ (S.size : Int) := by omega
  have h8n : 8 ≤ S.size := by omega
  have h8d : decide ((S.size : Int) < 8) = false := by simp; omega
  have h8s : (S.size : Int) ≤ 140737488355328 := by omega
  have c1 := fun w => numFrom_yes Z w n k (by omega) hn
  rw [hY] at c1
  have c2 := fun w => readCode_any (Bk.pt (S.extract 0 8)) Y (n : Nat) w
  rw [hE] at c2
  have c3 := fun w => from_nil hd hX hm w
  clear hn hY hE hm
  have HX : Hid (∀ i, Bk.ptK S 8 i = Bk.pt (S.extract 0 8) i) := pt_ext S
  generalize Bk.pt (S.extract 0 8) = f at *
  have hif := arr_infoc f
  have R3 := RowAt.new w (fun _ => 0)
  have HB : Below w.heap.size w (w.alloc (.cells (arr fun _ => 0) 127)) := (Below.refl _ _).alloc (Nat.le_refl _) _
  rw [← arr_zero] at R3 HB
  go_enter Tryz.func62, Tryz.ntmps62
  go_wp2_with fail
  go_region
  go_wp2_with fail
  rw [arr_zero] at R3 HB
  rw [arr_zero]
  generalize w.alloc (.cells (arr fun _ => 0) 127) = w0 at *
  obtain ⟨g3, hg3⟩ : ∃ g3, w.heap.size = g3 := ⟨_, rfl⟩
  have hq : Hid (w.heap.size ≤ g3) := Nat.le_of_eq hg3
  have hg3' : w.heap.size = g3 := hg3
  have R3' : RowAt w0 g3 (Bk.ptK S 0) := by rw [← hg3]; exact R3.congr (fun i _ => by simp [Bk.ptK])
  clear R3
  rw [hg3']
  clear hg3
  go_loopw [9] (fun i wr => ∃ k : Nat, k ≤ 8 ∧ i = .int .i64 k ∧ RowAt wr g3 (Bk.ptK S k) ∧ Below w.heap.size w wr) (fun i _ => 8 - (intOf i).toNat)
  case atStart => exact ⟨0, by omega, rfl, R3', HB.drew⟩
  case round =>
    clear R3' HB
    obtain ⟨k, hk, rfl, R3, HB⟩ := hrel
    by_cases hlt : k < 8
    · have hk1 : decide ((k : Int) < 8) = true := by simp; omega
      have hk2 : decide (k < 8) = true := by simp; omega
      have hks : k < S.size := by omega
      have hk3 : (k : Int) < (S.size : Int) := by omega
      obtain ⟨x, hxx⟩ : ∃ x : Int, (S[k].toNat : Int) = x := ⟨_, rfl⟩
      have hA : Cd.at8 S k = S[k].toNat := by unfold Cd.at8; rw [Nm.at_list S k hks]; rfl
      have hA2 := Cd.at8_lt S k
      have hx0 : 0 ≤ x := by omega
      have hx1 : x ≤ 255 := by omega
      obtain ⟨H, hH⟩ : ∃ H, Cd.at8 S k / 16 = H := ⟨_, rfl⟩
      obtain ⟨L, hL⟩ : ∃ L, Cd.at8 S k % 16 = L := ⟨_, rfl⟩
      have e1 : x / 16 = (H : Int) := by omega
      have e2 : x % 16 = (L : Int) := by omega
      have e3 : x.tdiv 16 = (H : Int) := by rw [Int.tdiv_eq_ediv_of_nonneg hx0]; exact e1
      have e4 : x.tmod 16 = (L : Int) := by rw [Int.tmod_eq_emod_of_nonneg hx0]; exact e2
      have hH2 : H < 16 := by omega
      have hL2 : L < 16 := by omega
      have u1 : IntKind.u8.wrap (H : Int) = (H : Int) := IntWalk.u8_in _ ⟨by omega, by omega⟩
      have u2 : IntKind.i64.wrap (H : Int) = (H : Int) := IntWalk.i64_in _ ⟨by omega, by omega⟩
      have u3 : IntKind.u8.wrap (L : Int) = (L : Int) := IntWalk.u8_in _ ⟨by omega, by omega⟩
      have u4 : IntKind.i64.wrap (L : Int) = (L : Int) := IntWalk.i64_in _ ⟨by omega, by omega⟩
      obtain ⟨K2, hK2e⟩ : ∃ K2, 2 * k = K2 := ⟨_, rfl⟩
      obtain ⟨K3, hK3e⟩ : ∃ K3, 2 * k + 1 = K3 := ⟨_, rfl⟩
      have hK2 : K2 < 16 := by omega
      have hK3 : K3 < 16 := by omega
      have m2 : 2 * (k : Int) = (K2 : Int) := by omega
      have m3 : (K2 : Int) + 1 = (K3 : Int) := by omega
      have hK2i : (K2 : Int) < 16 := by omega
      have hK3i : (K3 : Int) < 16 := by omega
      have w4 : IntKind.i64.wrap (K2 : Int) = (K2 : Int) := IntWalk.i64_in _ ⟨by omega, by omega⟩
      have w5 : IntKind.i64.wrap (K3 : Int) = (K3 : Int) := IntWalk.i64_in _ ⟨by omega, by omega⟩
      have c1 := R3.cell K2 hK2
      have f1 := R3.frozen K2
      have c2 := R3.cell K3 hK3
      have f2 := R3.frozen K3
      have S3 := R3.set K2 (H : Int)
      have SB := HB.setCell (p := ⟨g3, K2, none⟩) (by have := hq.out; show _ ≤ g3; omega) (.int .i64 (H : Int))
      have T3 := (S3.set K3 (L : Int)).congr (f' := Bk.ptK S (k + 1)) (fun i _ => by rw [← hK2e, ← hK3e, ← hH, ← hL]; exact Bk.ptK_next S k i)
      have TB := SB.setCell (p := ⟨g3, K3, none⟩) (by have := hq.out; show _ ≤ g3; omega) (.int .i64 (L : Int))
      clear hA hA2 hH hL e1 e2 hK2e hK3e R3 HB S3 SB
      go_wp2_with fail
      go_region
      all_goals go_wp2_with fail
      all_goals go_roundw
      case rel => exact ⟨k + 1, by omega, by go_num, T3, TB.drew⟩
      case measure => simp [intOf]; omega
    · obtain rfl : k = 8 := by omega
      have hk1 : decide ((8 : Int) < 8) = false := by decide
      have R4 := R3.congr (f' := f) (fun i _ => HX.out i)
      clear R3 HX hx
      go_wp2_with fail
      refine (c1 _).mono ?_
      rintro e w1 ⟨rfl, G1⟩
      have R5 := R4.below G1
      have B5 := bch HB G1 (Nat.le_refl _)
      clear R4 HB G1 c1
      go_wp2_with (refine wpList_load_row rfl 127 _ rfl g3 rfl 127 (arr f) (0, 0) _ R5.2 Tryz.underlying127 rfl hif ?_)
      refine (c2 _).mono ?_
      rintro e w2 ⟨rfl, G2⟩
      have B6 := bch B5 G2 (Nat.le_refl _)
      clear R5 B5 G2 c2
      go_wp2_with fail
      refine (c3 _).mono ?_
      rintro e w3 ⟨G3, rfl⟩
      have B7 := bch B6 G3 (Nat.le_refl _)
      go_wp2_with fail
      go_ret2
      exact ⟨rfl, B7⟩
set_option maxRecDepth 4000 in
set_option maxHeartbeats 1000000 in
theorem unpackOf_2ts (dict b S : ByteArray) (w : World) (hd : dict.size ≤ 256) (hb : b.size ≤ 140737488355328) (h0 : 0 < b.size) (hS : b.extract 1 b.size = S) (hx : (b[0].toNat : Int) = 2) (Z : ByteArray) (hZ : S.extract 8 S.size = Z) (h8 : ¬ S.size < 8) (n k : Nat) (Y : ByteArray) (hn : Nm.from_ Z.data.toList = some (n, k)) (hY : Z.extract k Z.size = Y) (X1 : ByteArray) (hE : Cd.rd (Bk.pt (S.extract 0 8)) Y (n : Nat) = (X1, 0)) (hX : X1.size ≤ 140737488355328) (m : List Tk.T) (hm : readOf dict X1 = some m) :
    Calls Tryz.prog 62 #[.string dict, .string b] w fun e w' => e = .returned (.tuple #[.string (playOf dict m), .bool true]) ∧ Below w.heap.size w w' := by
  have hne := not_empty (b := b) (by omega)
  have hb1 : (1 : Int) ≤ (b.size : Int) := by omega
  have hb1n : 1 ≤ b.size := by omega
  have hb0 : (0 : Int) < (b.size : Int) := by omega
  have hbi : (b.size : Int) ≤ 140737488355328 := by omega
  have hs1 := ext_size b 1 b.size
  rw [hS] at hs1
  have hs2 : S.size ≤ 140737488355328 := by omega
  have hz1 := ext_size S 8 S.size
  rw [hZ] at hz1
  have hz2 : Z.size ≤ 140737488355328 := by omega
  clear hs1 hz1
  have h8' : (8 : Int) ≤ (S.size : Int) := by omega
  have h8n : 8 ≤ S.size := by omega
  have h8d : decide ((S.size : Int) < 8) = false := by simp; omega
  have h8s : (S.size : Int) ≤ 140737488355328 := by omega
  have c1 := fun w => numFrom_yes Z w n k (by omega) hn
  rw [hY] at c1
  have c2 := fun w => readCode_any (Bk.pt (S.extract 0 8)) Y (n : Nat) w
  rw [hE] at c2
  have c3 := fun w => from_some hd hX hm w
  have c4 := fun ad cap w h => played_of hd hm ad cap w h
  clear hn hY hE hm
  generalize playOf dict m = P at *
  have HX : Hid (∀ i, Bk.ptK S 8 i = Bk.pt (S.extract 0 8) i) := pt_ext S
  generalize Bk.pt (S.extract 0 8) = f at *
  have hif := arr_infoc f
  have R3 := RowAt.new w (fun _ => 0)
  have HB : Below w.heap.size w (w.alloc (.cells (arr fun _ => 0) 127)) := (Below.refl _ _).alloc (Nat.le_refl _) _
  rw [← arr_zero] at R3 HB
  go_enter Tryz.func62, Tryz.ntmps62
  go_wp2_with fail
  go_region
  go_wp2_with fail
  rw [arr_zero] at R3 HB
  rw [arr_zero]
  generalize w.alloc (.cells (arr fun _ => 0) 127) = w0 at *
  obtain ⟨g3, hg3⟩ : ∃ g3, w.heap.size = g3 := ⟨_, rfl⟩
  have hq : Hid (w.heap.size ≤ g3) := Nat.le_of_eq hg3
  have hg3' : w.heap.size = g3 := hg3
  have R3' : RowAt w0 g3 (Bk.ptK S 0) := by rw [← hg3]; exact R3.congr (fun i _ => by simp [Bk.ptK])
  clear R3
  rw [hg3']
  clear hg3
  go_loopw [9] (fun i wr => ∃ k : Nat, k ≤ 8 ∧ i = .int .i64 k ∧ RowAt wr g3 (Bk.ptK S k) ∧ Below w.heap.size w wr) (fun i _ => 8 - (intOf i).toNat)
  case atStart => exact ⟨0, by omega, rfl, R3', HB.drew⟩
  case round =>
    clear R3' HB
    obtain ⟨k, hk, rfl, R3, HB⟩ := hrel
    by_cases hlt : k < 8
    · have hk1 : decide ((k : Int) < 8) = true := by simp; omega
      have hk2 : decide (k < 8) = true := by simp; omega
      have hks : k < S.size := by omega
      have hk3 : (k : Int) < (S.size : Int) := by omega
      obtain ⟨x, hxx⟩ : ∃ x : Int, (S[k].toNat : Int) = x := ⟨_, rfl⟩
      have hA : Cd.at8 S k = S[k].toNat := by unfold Cd.at8; rw [Nm.at_list S k hks]; rfl
      have hA2 := Cd.at8_lt S k
      have hx0 : 0 ≤ x := by omega
      have hx1 : x ≤ 255 := by omega
      obtain ⟨H, hH⟩ : ∃ H, Cd.at8 S k / 16 = H := ⟨_, rfl⟩
      obtain ⟨L, hL⟩ : ∃ L, Cd.at8 S k % 16 = L := ⟨_, rfl⟩
      have e1 : x / 16 = (H : Int) := by omega
      have e2 : x % 16 = (L : Int) := by omega
      have e3 : x.tdiv 16 = (H : Int) := by rw [Int.tdiv_eq_ediv_of_nonneg hx0]; exact e1
      have e4 : x.tmod 16 = (L : Int) := by rw [Int.tmod_eq_emod_of_nonneg hx0]; exact e2
      have hH2 : H < 16 := by omega
      have hL2 : L < 16 := by omega
      have u1 : IntKind.u8.wrap (H : Int) = (H : Int) := IntWalk.u8_in _ ⟨by omega, by omega⟩
      have u2 : IntKind.i64.wrap (H : Int) = (H : Int) := IntWalk.i64_in _ ⟨by omega, by omega⟩
      have u3 : IntKind.u8.wrap (L : Int) = (L : Int) := IntWalk.u8_in _ ⟨by omega, by omega⟩
      have u4 : IntKind.i64.wrap (L : Int) = (L : Int) := IntWalk.i64_in _ ⟨by omega, by omega⟩
      obtain ⟨K2, hK2e⟩ : ∃ K2, 2 * k = K2 := ⟨_, rfl⟩
      obtain ⟨K3, hK3e⟩ : ∃ K3, 2 * k + 1 = K3 := ⟨_, rfl⟩
      have hK2 : K2 < 16 := by omega
      have hK3 : K3 < 16 := by omega
      have m2 : 2 * (k : Int) = (K2 : Int) := by omega
      have m3 : (K2 : Int) + 1 = (K3 : Int) := by omega
      have hK2i : (K2 : Int) < 16 := by omega
      have hK3i : (K3 : Int) < 16 := by omega
      have w4 : IntKind.i64.wrap (K2 : Int) = (K2 : Int) := IntWalk.i64_in _ ⟨by omega, by omega⟩
      have w5 : IntKind.i64.wrap (K3 : Int) = (K3 : Int) := IntWalk.i64_in _ ⟨by omega, by omega⟩
      have c1 := R3.cell K2 hK2
      have f1 := R3.frozen K2
      have c2 := R3.cell K3 hK3
      have f2 := R3.frozen K3
      have S3 := R3.set K2 (H : Int)
      have SB := HB.setCell (p := ⟨g3, K2, none⟩) (by have := hq.out; show _ ≤ g3; omega) (.int .i64 (H : Int))
      have T3 := (S3.set K3 (L : Int)).congr (f' := Bk.ptK S (k + 1)) (fun i _ => by rw [← hK2e, ← hK3e, ← hH, ← hL]; exact Bk.ptK_next S k i)
      have TB := SB.setCell (p := ⟨g3, K3, none⟩) (by have := hq.out; show _ ≤ g3; omega) (.int .i64 (L : Int))
      clear hA hA2 hH hL e1 e2 hK2e hK3e R3 HB S3 SB
      go_wp2_with fail
      go_region
      all_goals go_wp2_with fail
      all_goals go_roundw
      case rel => exact ⟨k + 1, by omega, by go_num, T3, TB.drew⟩
      case measure => simp [intOf]; omega
    · obtain rfl : k = 8 := by omega
      have hk1 : decide ((8 : Int) < 8) = false := by decide
      have R4 := R3.congr (f' := f) (fun i _ => HX.out i)
      clear R3 HX hx
      go_wp2_with fail
      refine (c1 _).mono ?_
      rintro e w1 ⟨rfl, G1⟩
      have R5 := R4.below G1
      have B5 := bch HB G1 (Nat.le_refl _)
      clear R4 HB G1 c1
      go_wp2_with (refine wpList_load_row rfl 127 _ rfl g3 rfl 127 (arr f) (0, 0) _ R5.2 Tryz.underlying127 rfl hif ?_)
      refine (c2 _).mono ?_
      rintro e w2 ⟨rfl, G2⟩
      have B6 := bch B5 G2 (Nat.le_refl _)
      clear R5 B5 G2 c2
      go_wp2_with fail
      refine (c3 _).mono ?_
      rintro e w3 ⟨G3, ad, cap, rfl, S3⟩
      have B7 := bch B6 G3 (Nat.le_refl _)
      go_wp2_with fail
      refine (c4 ad cap _ S3).mono ?_
      rintro e w4 ⟨rfl, G4⟩
      have B8 := bch B7 G4 (Nat.le_refl _)
      go_wp2_with fail
      go_ret2
      exact ⟨rfl, B8⟩
end Go.Proofs.YtbjbjbpgmojcbabGreat
namespace Go.Proofs.YtbjbjbpgmojcbabGreat
open Go.RowKit
set_option linter.unusedVariables false
def UnpSaid (u : ByteArray × Int) (w : World) (e : Ending) (w' : World) : Prop := ∃ x, e = .returned (.tuple #[.string x, .bool (decide (u.2 = 0))]) ∧ (u.2 = 0 → x = u.1) ∧ (u.2 ≠ 0 → u = (⟨#[]⟩, 1)) ∧ Below w.heap.size w w'
theorem said_no {u : ByteArray × Int} (hu : u = (⟨#[]⟩, 1)) {w : World} {x : ByteArray} : ∀ e w', (e = .returned (.tuple #[.string x, .bool false]) ∧ Below w.heap.size w w') → UnpSaid u w e w' := by
  subst hu
  intro e w' h
  exact ⟨x, h.1, fun h9 => absurd h9 (by decide), fun _ => rfl, h.2⟩
theorem said_yes {u : ByteArray × Int} {x : ByteArray} (hu : u = (x, 0)) {w : World} : ∀ e w', (e = .returned (.tuple #[.string x, .bool true]) ∧ Below w.heap.size w w') → UnpSaid u w e w' := by
  subst hu
  intro e w' h
  exact ⟨x, h.1, fun _ => rfl, fun h9 => absurd rfl h9, h.2⟩
theorem unpackOf_any (dict b : ByteArray) (w : World) (hd : dict.size ≤ 256) (hb : b.size ≤ 140737488355328) :
    Calls Tryz.prog 62 #[.string dict, .string b] w fun e w' => UnpSaid (Bk.unp dict b) w e w' := by
  by_cases h0 : b.size = 0
  · have e : Bk.unp dict b = (⟨#[]⟩, 1) := by rw [Bk.unp, if_neg (by omega), if_pos h0]
    obtain rfl : b = ⟨#[]⟩ := by
      apply ByteArray.ext
      exact Array.eq_empty_of_size_eq_zero h0
    exact (unpackOf_empty dict w).mono (said_no e)
  · have h1 : 0 < b.size := by omega
    have hA := at_first h1
    have hU : Bk.unp dict b = if Cd.at8 b 0 = 0 then Bk.whl (b.extract 1 b.size) else if Cd.at8 b 0 = 1 then Bk.ply dict (b.extract 1 b.size) else if Cd.at8 b 0 = 2 then (if (Bk.dec (b.extract 1 b.size)).2 = 0 then Bk.ply dict (Bk.dec (b.extract 1 b.size)).1 else (⟨#[]⟩, (Bk.dec (b.extract 1 b.size)).2)) else (⟨#[]⟩, 1) := by rw [Bk.unp, if_neg (by omega), if_neg h0]
    have hs1 := ext_size b 1 b.size
    obtain ⟨S, hS⟩ : ∃ S, b.extract 1 b.size = S := ⟨_, rfl⟩
    rw [hS] at hU hs1
    by_cases k0 : Cd.at8 b 0 = 0
    · rw [if_pos k0] at hU
      have c := unpackOf_0 dict b S w hd hb h1 hS (by omega)
      by_cases hl : 512 < S.size
      · rw [Bk.whl, if_pos hl] at hU
        rw [decide_eq_false (by omega)] at c
        exact c.mono (said_no hU)
      · rw [Bk.whl, if_neg hl] at hU
        rw [decide_eq_true (by omega)] at c
        exact c.mono (said_yes hU)
    · rw [if_neg k0] at hU
      by_cases k1 : Cd.at8 b 0 = 1
      · rw [if_pos k1] at hU
        cases hm : readOf dict S with
        | none =>
          rw [Bk.ply, hm] at hU
          exact (unpackOf_1n dict b S w hd hb h1 hS (by omega) hm).mono (said_no hU)
        | some m =>
          rw [Bk.ply, hm] at hU
          exact (unpackOf_1s dict b S w hd hb h1 hS (by omega) m hm).mono (said_yes hU)
      · rw [if_neg k1] at hU
        by_cases k2 : Cd.at8 b 0 = 2
        · rw [if_pos k2] at hU
          by_cases h8 : S.size < 8
          · have e : Bk.dec S = (⟨#[]⟩, 1) := by rw [Bk.dec, if_pos h8]
            rw [e, if_neg (by decide)] at hU
            exact (unpackOf_2s dict b S w hd hb h1 hS (by omega) h8).mono (said_no hU)
          · cases hn : Nm.from_ (S.extract 8 S.size).data.toList with
            | none =>
              rw [Bk.dec_none h8 hn, if_neg (by decide)] at hU
              exact (unpackOf_2n dict b S w hd hb h1 hS (by omega) _ rfl h8 hn).mono (said_no hU)
            | some nk =>
              obtain ⟨n, k⟩ := nk
              rw [Bk.dec_some h8 hn] at hU
              by_cases hE : (Cd.rd (Bk.pt (S.extract 0 8)) ((S.extract 8 S.size).extract k (S.extract 8 S.size).size) (n : Nat)).2 = 0
              · rw [if_pos hE, if_pos rfl] at hU
                have hz := rd_size _ _ _ hE
                have e9 : Cd.rd (Bk.pt (S.extract 0 8)) ((S.extract 8 S.size).extract k (S.extract 8 S.size).size) (n : Nat) = ((Cd.rd (Bk.pt (S.extract 0 8)) ((S.extract 8 S.size).extract k (S.extract 8 S.size).size) (n : Nat)).1, 0) := by
                  rw [← hE]
                cases hm : readOf dict (Cd.rd (Bk.pt (S.extract 0 8)) ((S.extract 8 S.size).extract k (S.extract 8 S.size).size) (n : Nat)).1 with
                | none =>
                  rw [Bk.ply, hm] at hU
                  exact (unpackOf_2tn dict b S w hd hb h1 hS (by omega) _ rfl h8 n k _ hn rfl _ e9 hz hm).mono (said_no hU)
                | some m =>
                  rw [Bk.ply, hm] at hU
                  exact (unpackOf_2ts dict b S w hd hb h1 hS (by omega) _ rfl h8 n k _ hn rfl _ e9 hz m hm).mono (said_yes hU)
              · rw [if_neg hE, if_neg (by decide)] at hU
                exact (unpackOf_2e dict b S w hd hb h1 hS (by omega) _ rfl h8 n k _ hn rfl hE).mono (said_no hU)
        · rw [if_neg k2] at hU
          exact (unpackOf_3 dict b S w hd hb h1 hS (by omega)).mono (said_no hU)
end Go.Proofs.YtbjbjbpgmojcbabGreat
namespace Go.Proofs.YtbjbjbpgmojcbabGreat
open Go.RowKit
set_option maxRecDepth 4000 in
set_option maxHeartbeats 1000000 in
theorem checkArch_len (ad af : Option Addr) (cd cf : Nat) (a : Ar.A) (w : World) (hn1 : a.dicts.length ≤ 8796093022208) (hn2 : a.files.length ≤ 8796093022208) (hm : 4 < a.dicts.length ∨ 12 < a.files.length) :
    Calls Tryz.prog 19 #[av ad cd af cf a] w fun e w' => e = .returned (.int .i64 2) ∧ Below w.heap.size w w' := by
  have hb := fun o => (Below.refl w.heap.size w).alloc (Nat.le_refl _) o
  unfold av
  generalize a.dicts.length = D at *
  generalize a.files.length = N at *
  by_cases h4 : 4 < D
  · have d1 : decide ((4 : Int) < (D : Int)) = true := by simp; omega
    have d1' : decide (4 < D) = true := by simp; omega
    clear hm
    go_enter Tryz.func19, Tryz.ntmps19
    go_wp2_with fail
    go_ret
    exact ⟨rfl, hb _⟩
  · have d1 : decide ((4 : Int) < (D : Int)) = false := by simp; omega
    have d1' : decide (4 < D) = false := by simp; omega
    have d2 : decide ((12 : Int) < (N : Int)) = true := by simp; omega
    have d2' : decide (12 < N) = true := by simp; omega
    clear hm h4
    go_enter Tryz.func19, Tryz.ntmps19
    go_wp2_with fail
    go_ret
    exact ⟨rfl, hb _⟩
set_option maxRecDepth 8000 in
set_option maxHeartbeats 8000000 in
theorem checkArch_some (ad af : Option Addr) (cd cf : Nat) (a : Ar.A) (w : World) (h : ArV w ad af a) (hs : SaneA a) (m1 : a.dicts.length ≤ 4) (m2 : a.files.length ≤ 12) :
    Calls Tryz.prog 19 #[av ad cd af cf a] w fun e w' => e = .returned (.int .i64 (Ar.chk a)) ∧ Below w.heap.size w w' := by
  have hb := fun o => (Below.refl w.heap.size w).alloc (Nat.le_refl _) o
  have HX : Hid (∀ w', Below w.heap.size w w' → ∀ k, k < a.dicts.length → ∃ b off, ad = some ⟨b, off, none⟩ ∧ b < w'.heap.size ∧ w'.cell? ⟨b, off + k, none⟩ = some (.string (Tr.xa a.dicts k))) := fun w' hb k hk => (h.ds.below hb).at hk
  have HF : Hid (∀ w', Below w.heap.size w w' → ∀ k, k < a.files.length → ∃ b off, af = some ⟨b, off, none⟩ ∧ b < w'.heap.size ∧ FlC w' b (off + k * 5) (Ar.fa a.files k)) := fun w' h9 k hk => (h.fs.below h9).at hk
  have HL2 : Hid (∀ k, k < a.dicts.length → Ar.lgK a.dicts k = none → 256 < (Tr.xa a.dicts k).size → Ar.chk a = 2) := fun k hk hl hs => by
    have h1 : Ar.lgK a.dicts (k + 1) = some k := by rw [Ar.lgK, hl]; exact if_pos hs
    have h9 := Ar.lgK_some h1 (a.dicts.length - (k + 1))
    rw [show k + 1 + (a.dicts.length - (k + 1)) = a.dicts.length by omega] at h9
    have : Ar.many a = true := by unfold Ar.many; rw [h9]; simp
    unfold Ar.chk; rw [if_pos this]
  have HL0 : Hid (∀ k, Ar.lgK a.dicts k = none → (Tr.xa a.dicts k).size ≤ 256 → Ar.lgK a.dicts (k + 1) = none) := fun k hl hs => by rw [Ar.lgK, hl]; exact if_neg (by omega)
  have HM : Hid (Ar.lgK a.dicts a.dicts.length = none → Ar.many a = false) := fun hl => by unfold Ar.many; rw [hl, decide_eq_false (by omega)]; rfl
  have HB : Hid (Ar.many a = false → ∀ k, k < a.files.length → Ar.okAt a k = false → Ar.chk a = 1) := fun hm k hk ho => by unfold Ar.chk; rw [hm, Ar.okAt_false hk ho]; rfl
  have HG : Hid (Ar.many a = false → Ar.gdK a a.files.length = true → Ar.chk a = 0) := fun hm hg => Ar.chk_zero.2 ⟨hm, hg⟩
  have HD : Hid (∀ (n : Int), Ar.has a.dicts n = true → ∀ w', Below w.heap.size w w' → Calls Tryz.prog 63 #[av ad cd af cf a, .int .i64 n] w' fun e w2 => e = .returned (.string (Ar.dct a.dicts n)) ∧ Below w'.heap.size w' w2) := fun n hh w' h9 => dictOf_any ad af cd cf a n w' (h.ds.below h9) hs.nd hh
  have HU : Hid (Ar.many a = false → ∀ k w', Calls Tryz.prog 62 #[.string (Ar.dct a.dicts (Ar.fa a.files k).dict), .string (Ar.fa a.files k).blk] w' fun e w2 => UnpSaid (Ar.up a.dicts (Ar.fa a.files k)) w' e w2) := fun hm k w' => unpackOf_any _ _ w' (Ar.dct_size hm _) (hs.bk k)
  have HN : Hid (∀ k, (Ar.fa a.files k).name.size ≤ 140737488355328) := hs.nm
  obtain ⟨c, hc⟩ : ∃ c, Ar.chk a = c := ⟨_, rfl⟩
  rw [hc] at HL2 HB HG
  rw [hc]
  clear hc h hs
  unfold av at HD ⊢
  obtain ⟨D, hD⟩ : ∃ D, a.dicts.length = D := ⟨_, rfl⟩
  obtain ⟨N, hN⟩ : ∃ N, a.files.length = N := ⟨_, rfl⟩
  simp only [hD, hN] at HX HF HL2 HM HB HG HD m1 m2 ⊢
  have HNN : Hid (a.files.length = N) := hN
  have HDD : Hid (a.dicts.length = D) := hD
  clear hN hD
  have hD' : (D : Int) ≤ 4 := by omega
  have hN' : (N : Int) ≤ 12 := by omega
  have e1 : decide ((4 : Int) < (D : Int)) = false := by simp; omega
  have e1' : decide (4 < D) = false := by simp; omega
  have e2 : decide ((12 : Int) < (N : Int)) = false := by simp; omega
  have e2' : decide (12 < N) = false := by simp; omega
  go_enter Tryz.func19, Tryz.ntmps19
  go_wp2_with fail
  have a0 : (w.alloc (.cells #[.slice ad D cd, .slice af N cf] 25 (0, 0))).cell? ⟨w.heap.size, 0, none⟩ = some (.slice ad D cd) := World.cell?_alloc_new _ _ _ 0
  have a1 : (w.alloc (.cells #[.slice ad D cd, .slice af N cf] 25 (0, 0))).cell? ⟨w.heap.size, 1, none⟩ = some (.slice af N cf) := World.cell?_alloc_new _ _ _ 1
  have B1 := hb (.cells #[.slice ad D cd, .slice af N cf] 25 (0, 0))
  have hz1 : w.heap.size < (w.alloc (.cells #[.slice ad D cd, .slice af N cf] 25 (0, 0))).heap.size := by simp
  generalize (w.alloc (.cells #[.slice ad D cd, .slice af N cf] 25 (0, 0))) = w1 at *
  go_loopw [3] (fun i wr => ∃ k : Nat, k ≤ D ∧ i = .int .i64 k ∧ Hid (Ar.lgK a.dicts k = none) ∧ wr = w1) (fun i _ => D - (intOf i).toNat)
  case atStart => exact ⟨0, by omega, rfl, rfl, rfl⟩
  case round =>
    obtain ⟨k, hk2, rfl, HL, hwr⟩ := hrel
    have hwr := hwr.symm
    subst hwr
    by_cases hlt : k < D
    · have d1 : decide ((k : Int) < (D : Int)) = true := by simp; omega
      have d1' : decide (k < D) = true := by simp; omega
      have hki : (k : Int) < (D : Int) := by omega
      obtain ⟨b, off, rfl, hbl, hcell⟩ := HX.out w1 B1 k hlt
      by_cases hs : 256 < (Tr.xa a.dicts k).size
      · have HR : Hid (c = 2) := HL2.out k hlt HL.out hs
        have d2 : decide ((256 : Int) < ((Tr.xa a.dicts k).size : Int)) = true := decide_eq_true (by omega)
        have d2' : decide (256 < (Tr.xa a.dicts k).size) = true := decide_eq_true (by omega)
        clear HL
        generalize Tr.xa a.dicts k = X at *
        go_wp2_with fail
        go_ret
        exact ⟨congrArg (fun x => Ending.returned (Value.int .i64 x)) HR.out.symm, B1⟩
      · have HN1 : Hid (Ar.lgK a.dicts (k + 1) = none) := HL0.out k HL.out (by omega)
        have d2 : decide ((256 : Int) < ((Tr.xa a.dicts k).size : Int)) = false := decide_eq_false (by omega)
        have d2' : decide (256 < (Tr.xa a.dicts k).size) = false := decide_eq_false (by omega)
        generalize Tr.xa a.dicts k = X at *
        clear hs
        go_wp2_with fail
        go_roundw
        case rel => exact ⟨k + 1, by omega, by go_num, HN1, by trivial⟩
        case measure => simp [intOf]; omega
    · obtain rfl : k = D := by omega
      have d1 : decide ((k : Int) < (k : Int)) = false := by simp
      have HMF : Hid (Ar.many a = false) := HM.out HL.out
      have HBk : Hid (∀ m, m < N → Ar.okAt a m = false → c = 1) := HB.out HMF.out
      have HGk : Hid (Ar.gdK a N = true → c = 0) := HG.out HMF.out
      have HUk : Hid (∀ m w', Calls Tryz.prog 62 #[.string (Ar.dct a.dicts (Ar.fa a.files m).dict), .string (Ar.fa a.files m).blk] w' fun e w2 => UnpSaid (Ar.up a.dicts (Ar.fa a.files m)) w' e w2) := HU.out HMF.out
      clear HL HM HL2 HL0 HB HG HU HMF HX
      go_wp2_with fail
      go_loopw [4] (fun i w2 => ∃ m : Nat, m ≤ N ∧ i = .int .i64 m ∧ Hid (Ar.gdK a m = true) ∧ Below w1.heap.size w1 w2) (fun i _ => N - (intOf i).toNat)
      case atStart => exact ⟨0, by omega, rfl, rfl, Below.refl _ _⟩
      case round =>
        obtain ⟨m, hm2, rfl, HGm, B2⟩ := hrel
        have a0' := (B2.cell (p := ⟨w.heap.size, 0, none⟩) hz1).trans a0
        have a1' := (B2.cell (p := ⟨w.heap.size, 1, none⟩) hz1).trans a1
        have B3 := bch B1 B2 (Nat.le_refl _)
        have hz2 : w.heap.size < wr.heap.size := Nat.lt_of_lt_of_le hz1 B2.size
        by_cases hlt : m < N
        · have d2 : decide ((m : Int) < (N : Int)) = true := by simp; omega
          have d2' : decide (m < N) = true := by simp; omega
          have hmi : (m : Int) < (N : Int) := by omega
          obtain ⟨b, off, rfl, hbl, hcell⟩ := HF.out wr B3 m hlt
          obtain ⟨c0, c1, c2, c3, c4⟩ := hcell
          have CN : Hid (∀ w', Calls Tryz.prog 56 #[.string (Ar.fa a.files m).name] w' fun e w3 => e = .returned (.bool (Ar.isNm (Ar.fa a.files m).name)) ∧ w3 = w') := fun w' => isNameOf_any _ w' (HN.out m)
          have CW : Hid (∀ w', Calls Tryz.prog 57 #[.int .i64 (Ar.fa a.files m).dict, .int .i64 0, .int .i64 (k : Nat)] w' fun e w3 => e = .returned (.bool (Ar.has a.dicts (Ar.fa a.files m).dict)) ∧ w3 = w') := fun w' => by
            have := within_any (Ar.fa a.files m).dict 0 (k : Nat) w'
            unfold Ar.has
            rw [HDD.out]
            exact this
          have HP : Hid (∀ x y z, Ar.isNm (Ar.fa a.files m).name = x → (decide (m = 0) || Tr.bl (Ar.fa a.files (m - 1)).name (Ar.fa a.files m).name) = y → Ar.okf a.dicts (Ar.fa a.files m) = z → Ar.okAt a m = (x && y && z)) := fun x y z h1 h2 h3 => by unfold Ar.okAt; rw [h1, h2, h3]
          have HC1 : Hid (Ar.okAt a m = false → c = 1) := HBk.out m hlt
          have HQ : Hid (c = 1 → ∀ w', Below w.heap.size w w' → (Ending.returned (.int .i64 1) = Ending.returned (.int .i64 c)) ∧ Below w.heap.size w w') := fun h1 w' h2 => ⟨by rw [h1], h2⟩
          have BF : Hid (∀ o n, Below w.heap.size w ((wr.alloc o).drewN n)) := fun o n => below_drewN (B3.alloc B3.size o) n
          cases hnm : Ar.isNm (Ar.fa a.files m).name with
          | false =>
            have hg : Hid (c = 1) := HC1.out (by rw [HP.out false _ _ hnm rfl rfl]; rfl)
            rw [hnm] at CN
            clear hnm HP HC1 CW
            generalize (Ar.fa a.files m).name = f0 at *
            generalize (Ar.fa a.files m).dict = f1 at *
            generalize (Ar.fa a.files m).size = f2 at *
            generalize (Ar.fa a.files m).sum = f3 at *
            generalize (Ar.fa a.files m).blk = f4 at *
            go_wp2_with fail
            go_quiet ((go_at_call 56; exact Calls.quiet_of_same (CN.out _)))
            all_goals
              go_wp2_with fail
              go_ret
              exact HQ.out hg.out _ (BF.out _ _)
          | true =>
            rw [hnm] at CN
            by_cases hm0 : m = 0
            · have d3 : decide ((0 : Int) < (m : Int)) = false := by simp; omega
              have d3' : decide (0 < m) = false := by simp; omega
              have hord : (decide (m = 0) || Tr.bl (Ar.fa a.files (m - 1)).name (Ar.fa a.files m).name) = true := by rw [decide_eq_true hm0]; rfl
              clear hm0
              cases hhas : Ar.has a.dicts (Ar.fa a.files m).dict with
              | false =>
                have hg : Hid (c = 1) := HC1.out (by rw [HP.out true true false hnm hord (by unfold Ar.okf; rw [hhas]; rfl)]; rfl)
                rw [hhas] at CW
                clear hnm HP HC1 hhas hord
                generalize (Ar.fa a.files m).name = f0 at *
                generalize (Ar.fa a.files m).dict = f1 at *
                generalize (Ar.fa a.files m).size = f2 at *
                generalize (Ar.fa a.files m).sum = f3 at *
                generalize (Ar.fa a.files m).blk = f4 at *
                go_wp2_with fail
                go_quiet (first | (go_at_call 56; exact Calls.quiet_of_same (CN.out _)) | (go_at_call 57; exact Calls.quiet_of_same (CW.out _)))
                all_goals
                  go_wp2_with fail
                  go_ret
                  exact HQ.out hg.out _ (BF.out _ _)
              | true =>
                have CD : Hid (∀ w', Below w.heap.size w w' → Calls Tryz.prog 63 #[.agg #[.slice ad k cd, .slice (some ⟨b, off, none⟩) N cf], .int .i64 (Ar.fa a.files m).dict] w' fun e w3 => e = .returned (.string (Ar.dct a.dicts (Ar.fa a.files m).dict)) ∧ Below w'.heap.size w' w3) := HD.out _ hhas
                have CU : Hid (∀ w', Calls Tryz.prog 62 #[.string (Ar.dct a.dicts (Ar.fa a.files m).dict), .string (Ar.fa a.files m).blk] w' fun e w3 => UnpSaid (Ar.up a.dicts (Ar.fa a.files m)) w' e w3) := HUk.out m
                have HO : Hid (∀ z, Ar.okf a.dicts (Ar.fa a.files m) = z → Ar.okAt a m = z) := fun z h9 => by rw [HP.out true true z hnm hord h9]; rfl
                have HE : Hid (Ar.okf a.dicts (Ar.fa a.files m) = decide ((Ar.up a.dicts (Ar.fa a.files m)).2 = 0 ∧ ((Ar.up a.dicts (Ar.fa a.files m)).1.size : Int) = (Ar.fa a.files m).size ∧ Ar.sm (Ar.up a.dicts (Ar.fa a.files m)).1 = (Ar.fa a.files m).sum)) := by show _ = _; unfold Ar.okf; rw [hhas, Bool.true_and]
                have HZ : Hid ((Ar.up a.dicts (Ar.fa a.files m)).2 = 0 → (Ar.up a.dicts (Ar.fa a.files m)).1.size ≤ 512) := fun h9 => Bk.unp_size h9
                rw [hhas] at CW
                have HGn : Hid (Ar.okAt a m = true → Ar.gdK a (m + 1) = true) := fun h9 => by rw [Ar.gdK, HGm.out, h9]; rfl
                clear hnm HP hhas hord
                unfold UnpSaid at CU
                obtain ⟨U, hU⟩ : ∃ U, Ar.up a.dicts (Ar.fa a.files m) = U := ⟨_, rfl⟩
                simp only [hU] at CU HE HZ
                obtain ⟨T, E⟩ := U
                simp only at CU HE HZ
                clear hU
                generalize Ar.okf a.dicts (Ar.fa a.files m) = ok at *
                generalize Ar.dct a.dicts (Ar.fa a.files m).dict = X at *
                generalize (Ar.fa a.files m).name = f0 at *
                generalize (Ar.fa a.files m).dict = f1 at *
                generalize (Ar.fa a.files m).size = f2 at *
                generalize (Ar.fa a.files m).sum = f3 at *
                generalize (Ar.fa a.files m).blk = f4 at *
                go_wp2_with fail
                go_quiet (first | (go_at_call 56; exact Calls.quiet_of_same (CN.out _)) | (go_at_call 57; exact Calls.quiet_of_same (CW.out _)))
                all_goals
                  have hFs : wr.heap.size < (wr.alloc (.cells #[.string f0, .int .i64 f1, .int .i64 f2, .int .i64 f3, .string f4] 46 (0, 0))).heap.size := by simp
                  have BA : Below wr.heap.size wr (wr.alloc (.cells #[.string f0, .int .i64 f1, .int .i64 f2, .int .i64 f3, .string f4] 46 (0, 0))) := (Below.refl _ _).alloc (Nat.le_refl _) _
                  have B9 := below_drewN (Below.refl (wr.alloc (.cells #[.string f0, .int .i64 f1, .int .i64 f2, .int .i64 f3, .string f4] 46 (0, 0))).heap.size (wr.alloc (.cells #[.string f0, .int .i64 f1, .int .i64 f2, .int .i64 f3, .string f4] 46 (0, 0)))) nq
                  have hF := fun i => (B9.cell (p := ⟨wr.heap.size, i, none⟩) hFs).trans (World.cell?_alloc_new wr #[.string f0, .int .i64 f1, .int .i64 f2, .int .i64 f3, .string f4] 46 i)
                  have hFz : wr.heap.size < ((wr.alloc (.cells #[.string f0, .int .i64 f1, .int .i64 f2, .int .i64 f3, .string f4] 46 (0, 0))).drewN nq).heap.size := Nat.lt_of_lt_of_le hFs B9.size
                  have BA9 := bch BA B9 (Nat.le_refl _)
                  clear BA B9 hFs
                  generalize (wr.alloc (.cells #[.string f0, .int .i64 f1, .int .i64 f2, .int .i64 f3, .string f4] 46 (0, 0))).drewN nq = wF at *
                  have q0 := (BA9.cell (p := ⟨w.heap.size, 0, none⟩) hz2).trans a0'
                  have q1 := (BA9.cell (p := ⟨w.heap.size, 1, none⟩) hz2).trans a1'
                  have hzF : w.heap.size < wF.heap.size := Nat.lt_of_lt_of_le hz2 BA9.size
                  have k1 : wF.cell? ⟨wr.heap.size, 1, none⟩ = some (.int .i64 f1) := hF 1
                  have k2 : wF.cell? ⟨wr.heap.size, 2, none⟩ = some (.int .i64 f2) := hF 2
                  have k3 : wF.cell? ⟨wr.heap.size, 3, none⟩ = some (.int .i64 f3) := hF 3
                  have k4 : wF.cell? ⟨wr.heap.size, 4, none⟩ = some (.string f4) := hF 4
                  have B10 := bch B3 BA9 (Nat.le_refl _)
                  have B11 := bch B2 BA9 (Nat.le_refl _)
                  have HS : Hid (∀ w', Below wF.heap.size wF w' → Below wF.heap.size wF w' ∧ w'.cell? ⟨w.heap.size, 0, none⟩ = some (.slice ad k cd) ∧ w'.cell? ⟨w.heap.size, 1, none⟩ = some (.slice (some ⟨b, off, none⟩) N cf) ∧ w'.cell? ⟨wr.heap.size, 1, none⟩ = some (.int .i64 f1) ∧ w'.cell? ⟨wr.heap.size, 4, none⟩ = some (.string f4)) := fun w' h9 =>
                    ⟨h9, (h9.cell (p := ⟨w.heap.size, 0, none⟩) hzF).trans q0, (h9.cell (p := ⟨w.heap.size, 1, none⟩) hzF).trans q1, (h9.cell (p := ⟨wr.heap.size, 1, none⟩) hFz).trans k1, (h9.cell (p := ⟨wr.heap.size, 4, none⟩) hFz).trans k4⟩
                  have CD' : Hid (∀ w', Below wF.heap.size wF w' → Calls Tryz.prog 63 #[.agg #[.slice ad k cd, .slice (some ⟨b, off, none⟩) N cf], .int .i64 f1] w' fun e w3 => e = .returned (.string X) ∧ Below w'.heap.size w' w3) := fun w' h9 => CD.out w' (bch B10 h9 (Nat.le_refl _))
                  clear hF a0 a1 a0' a1' q0 q1 c0 c1 c2 c3 c4 CD CN CW BF HF HD HUk
                  obtain ⟨Fb, hFb⟩ : ∃ Fb, wr.heap.size = Fb := ⟨_, rfl⟩
                  rw [hFb] at HS k1 k2 k3 k4 hFz ⊢
                  clear hFb
                  by_cases hE : E = 0
                  · have CU' : Hid (∀ w', Calls Tryz.prog 62 #[.string X, .string f4] w' fun e w2 => e = .returned (.tuple #[.string T, .bool true]) ∧ Below w'.heap.size w' w2) := fun w' => (CU.out w').mono (by
                      rintro e w2 ⟨x, rfl, h1, _, G⟩
                      exact ⟨by rw [h1 hE, decide_eq_true hE], G⟩)
                    have hT := HZ.out hE
                    have hT' : (T.size : Int) ≤ 512 := by omega
                    have C6 : Hid (∀ w', Calls Tryz.prog 64 #[.string T] w' fun e w2 => e = .returned (.int .i64 (Ar.sm T)) ∧ w2 = w') := fun w' => sumOf_any T w' (by omega)
                    have HE' : Hid (ok = decide ((T.size : Int) = f2 ∧ Ar.sm T = f3)) := by show _ = _; rw [HE.out]; simp [hE]
                    clear CU HE HZ hE
                    generalize Ar.sm T = M at *
                    go_wp2_with fail
                    go_region_held3 (fun w' => Below wF.heap.size wF w' ∧ w'.cell? ⟨w.heap.size, 0, none⟩ = some (.slice ad k cd) ∧ w'.cell? ⟨w.heap.size, 1, none⟩ = some (.slice (some ⟨b, off, none⟩) N cf) ∧ w'.cell? ⟨Fb, 1, none⟩ = some (.int .i64 f1) ∧ w'.cell? ⟨Fb, 4, none⟩ = some (.string f4))
                      (first | (exact HS.out _ ((Below.refl _ _).drew)) | (exact HS.out _ (bch (And.left (by assumption)) G6 (Nat.le_refl _))) | (exact HS.out _ (bch (And.left (by assumption)) G5 (Nat.le_refl _))))
                      (first
                        | (go_at_call 63; refine (CD'.out _ ?_).mono ?_; exact And.left (by assumption); rintro e w5 ⟨rfl, G5⟩)
                        | (go_at_call 62; refine (CU'.out _).mono ?_; rintro e w6 ⟨rfl, G6⟩))
                    all_goals
                      have B12 : Below wF.heap.size wF w6 := bch (bch ((Below.refl _ _).drew) G5 (Nat.le_refl _)) G6 (Nat.le_refl _)
                      have n2 := (B12.cell (p := ⟨Fb, 2, none⟩) hFz).trans k2
                      have n3 := (B12.cell (p := ⟨Fb, 3, none⟩) hFz).trans k3
                      have B13 := bch B10 B12 (Nat.le_refl _)
                      have B14 := bch B11 B12 (Nat.le_refl _)
                      have B15 : Hid (∀ n, Below w.heap.size w (w6.drewN n) ∧ Below w1.heap.size w1 (w6.drewN n)) := fun n => ⟨below_drewN B13 n, below_drewN B14 n⟩
                      clear G5 G6 HS CD' CU' k1 k2 k3 k4 B10 B11 B12 B13 B14
                      by_cases h2 : (T.size : Int) = f2
                      · by_cases h3 : M = f3
                        · have hok : Hid (Ar.okAt a m = true) := HO.out true (by rw [HE'.out]; exact decide_eq_true ⟨h2, h3⟩)
                          have e3 : (M == f3) = true := by simpa using h3
                          have e4 : (M != f3) = false := by simpa using h3
                          have e5 : ((T.size : Int) == f2) = true := by simpa using h2
                          have e6 : ((T.size : Int) != f2) = false := by simpa using h2
                          subst h3 h2
                          clear HE' HO
                          go_wp2_with fail
                          go_quiet ((go_at_call 64; exact Calls.quiet_of_same (C6.out _)))
                          all_goals
                            go_wp2_with fail
                            go_roundw
                            case rel => exact ⟨m + 1, by omega, by go_num, HGn.out hok.out, (B15.out _).2⟩
                            case measure => simp [intOf]; omega
                        · have hok : Hid (c = 1) := HC1.out (HO.out false (by rw [HE'.out]; exact decide_eq_false (fun h => h3 h.2)))
                          have e3 : (M == f3) = false := by simpa using h3
                          have e4 : (M != f3) = true := by simpa using h3
                          have e5 : decide (M = f3) = false := decide_eq_false h3
                          subst h2
                          clear HE' HO h3
                          go_wp2_with fail
                          go_quiet ((go_at_call 64; exact Calls.quiet_of_same (C6.out _)))
                          all_goals
                            go_wp2_with fail
                            go_ret
                            exact HQ.out hok.out _ (B15.out _).1
                      · have hok : Hid (c = 1) := HC1.out (HO.out false (by rw [HE'.out]; exact decide_eq_false (fun h => h2 h.1)))
                        have e3 : ((T.size : Int) == f2) = false := by simpa using h2
                        have e4 : ((T.size : Int) != f2) = true := by simpa using h2
                        have e5 : decide ((T.size : Int) = f2) = false := decide_eq_false h2
                        clear HE' HO h2 C6
                        go_wp2_with fail
                        go_quiet (fail)
                        all_goals
                          go_wp2_with fail
                          go_ret
                          exact HQ.out hok.out _ (B15.out _).1
                  · have CU' : Hid (∀ w', Calls Tryz.prog 62 #[.string X, .string f4] w' fun e w2 => ∃ x, e = .returned (.tuple #[.string x, .bool false]) ∧ Below w'.heap.size w' w2) := fun w' => (CU.out w').mono (by
                      rintro e w2 ⟨x, rfl, _, _, G⟩
                      exact ⟨x, by rw [decide_eq_false hE], G⟩)
                    have hok : Hid (c = 1) := HC1.out (HO.out false (by rw [HE.out]; exact decide_eq_false (fun h => hE h.1)))
                    clear CU HE HZ hE HO
                    go_wp2_with fail
                    go_region_held3 (fun w' => Below wF.heap.size wF w' ∧ w'.cell? ⟨w.heap.size, 0, none⟩ = some (.slice ad k cd) ∧ w'.cell? ⟨w.heap.size, 1, none⟩ = some (.slice (some ⟨b, off, none⟩) N cf) ∧ w'.cell? ⟨Fb, 1, none⟩ = some (.int .i64 f1) ∧ w'.cell? ⟨Fb, 4, none⟩ = some (.string f4))
                      (first | (exact HS.out _ ((Below.refl _ _).drew)) | (exact HS.out _ (bch (And.left (by assumption)) G6 (Nat.le_refl _))) | (exact HS.out _ (bch (And.left (by assumption)) G5 (Nat.le_refl _))))
                      (first
                        | (go_at_call 63; refine (CD'.out _ ?_).mono ?_; exact And.left (by assumption); rintro e w5 ⟨rfl, G5⟩)
                        | (go_at_call 62; refine (CU'.out _).mono ?_; rintro e w6 ⟨x, rfl, G6⟩))
                    all_goals
                      have B13 := bch B10 (bch (bch ((Below.refl _ _).drew) G5 (Nat.le_refl _)) G6 (Nat.le_refl _)) (Nat.le_refl _)
                      have B15 : Hid (∀ n, Below w.heap.size w (w6.drewN n)) := fun n => below_drewN B13 n
                      clear G5 G6 HS CD' CU' k1 k2 k3 k4 B10 B11 B13
                      go_wp2_with fail
                      go_quiet (fail)
                      all_goals
                        go_wp2_with fail
                        go_ret
                        exact HQ.out hok.out _ (B15.out _)
            · have d3 : decide ((0 : Int) < (m : Int)) = true := by simp; omega
              have d3' : decide (0 < m) = true := by simp; omega
              have hw1 : IntKind.i64.wrap ((m : Int) - 1) = (m : Int) - 1 := IntWalk.i64_in _ ⟨by omega, by omega⟩
              obtain ⟨b', off', hbo, _, hprev⟩ := HF.out wr B3 (m - 1) (by omega)
              simp only [Option.some.injEq, Addr.mk.injEq, and_true] at hbo
              obtain ⟨rfl, rfl⟩ := hbo
              have p0 := hprev.c0
              have p0' : wr.cell? ⟨b, off + ((m : Int) - 1).toNat * 5, none⟩ = some (.string (Ar.fa a.files (m - 1)).name) := by rw [show ((m : Int) - 1).toNat = m - 1 by omega]; exact p0
              clear hprev
              cases hbl1 : Tr.bl (Ar.fa a.files (m - 1)).name (Ar.fa a.files m).name with
              | false =>
                have hord : (decide (m = 0) || Tr.bl (Ar.fa a.files (m - 1)).name (Ar.fa a.files m).name) = false := by rw [decide_eq_false hm0, hbl1]; rfl
                have hg : Hid (c = 1) := HC1.out (by rw [HP.out true false _ hnm hord rfl]; rfl)
                clear hnm HP HC1 CW hord
                unfold Tr.bl at hbl1
                generalize (Ar.fa a.files (m - 1)).name = f9 at *
                generalize (Ar.fa a.files m).name = f0 at *
                generalize (Ar.fa a.files m).dict = f1 at *
                generalize (Ar.fa a.files m).size = f2 at *
                generalize (Ar.fa a.files m).sum = f3 at *
                generalize (Ar.fa a.files m).blk = f4 at *
                go_wp2_with fail
                go_quiet ((go_at_call 56; exact Calls.quiet_of_same (CN.out _)))
                all_goals
                  go_wp2_with fail
                  go_ret
                  exact HQ.out hg.out _ (BF.out _ _)
              | true =>
                have hord : (decide (m = 0) || Tr.bl (Ar.fa a.files (m - 1)).name (Ar.fa a.files m).name) = true := by rw [decide_eq_false hm0, hbl1]; rfl
                unfold Tr.bl at hbl1
                generalize (Ar.fa a.files (m - 1)).name = f9 at *
                cases hhas : Ar.has a.dicts (Ar.fa a.files m).dict with
                | false =>
                  have hg : Hid (c = 1) := HC1.out (by rw [HP.out true true false hnm hord (by unfold Ar.okf; rw [hhas]; rfl)]; rfl)
                  rw [hhas] at CW
                  clear hnm HP HC1 hhas hord
                  generalize (Ar.fa a.files m).name = f0 at *
                  generalize (Ar.fa a.files m).dict = f1 at *
                  generalize (Ar.fa a.files m).size = f2 at *
                  generalize (Ar.fa a.files m).sum = f3 at *
                  generalize (Ar.fa a.files m).blk = f4 at *
                  go_wp2_with fail
                  go_quiet (first | (go_at_call 56; exact Calls.quiet_of_same (CN.out _)) | (go_at_call 57; exact Calls.quiet_of_same (CW.out _)))
                  all_goals
                    go_wp2_with fail
                    go_ret
                    exact HQ.out hg.out _ (BF.out _ _)
                | true =>
                  have CD : Hid (∀ w', Below w.heap.size w w' → Calls Tryz.prog 63 #[.agg #[.slice ad k cd, .slice (some ⟨b, off, none⟩) N cf], .int .i64 (Ar.fa a.files m).dict] w' fun e w3 => e = .returned (.string (Ar.dct a.dicts (Ar.fa a.files m).dict)) ∧ Below w'.heap.size w' w3) := HD.out _ hhas
                  have CU : Hid (∀ w', Calls Tryz.prog 62 #[.string (Ar.dct a.dicts (Ar.fa a.files m).dict), .string (Ar.fa a.files m).blk] w' fun e w3 => UnpSaid (Ar.up a.dicts (Ar.fa a.files m)) w' e w3) := HUk.out m
                  have HO : Hid (∀ z, Ar.okf a.dicts (Ar.fa a.files m) = z → Ar.okAt a m = z) := fun z h9 => by rw [HP.out true true z hnm hord h9]; rfl
                  have HE : Hid (Ar.okf a.dicts (Ar.fa a.files m) = decide ((Ar.up a.dicts (Ar.fa a.files m)).2 = 0 ∧ ((Ar.up a.dicts (Ar.fa a.files m)).1.size : Int) = (Ar.fa a.files m).size ∧ Ar.sm (Ar.up a.dicts (Ar.fa a.files m)).1 = (Ar.fa a.files m).sum)) := by show _ = _; unfold Ar.okf; rw [hhas, Bool.true_and]
                  have HZ : Hid ((Ar.up a.dicts (Ar.fa a.files m)).2 = 0 → (Ar.up a.dicts (Ar.fa a.files m)).1.size ≤ 512) := fun h9 => Bk.unp_size h9
                  rw [hhas] at CW
                  have HGn : Hid (Ar.okAt a m = true → Ar.gdK a (m + 1) = true) := fun h9 => by rw [Ar.gdK, HGm.out, h9]; rfl
                  clear hnm HP hhas hord
                  unfold UnpSaid at CU
                  obtain ⟨U, hU⟩ : ∃ U, Ar.up a.dicts (Ar.fa a.files m) = U := ⟨_, rfl⟩
                  simp only [hU] at CU HE HZ
                  obtain ⟨T, E⟩ := U
                  simp only at CU HE HZ
                  clear hU
                  generalize Ar.okf a.dicts (Ar.fa a.files m) = ok at *
                  generalize Ar.dct a.dicts (Ar.fa a.files m).dict = X at *
                  generalize (Ar.fa a.files m).name = f0 at *
                  generalize (Ar.fa a.files m).dict = f1 at *
                  generalize (Ar.fa a.files m).size = f2 at *
                  generalize (Ar.fa a.files m).sum = f3 at *
                  generalize (Ar.fa a.files m).blk = f4 at *
                  go_wp2_with fail
                  go_quiet (first | (go_at_call 56; exact Calls.quiet_of_same (CN.out _)) | (go_at_call 57; exact Calls.quiet_of_same (CW.out _)))
                  all_goals
                    have hFs : wr.heap.size < (wr.alloc (.cells #[.string f0, .int .i64 f1, .int .i64 f2, .int .i64 f3, .string f4] 46 (0, 0))).heap.size := by simp
                    have BA : Below wr.heap.size wr (wr.alloc (.cells #[.string f0, .int .i64 f1, .int .i64 f2, .int .i64 f3, .string f4] 46 (0, 0))) := (Below.refl _ _).alloc (Nat.le_refl _) _
                    have B9 := below_drewN (Below.refl (wr.alloc (.cells #[.string f0, .int .i64 f1, .int .i64 f2, .int .i64 f3, .string f4] 46 (0, 0))).heap.size (wr.alloc (.cells #[.string f0, .int .i64 f1, .int .i64 f2, .int .i64 f3, .string f4] 46 (0, 0)))) nq
                    have hF := fun i => (B9.cell (p := ⟨wr.heap.size, i, none⟩) hFs).trans (World.cell?_alloc_new wr #[.string f0, .int .i64 f1, .int .i64 f2, .int .i64 f3, .string f4] 46 i)
                    have hFz : wr.heap.size < ((wr.alloc (.cells #[.string f0, .int .i64 f1, .int .i64 f2, .int .i64 f3, .string f4] 46 (0, 0))).drewN nq).heap.size := Nat.lt_of_lt_of_le hFs B9.size
                    have BA9 := bch BA B9 (Nat.le_refl _)
                    clear BA B9 hFs
                    generalize (wr.alloc (.cells #[.string f0, .int .i64 f1, .int .i64 f2, .int .i64 f3, .string f4] 46 (0, 0))).drewN nq = wF at *
                    have q0 := (BA9.cell (p := ⟨w.heap.size, 0, none⟩) hz2).trans a0'
                    have q1 := (BA9.cell (p := ⟨w.heap.size, 1, none⟩) hz2).trans a1'
                    have hzF : w.heap.size < wF.heap.size := Nat.lt_of_lt_of_le hz2 BA9.size
                    have k1 : wF.cell? ⟨wr.heap.size, 1, none⟩ = some (.int .i64 f1) := hF 1
                    have k2 : wF.cell? ⟨wr.heap.size, 2, none⟩ = some (.int .i64 f2) := hF 2
                    have k3 : wF.cell? ⟨wr.heap.size, 3, none⟩ = some (.int .i64 f3) := hF 3
                    have k4 : wF.cell? ⟨wr.heap.size, 4, none⟩ = some (.string f4) := hF 4
                    have B10 := bch B3 BA9 (Nat.le_refl _)
                    have B11 := bch B2 BA9 (Nat.le_refl _)
                    have HS : Hid (∀ w', Below wF.heap.size wF w' → Below wF.heap.size wF w' ∧ w'.cell? ⟨w.heap.size, 0, none⟩ = some (.slice ad k cd) ∧ w'.cell? ⟨w.heap.size, 1, none⟩ = some (.slice (some ⟨b, off, none⟩) N cf) ∧ w'.cell? ⟨wr.heap.size, 1, none⟩ = some (.int .i64 f1) ∧ w'.cell? ⟨wr.heap.size, 4, none⟩ = some (.string f4)) := fun w' h9 =>
                      ⟨h9, (h9.cell (p := ⟨w.heap.size, 0, none⟩) hzF).trans q0, (h9.cell (p := ⟨w.heap.size, 1, none⟩) hzF).trans q1, (h9.cell (p := ⟨wr.heap.size, 1, none⟩) hFz).trans k1, (h9.cell (p := ⟨wr.heap.size, 4, none⟩) hFz).trans k4⟩
                    have CD' : Hid (∀ w', Below wF.heap.size wF w' → Calls Tryz.prog 63 #[.agg #[.slice ad k cd, .slice (some ⟨b, off, none⟩) N cf], .int .i64 f1] w' fun e w3 => e = .returned (.string X) ∧ Below w'.heap.size w' w3) := fun w' h9 => CD.out w' (bch B10 h9 (Nat.le_refl _))
                    clear hF a0 a1 a0' a1' q0 q1 c0 c1 c2 c3 c4 CD CN CW BF HF HD HUk
                    obtain ⟨Fb, hFb⟩ : ∃ Fb, wr.heap.size = Fb := ⟨_, rfl⟩
                    rw [hFb] at HS k1 k2 k3 k4 hFz ⊢
                    clear hFb
                    by_cases hE : E = 0
                    · have CU' : Hid (∀ w', Calls Tryz.prog 62 #[.string X, .string f4] w' fun e w2 => e = .returned (.tuple #[.string T, .bool true]) ∧ Below w'.heap.size w' w2) := fun w' => (CU.out w').mono (by
                        rintro e w2 ⟨x, rfl, h1, _, G⟩
                        exact ⟨by rw [h1 hE, decide_eq_true hE], G⟩)
                      have hT := HZ.out hE
                      have hT' : (T.size : Int) ≤ 512 := by omega
                      have C6 : Hid (∀ w', Calls Tryz.prog 64 #[.string T] w' fun e w2 => e = .returned (.int .i64 (Ar.sm T)) ∧ w2 = w') := fun w' => sumOf_any T w' (by omega)
                      have HE' : Hid (ok = decide ((T.size : Int) = f2 ∧ Ar.sm T = f3)) := by show _ = _; rw [HE.out]; simp [hE]
                      clear CU HE HZ hE
                      generalize Ar.sm T = M at *
                      go_wp2_with fail
                      go_region_held3 (fun w' => Below wF.heap.size wF w' ∧ w'.cell? ⟨w.heap.size, 0, none⟩ = some (.slice ad k cd) ∧ w'.cell? ⟨w.heap.size, 1, none⟩ = some (.slice (some ⟨b, off, none⟩) N cf) ∧ w'.cell? ⟨Fb, 1, none⟩ = some (.int .i64 f1) ∧ w'.cell? ⟨Fb, 4, none⟩ = some (.string f4))
                        (first | (exact HS.out _ ((Below.refl _ _).drew)) | (exact HS.out _ (bch (And.left (by assumption)) G6 (Nat.le_refl _))) | (exact HS.out _ (bch (And.left (by assumption)) G5 (Nat.le_refl _))))
                        (first
                          | (go_at_call 63; refine (CD'.out _ ?_).mono ?_; exact And.left (by assumption); rintro e w5 ⟨rfl, G5⟩)
                          | (go_at_call 62; refine (CU'.out _).mono ?_; rintro e w6 ⟨rfl, G6⟩))
                      all_goals
                        have B12 : Below wF.heap.size wF w6 := bch (bch ((Below.refl _ _).drew) G5 (Nat.le_refl _)) G6 (Nat.le_refl _)
                        have n2 := (B12.cell (p := ⟨Fb, 2, none⟩) hFz).trans k2
                        have n3 := (B12.cell (p := ⟨Fb, 3, none⟩) hFz).trans k3
                        have B13 := bch B10 B12 (Nat.le_refl _)
                        have B14 := bch B11 B12 (Nat.le_refl _)
                        have B15 : Hid (∀ n, Below w.heap.size w (w6.drewN n) ∧ Below w1.heap.size w1 (w6.drewN n)) := fun n => ⟨below_drewN B13 n, below_drewN B14 n⟩
                        clear G5 G6 HS CD' CU' k1 k2 k3 k4 B10 B11 B12 B13 B14
                        by_cases h2 : (T.size : Int) = f2
                        · by_cases h3 : M = f3
                          · have hok : Hid (Ar.okAt a m = true) := HO.out true (by rw [HE'.out]; exact decide_eq_true ⟨h2, h3⟩)
                            have e3 : (M == f3) = true := by simpa using h3
                            have e4 : (M != f3) = false := by simpa using h3
                            have e5 : ((T.size : Int) == f2) = true := by simpa using h2
                            have e6 : ((T.size : Int) != f2) = false := by simpa using h2
                            subst h3 h2
                            clear HE' HO
                            go_wp2_with fail
                            go_quiet ((go_at_call 64; exact Calls.quiet_of_same (C6.out _)))
                            all_goals
                              go_wp2_with fail
                              go_roundw
                              case rel => exact ⟨m + 1, by omega, by go_num, HGn.out hok.out, (B15.out _).2⟩
                              case measure => simp [intOf]; omega
                          · have hok : Hid (c = 1) := HC1.out (HO.out false (by rw [HE'.out]; exact decide_eq_false (fun h => h3 h.2)))
                            have e3 : (M == f3) = false := by simpa using h3
                            have e4 : (M != f3) = true := by simpa using h3
                            have e5 : decide (M = f3) = false := decide_eq_false h3
                            subst h2
                            clear HE' HO h3
                            go_wp2_with fail
                            go_quiet ((go_at_call 64; exact Calls.quiet_of_same (C6.out _)))
                            all_goals
                              go_wp2_with fail
                              go_ret
                              exact HQ.out hok.out _ (B15.out _).1
                        · have hok : Hid (c = 1) := HC1.out (HO.out false (by rw [HE'.out]; exact decide_eq_false (fun h => h2 h.1)))
                          have e3 : ((T.size : Int) == f2) = false := by simpa using h2
                          have e4 : ((T.size : Int) != f2) = true := by simpa using h2
                          have e5 : decide ((T.size : Int) = f2) = false := decide_eq_false h2
                          clear HE' HO h2 C6
                          go_wp2_with fail
                          go_quiet (fail)
                          all_goals
                            go_wp2_with fail
                            go_ret
                            exact HQ.out hok.out _ (B15.out _).1
                    · have CU' : Hid (∀ w', Calls Tryz.prog 62 #[.string X, .string f4] w' fun e w2 => ∃ x, e = .returned (.tuple #[.string x, .bool false]) ∧ Below w'.heap.size w' w2) := fun w' => (CU.out w').mono (by
                        rintro e w2 ⟨x, rfl, _, _, G⟩
                        exact ⟨x, by rw [decide_eq_false hE], G⟩)
                      have hok : Hid (c = 1) := HC1.out (HO.out false (by rw [HE.out]; exact decide_eq_false (fun h => hE h.1)))
                      clear CU HE HZ hE HO
                      go_wp2_with fail
                      go_region_held3 (fun w' => Below wF.heap.size wF w' ∧ w'.cell? ⟨w.heap.size, 0, none⟩ = some (.slice ad k cd) ∧ w'.cell? ⟨w.heap.size, 1, none⟩ = some (.slice (some ⟨b, off, none⟩) N cf) ∧ w'.cell? ⟨Fb, 1, none⟩ = some (.int .i64 f1) ∧ w'.cell? ⟨Fb, 4, none⟩ = some (.string f4))
                        (first | (exact HS.out _ ((Below.refl _ _).drew)) | (exact HS.out _ (bch (And.left (by assumption)) G6 (Nat.le_refl _))) | (exact HS.out _ (bch (And.left (by assumption)) G5 (Nat.le_refl _))))
                        (first
                          | (go_at_call 63; refine (CD'.out _ ?_).mono ?_; exact And.left (by assumption); rintro e w5 ⟨rfl, G5⟩)
                          | (go_at_call 62; refine (CU'.out _).mono ?_; rintro e w6 ⟨x, rfl, G6⟩))
                      all_goals
                        have B13 := bch B10 (bch (bch ((Below.refl _ _).drew) G5 (Nat.le_refl _)) G6 (Nat.le_refl _)) (Nat.le_refl _)
                        have B15 : Hid (∀ n, Below w.heap.size w (w6.drewN n)) := fun n => below_drewN B13 n
                        clear G5 G6 HS CD' CU' k1 k2 k3 k4 B10 B11 B13
                        go_wp2_with fail
                        go_quiet (fail)
                        all_goals
                          go_wp2_with fail
                          go_ret
                          exact HQ.out hok.out _ (B15.out _)
        · obtain rfl : m = N := by omega
          have d2 : decide ((m : Int) < (m : Int)) = false := by simp
          have HR : Hid (c = 0) := HGk.out HGm.out
          go_wp2_with fail
          go_ret
          exact ⟨congrArg (fun x => Ending.returned (Value.int .i64 x)) HR.out.symm, B3⟩
theorem checkArch_any (ad af : Option Addr) (cd cf : Nat) (a : Ar.A) (w : World) (h : ArV w ad af a) (hs : SaneA a) :
    Calls Tryz.prog 19 #[av ad cd af cf a] w fun e w' => e = .returned (.int .i64 (Ar.chk a)) ∧ Below w.heap.size w w' := by
  by_cases hm : 4 < a.dicts.length ∨ 12 < a.files.length
  · have e : Ar.chk a = 2 := by
      have : Ar.many a = true := by unfold Ar.many; rw [decide_eq_true hm]; rfl
      unfold Ar.chk; rw [if_pos this]
    rw [e]
    exact checkArch_len ad af cd cf a w hs.nd hs.nf hm
  · exact checkArch_some ad af cd cf a w h hs (by omega) (by omega)
end Go.Proofs.YtbjbjbpgmojcbabGreat
