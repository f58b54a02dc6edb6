/- What block.Unpack comes to. -/
import Derived.Test.YtbjbjbpgmojcbaaBlockSmall
namespace Go.Proofs.Ytbjbjbpgmojcbaa
open Go.RowKit

namespace Bk
/-- What Unpack tells. -/
def unp (dict b : ByteArray) : ByteArray × Int :=
  if 256 < dict.size then (⟨#[]⟩, 2) else if b.size = 0 then (⟨#[]⟩, 1) else
  if Cd.at8 b 0 = 0 then whl (b.extract 1 b.size) else if Cd.at8 b 0 = 1 then ply dict (b.extract 1 b.size)
  else if Cd.at8 b 0 = 2 then (if (dec (b.extract 1 b.size)).2 = 0 then ply dict (dec (b.extract 1 b.size)).1 else (⟨#[]⟩, (dec (b.extract 1 b.size)).2)) else (⟨#[]⟩, 1)
theorem first_is {b : ByteArray} (h : b.size ≠ 0) (x : UInt8) : b.extract 0 1 = ⟨#[x]⟩ ↔ Cd.at8 b 0 = x.toNat := by
  have hl : 0 < b.data.size := by have : b.size = b.data.size := rfl; omega
  have e : (b.extract 0 1).data.toList = [b.data[0]] := by
    simp only [ByteArray.data_extract, Array.toList_extract]
    cases b with
    | mk d =>
      obtain ⟨l⟩ := d
      cases l with
      | nil => simp at hl
      | cons a l => simp
  have e2 : Cd.at8 b 0 = b.data[0].toNat := by
    unfold Cd.at8
    rw [Array.getElem?_toList, Array.getElem?_eq_getElem hl]
    rfl
  rw [e2]
  constructor
  · intro h9
    rw [h9] at e
    simp at e
    rw [e]
  · intro h9
    apply ByteArray.ext
    apply Array.toList_inj.1
    rw [e]
    have : b.data[0] = x := UInt8.toNat_inj.1 h9
    rw [this]
theorem first_beq {b : ByteArray} (h : b.size ≠ 0) (x : UInt8) : ((b.extract 0 1).toList == [x]) = decide (Cd.at8 b 0 = x.toNat) := by
  have ex : [x] = (⟨#[x]⟩ : ByteArray).toList := by rw [ByteArray.toList_eq]
  rw [ex, ba_beq]
  by_cases h1 : Cd.at8 b 0 = x.toNat
  · rw [decide_eq_true h1, decide_eq_true ((first_is h x).2 h1)]
  · rw [decide_eq_false h1, decide_eq_false (fun h9 => h1 ((first_is h x).1 h9))]
end Bk

set_option maxRecDepth 4000 in
set_option maxHeartbeats 1000000 in
theorem unpack_any (dict b : ByteArray) (w : World) (hd0 : dict.size ≤ 140737488355328) (hb : b.size ≤ 140737488355328) :
    Calls Try.prog 50 #[.string dict, .string b] w fun e w' => e = .returned (.tuple #[.string (Bk.unp dict b).1, .int .i64 (Bk.unp dict b).2]) ∧ Below w.heap.size w w' := by
  by_cases hd : 256 < dict.size
  · have e : Bk.unp dict b = (⟨#[]⟩, 2) := if_pos hd
    rw [e]
    have d1 : decide (256 < (dict.size : Int)) = true := by simp; omega
    have h' : 256 < (dict.size : Int) := by omega
    clear e hd
    go_enter Try.func50, Try.ntmps50
    go_wp2_with fail
    go_ret2
    exact ⟨rfl, Below.refl _ _⟩
  · have d1 : decide (256 < (dict.size : Int)) = false := by simp; omega
    have hd' : (dict.size : Int) ≤ 256 := by omega
    by_cases h0 : b.size = 0
    · have e : Bk.unp dict b = (⟨#[]⟩, 1) := by rw [Bk.unp, if_neg hd, if_pos h0]
      rw [e]
      obtain rfl : b = ⟨#[]⟩ := by
        apply ByteArray.ext
        exact Array.eq_empty_of_size_eq_zero h0
      clear e hd h0
      go_enter Try.func50, Try.ntmps50
      go_wp2_with fail
      go_ret2
      exact ⟨rfl, Below.refl _ _⟩
    · have hne : b.toList.isEmpty = false := by
        rw [ByteArray.toList_eq, Bool.eq_false_iff]
        intro e
        rw [List.isEmpty_iff] at e
        apply h0
        have := congrArg List.length e
        rw [Cd.size_list] at this
        simpa using this
      have hU : Bk.unp dict b = if Cd.at8 b 0 = 0 then Bk.whl (b.extract 1 b.size) else if Cd.at8 b 0 = 1 then Bk.ply dict (b.extract 1 b.size) else if Cd.at8 b 0 = 2 then (if (Bk.dec (b.extract 1 b.size)).2 = 0 then Bk.ply dict (Bk.dec (b.extract 1 b.size)).1 else (⟨#[]⟩, (Bk.dec (b.extract 1 b.size)).2)) else (⟨#[]⟩, 1) := by rw [Bk.unp, if_neg hd, if_neg h0]
      have k0 := Bk.first_beq h0 0
      have k1 := Bk.first_beq h0 1
      have k2 := Bk.first_beq h0 2
      have hs1 := ext_size b 1 b.size
      have hb1 : (1 : Int) ≤ (b.size : Int) := by omega
      have hb1n : 1 ≤ b.size := by omega
      have hbs : (b.extract 1 b.size).size ≤ 140737488355328 := by omega
      rw [hU]
      clear hU hs1 h0
      by_cases e0 : Cd.at8 b 0 = 0
      · rw [if_pos e0]
        have c1 := fun w => whole_any (b.extract 1 b.size) w hbs
        rw [decide_eq_true (by exact e0)] at k0
        generalize (Bk.whl (b.extract 1 b.size)).1 = X at *
        generalize (Bk.whl (b.extract 1 b.size)).2 = E at *
        clear k1 k2 e0 hd
        go_enter Try.func50, Try.ntmps50
        go_wp2_with fail
        refine (c1 _).mono ?_
        rintro e w1 ⟨rfl, G⟩
        go_wp2_with fail
        go_ret2
        exact ⟨rfl, G⟩
      · rw [if_neg e0]
        rw [decide_eq_false (by exact e0)] at k0
        by_cases e1 : Cd.at8 b 0 = 1
        · rw [if_pos e1]
          have c1 := fun w => blockPlay_any dict (b.extract 1 b.size) w (by omega)
          rw [decide_eq_true (by exact e1)] at k1
          generalize (Bk.ply dict (b.extract 1 b.size)).1 = X at *
          generalize (Bk.ply dict (b.extract 1 b.size)).2 = E at *
          clear k2 e0 e1 hd
          go_enter Try.func50, Try.ntmps50
          go_wp2_with fail
          refine (c1 _).mono ?_
          rintro e w1 ⟨rfl, G⟩
          go_wp2_with fail
          go_ret2
          exact ⟨rfl, G⟩
        · rw [if_neg e1]
          rw [decide_eq_false (by exact e1)] at k1
          by_cases e2 : Cd.at8 b 0 = 2
          · rw [if_pos e2]
            rw [decide_eq_true (by exact e2)] at k2
            have c1 := fun w => decode_any (b.extract 1 b.size) w hbs
            have c2 := fun w => blockPlay_any dict (Bk.dec (b.extract 1 b.size)).1 w (by omega)
            by_cases hE : (Bk.dec (b.extract 1 b.size)).2 = 0
            · rw [if_pos hE]
              rw [hE] at c1
              generalize (Bk.ply dict (Bk.dec (b.extract 1 b.size)).1).1 = X at *
              generalize (Bk.ply dict (Bk.dec (b.extract 1 b.size)).1).2 = E at *
              generalize (Bk.dec (b.extract 1 b.size)).1 = Y at *
              clear e0 e1 e2 hd hE
              go_enter Try.func50, Try.ntmps50
              go_wp2_with fail
              refine (c1 _).mono ?_
              rintro e w1 ⟨rfl, G1⟩
              go_wp2_with fail
              refine (c2 _).mono ?_
              rintro e w2 ⟨rfl, G2⟩
              go_wp2_with fail
              go_ret2
              exact ⟨rfl, bch G1 G2 (Nat.le_refl _)⟩
            · rw [if_neg hE]
              generalize (Bk.dec (b.extract 1 b.size)).1 = Y at *
              generalize (Bk.dec (b.extract 1 b.size)).2 = E at *
              have dE : (E != 0) = true := by simpa using hE
              clear e0 e1 e2 hd hE c2
              go_enter Try.func50, Try.ntmps50
              go_wp2_with fail
              refine (c1 _).mono ?_
              rintro e w1 ⟨rfl, G1⟩
              go_wp2_with fail
              go_ret2
              exact ⟨rfl, G1⟩
          · rw [if_neg e2]
            rw [decide_eq_false (by exact e2)] at k2
            clear e0 e1 e2 hd
            go_enter Try.func50, Try.ntmps50
            go_wp2_with fail
            go_ret2
            exact ⟨rfl, Below.refl _ _⟩
end Go.Proofs.Ytbjbjbpgmojcbaa
