/- Chapter 5: a map that counts pieces; strings.Index, strings.Contains at this program. -/
import Derived.Test.YtbjbjbpgmojcbabTrainCountOf
import Derived.Test.YtbjbjbpgmojcbabTrainIndex
import Derived.Test.YtbjbjbpgmojcbabTrainShelf
import Derived.Maps.OwnSet
import Derived.Maps.OwnOps
import Derived.Maps.RangeWalk
namespace Go.Proofs.Ytbjbjbpgmojcbab
open Go.RowKit Go.Maps

theorem cell_lt {w : World} {b o : Nat} {v : Value} (h : w.cell? ⟨b, o, none⟩ = some v) : b < w.heap.size := by
  apply Nat.lt_of_not_le
  intro hb
  rw [World.cell?, Array.getElem?_eq_none hb] at h
  cases h
/-- The library's variable holds some number. -/
def Mx (w : World) : Prop := ∃ m, w.cell? ⟨0, 0, none⟩ = some (.int .i64 m)
theorem Mx.below {w w' : World} (h : Mx w) (hb : Below w.heap.size w w') : Mx w' := by
  obtain ⟨m, hm⟩ := h
  exact ⟨m, by rw [hb.cell (p := ⟨0, 0, none⟩) (cell_lt hm)]; exact hm⟩
theorem index_any (t p : ByteArray) (w : World) (h : Mx w) (ht : t.size ≤ 4000000000) :
    Calls Try.prog 21 #[.string t, .string p] w fun e w' => e = .returned (.int .i64 (Lib.index t.data.toList p.data.toList)) ∧ w' = w := by
  obtain ⟨m, hm⟩ := h
  exact Try.strings_Index t p m w (by omega) hm
theorem contains_any (t p : ByteArray) (w : World) (h : Mx w) (ht : t.size ≤ 4000000000) (hp : 0 < p.size) :
    Calls Try.prog 13 #[.string t, .string p] w fun e w' => e = .returned (.bool (Tr.st p t)) ∧ w' = w := by
  obtain ⟨m, hm⟩ := h
  rw [← Tr.contains_is t p hp]
  exact Try.strings_Contains t p m w (by omega) hm

theorem keyS : Keyed Try.prog 9 := string_keyed Try.underlying9
theorem zeroI (w : World) : (zeroValue 3).run Try.prog w = .ok (.int .i64 0) w := by kernel_rfl
namespace Tr
def kl (p : ByteArray) : Lit := .string p.data.toList
theorem kl_ne {p q : ByteArray} (h : p ≠ q) : kl p ≠ kl q := by
  intro e
  apply h
  apply toList_same
  rw [ByteArray.toList_eq, ByteArray.toList_eq]
  exact Lit.string.inj e
theorem kl_key (p : ByteArray) : WideAt.IsKeyLit (kl p) := trivial
theorem sz_mk (x : List UInt8) : (⟨x.toArray⟩ : ByteArray).size = x.length := by show x.toArray.size = _; simp
def i64 (n : Int) : DataW Unit := .lit (.int .i64 n)
/-- A map of at most n entries that tells of each piece f. -/
def CM (w : World) (b n : Nat) (f : ByteArray → Nat) : Prop := ∃ D : DataW Unit, w.ownsMap Try.prog 9 (plainElem Try.prog 3) b n D ∧ IsMap D ∧
  (∀ q : ByteArray, q.size = 4 → D.atKey (kl q) (i64 0) = i64 (f q)) ∧ (∀ x : List UInt8, has D (.string x) = true → x.length = 4 ∧ 1 ≤ f ⟨x.toArray⟩)
theorem CM.made (w : World) : CM (w.alloc (.map #[] 0)) w.heap.size 0 (fun _ => 0) :=
  ⟨_, World.ownsMap_made _ _ _ _, isMap_empty, fun _ _ => rfl, fun x h => by simp [has] at h⟩
theorem CM.same {w : World} {b n m : Nat} {f g : ByteArray → Nat} (h : CM w b n f) (hn : n ≤ m) (hf : ∀ q : ByteArray, q.size = 4 → f q = g q) : CM w b m g := by
  obtain ⟨D, h1, h2, h3, h4⟩ := h
  refine ⟨D, h1.mono hn, h2, fun q hq => by rw [h3 q hq, hf q hq], fun x hx => ?_⟩
  obtain ⟨h5, h6⟩ := h4 x hx
  exact ⟨h5, by rw [← hf ⟨x.toArray⟩ ((sz_mk x).trans h5)]; exact h6⟩
/-- What a store of one more makes of it. -/
theorem CM.put {w : World} {b n : Nat} {f g : ByteArray → Nat} {D : DataW Unit} {p : ByteArray} (hp : p.size = 4) (h2 : IsMap D) (h3 : ∀ q : ByteArray, q.size = 4 → D.atKey (kl q) (i64 0) = i64 (f q)) (h4 : ∀ x : List UInt8, has D (.string x) = true → x.length = 4 ∧ 1 ≤ f ⟨x.toArray⟩)
    (hown : w.ownsMap Try.prog 9 (plainElem Try.prog 3) b n (D.put (kl p) (i64 (g p : Nat)))) (hg : g p = f p + 1) (hgo : ∀ q : ByteArray, q.size = 4 → q ≠ p → g q = f q) : CM w b n g := by
  refine ⟨_, hown, h2.put _ _, fun q hq => ?_, fun x hx => ?_⟩
  · by_cases e : q = p
    · subst e; exact atKey_put_same h2 (kl_key q) _ _
    · rw [atKey_put_other (kl_ne e), h3 q hq, hgo q hq e]
  · by_cases e : (⟨x.toArray⟩ : ByteArray) = p
    · subst e; exact ⟨(sz_mk x).symm.trans hp, by omega⟩
    · have hne := kl_ne e
      have hx2 : kl ⟨x.toArray⟩ = .string x := by simp [kl]
      rw [hx2] at hne
      rw [has_put_other hne] at hx
      obtain ⟨h5, h6⟩ := h4 x hx
      exact ⟨h5, by rw [hgo _ ((sz_mk x).trans h5) e]; exact h6⟩
end Tr
end Go.Proofs.Ytbjbjbpgmojcbab
