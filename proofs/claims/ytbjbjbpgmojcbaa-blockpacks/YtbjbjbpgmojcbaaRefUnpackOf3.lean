/- What the document's own Unpack comes to, all in one. -/
import Derived.Test.YtbjbjbpgmojcbaaRefUnpackOf2
import Derived.Test.YtbjbjbpgmojcbaaCodeBackWalk
namespace Go.Proofs.Ytbjbjbpgmojcbaa
open Go.RowKit
set_option linter.unusedVariables false

/-- What the document's own Unpack tells: whether it is one, and the text where it is. -/
def UnpSaid (u : ByteArray × Int) (w : World) (e : Ending) (w' : World) : Prop := ∃ x, e = .returned (.tuple #[.string x, .bool (decide (u.2 = 0))]) ∧ (u.2 = 0 → x = u.1) ∧ (u.2 ≠ 0 → u = (⟨#[]⟩, 1)) ∧ Below w.heap.size w w'
theorem said_no {u : ByteArray × Int} (hu : u = (⟨#[]⟩, 1)) {w : World} {x : ByteArray} : ∀ e w', (e = .returned (.tuple #[.string x, .bool false]) ∧ Below w.heap.size w w') → UnpSaid u w e w' := by
  subst hu
  intro e w' h
  exact ⟨x, h.1, fun h9 => absurd h9 (by decide), fun _ => rfl, h.2⟩
theorem said_yes {u : ByteArray × Int} {x : ByteArray} (hu : u = (x, 0)) {w : World} : ∀ e w', (e = .returned (.tuple #[.string x, .bool true]) ∧ Below w.heap.size w w') → UnpSaid u w e w' := by
  subst hu
  intro e w' h
  exact ⟨x, h.1, fun _ => rfl, fun h9 => absurd rfl h9, h.2⟩

theorem unpackOf_any (dict b : ByteArray) (w : World) (hd : dict.size ≤ 256) (hb : b.size ≤ 140737488355328) :
    Calls Try.prog 52 #[.string dict, .string b] w fun e w' => UnpSaid (Bk.unp dict b) w e w' := by
  by_cases h0 : b.size = 0
  · have e : Bk.unp dict b = (⟨#[]⟩, 1) := by rw [Bk.unp, if_neg (by omega), if_pos h0]
    obtain rfl : b = ⟨#[]⟩ := by
      apply ByteArray.ext
      exact Array.eq_empty_of_size_eq_zero h0
    exact (unpackOf_empty dict w).mono (said_no e)
  · have h1 : 0 < b.size := by omega
    have hA := at_first h1
    have hU : Bk.unp dict b = if Cd.at8 b 0 = 0 then Bk.whl (b.extract 1 b.size) else if Cd.at8 b 0 = 1 then Bk.ply dict (b.extract 1 b.size) else if Cd.at8 b 0 = 2 then (if (Bk.dec (b.extract 1 b.size)).2 = 0 then Bk.ply dict (Bk.dec (b.extract 1 b.size)).1 else (⟨#[]⟩, (Bk.dec (b.extract 1 b.size)).2)) else (⟨#[]⟩, 1) := by rw [Bk.unp, if_neg (by omega), if_neg h0]
    have hs1 := ext_size b 1 b.size
    obtain ⟨S, hS⟩ : ∃ S, b.extract 1 b.size = S := ⟨_, rfl⟩
    rw [hS] at hU hs1
    by_cases k0 : Cd.at8 b 0 = 0
    · rw [if_pos k0] at hU
      have c := unpackOf_0 dict b S w hd hb h1 hS (by omega)
      by_cases hl : 512 < S.size
      · rw [Bk.whl, if_pos hl] at hU
        rw [decide_eq_false (by omega)] at c
        exact c.mono (said_no hU)
      · rw [Bk.whl, if_neg hl] at hU
        rw [decide_eq_true (by omega)] at c
        exact c.mono (said_yes hU)
    · rw [if_neg k0] at hU
      by_cases k1 : Cd.at8 b 0 = 1
      · rw [if_pos k1] at hU
        cases hm : readOf dict S with
        | none =>
          rw [Bk.ply, hm] at hU
          exact (unpackOf_1n dict b S w hd hb h1 hS (by omega) hm).mono (said_no hU)
        | some m =>
          rw [Bk.ply, hm] at hU
          exact (unpackOf_1s dict b S w hd hb h1 hS (by omega) m hm).mono (said_yes hU)
      · rw [if_neg k1] at hU
        by_cases k2 : Cd.at8 b 0 = 2
        · rw [if_pos k2] at hU
          by_cases h8 : S.size < 8
          · have e : Bk.dec S = (⟨#[]⟩, 1) := by rw [Bk.dec, if_pos h8]
            rw [e, if_neg (by decide)] at hU
            exact (unpackOf_2s dict b S w hd hb h1 hS (by omega) h8).mono (said_no hU)
          · cases hn : Nm.from_ (S.extract 8 S.size).data.toList with
            | none =>
              rw [Bk.dec_none h8 hn, if_neg (by decide)] at hU
              exact (unpackOf_2n dict b S w hd hb h1 hS (by omega) _ rfl h8 hn).mono (said_no hU)
            | some nk =>
              obtain ⟨n, k⟩ := nk
              rw [Bk.dec_some h8 hn] at hU
              by_cases hE : (Cd.rd (Bk.pt (S.extract 0 8)) ((S.extract 8 S.size).extract k (S.extract 8 S.size).size) (n : Nat)).2 = 0
              · rw [if_pos hE, if_pos rfl] at hU
                have hz := rd_size _ _ _ hE
                have e9 : Cd.rd (Bk.pt (S.extract 0 8)) ((S.extract 8 S.size).extract k (S.extract 8 S.size).size) (n : Nat) = ((Cd.rd (Bk.pt (S.extract 0 8)) ((S.extract 8 S.size).extract k (S.extract 8 S.size).size) (n : Nat)).1, 0) := by
                  rw [← hE]
                cases hm : readOf dict (Cd.rd (Bk.pt (S.extract 0 8)) ((S.extract 8 S.size).extract k (S.extract 8 S.size).size) (n : Nat)).1 with
                | none =>
                  rw [Bk.ply, hm] at hU
                  exact (unpackOf_2tn dict b S w hd hb h1 hS (by omega) _ rfl h8 n k _ hn rfl _ e9 hz hm).mono (said_no hU)
                | some m =>
                  rw [Bk.ply, hm] at hU
                  exact (unpackOf_2ts dict b S w hd hb h1 hS (by omega) _ rfl h8 n k _ hn rfl _ e9 hz m hm).mono (said_yes hU)
              · rw [if_neg hE, if_neg (by decide)] at hU
                exact (unpackOf_2e dict b S w hd hb h1 hS (by omega) _ rfl h8 n k _ hn rfl hE).mono (said_no hU)
        · rw [if_neg k2] at hU
          exact (unpackOf_3 dict b S w hd hb h1 hS (by omega)).mono (said_no hU)
end Go.Proofs.Ytbjbjbpgmojcbaa
