/- A slice of texts that came in: what lies there. -/
import Derived.Test.YtbjbjbpgmojcbabTrainBase
import Derived.Test.YtbjbjbpgmojcbabOpenBase
namespace Go.Proofs.Ytbjbjbpgmojcbab
open Go.ChangeShapes Go.WideShapes Go.RowKit Go.Deep

theorem tx_laid : laidOutB Try.prog = true := by kernel_rfl
theorem tx_cells : Try.prog.cellsOf 9 = 1 := by kernel_rfl
theorem tx_bytes : Try.prog.bytesOf 9 = 16 := by kernel_rfl

theorem open_texts {H : Type} {enc : TypeId × Value → H} {W : World} {a : Option Addr} {len cap fuel : Nat} {d : DataW H} {ps : List MemPlace}
    (hf : DataW.trod enc Try.prog W 0 (fun _ => true) true fuel 22 [.slice a len cap] = some (d, ps))
    (hsz : ∀ n ∈ d.weights Try.prog 22, n ≤ reachBytes) :
    ∃ l : List ByteArray, len = l.length ∧ TxSl W a l ∧ l.length ≤ 8796093022208 ∧ (∀ i, (Tr.xa l i).size ≤ 140737488355328) := by
  have lt : ∀ x ∈ ps, x.block < W.heap.size := DataW.trod_lt fuel _ _ _ hf
  rcases open_slice1 Try.underlying22 tx_cells hf with ⟨hcs, _⟩ | ⟨x, len', cap', m, n, V, D, Pl, hcs, _, hl, hm, hmm, hx, each⟩
  · simp at hcs
    obtain ⟨rfl, rfl, rfl⟩ := hcs
    exact ⟨[], rfl, .inl rfl, by simp, fun i => by show 0 ≤ _; omega⟩
  · simp at hcs
    obtain ⟨rfl, rfl, rfl⟩ := hcs
    simp only [if_true] at hmm
    subst hmm
    have hx1 := congrArg Prod.fst hx
    have hx2 := congrArg Prod.snd hx
    dsimp only at hx1 hx2
    rw [hx1] at hsz
    rw [hx2] at lt
    clear hx hx1 hx2 hf
    have key : ∀ i, i < m → ∃ q : ByteArray, W.cell? (x.add i) = some (.string q) ∧ D i = .lit (.string q.data.toList) := by
      intro i hi
      obtain ⟨h1, h2⟩ := each i hi
      obtain ⟨s, hs0, hy0, _⟩ := DataW.trod_string Try.underlying9 h2
      simp only [List.cons.injEq, and_true] at hs0
      rw [hs0] at h1
      exact ⟨s, h1, congrArg Prod.fst hy0⟩
    have : Inhabited ByteArray := ⟨⟨#[]⟩⟩
    obtain ⟨q, hq⟩ := choose_lt key
    have hlen : ((List.range len).map q).length = len := by simp
    have hxa : ∀ i, i < len → Tr.xa ((List.range len).map q) i = q i := fun i hi => by simp [Tr.xa, hi]
    refine ⟨(List.range len).map q, hlen.symm, ?_, ?_, ?_⟩
    · by_cases h0 : len = 0
      · left; simp [h0]
      · right
        obtain ⟨b, off, sp⟩ := x
        have hc0 := (hq 0 (by omega)).1
        have hsp : sp = none := by simpa [Addr.add] using World.cell?_spot hc0
        subst hsp
        have hb : b < W.heap.size := by
          rw [show m = (m - 1) + 1 by omega] at lt
          exact row_lt lt
        refine ⟨b, off, rfl, hb, fun i hi => ?_⟩
        rw [hlen] at hi
        rw [hxa i hi, ← (hq i (by omega)).1, add_plain]
    · rw [hlen]
      have := hsz ((((List.range len).map D).length + ((List.range (m - len)).map fun j => D (len + j)).length) * Try.prog.bytesOf 9) (by rw [DataW.weights, Try.underlying22]; exact List.mem_cons_self ..)
      rw [tx_bytes] at this
      simp [reachBytes] at this
      omega
    · intro i
      by_cases hi : i < len
      · rw [hxa i hi]
        have hd := (hq i (by omega)).2
        have hw : (q i).data.toList.length ∈ (D i).weights Try.prog 9 := by
          rw [hd, DataW.weights]
          exact List.mem_singleton.2 rfl
        have := hsz _ (by rw [DataW.weights, Try.underlying22]; exact List.mem_cons_of_mem _ (List.mem_append.2 (.inl (weights_all hi hw))))
        have h2 : (q i).data.toList.length = (q i).size := by simp
        rw [h2] at this
        simp [reachBytes] at this
        omega
      · have : Tr.xa ((List.range len).map q) i = ⟨#[]⟩ := by simp [Tr.xa, show len ≤ i by omega]
        rw [this]
        show 0 ≤ _
        omega
end Go.Proofs.Ytbjbjbpgmojcbab
