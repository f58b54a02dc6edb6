/- A slice of toks that came in: what lies there. -/
import Derived.Test.YtbjbjbpgmojcbaaToksCheck
import Derived.Deep.Slices
import Derived.SizedLaws
import Derived.Carry
namespace Go.Proofs.Ytbjbjbpgmojcbaa
open Go.ChangeShapes Go.WideShapes Go.RowKit Go.Deep

theorem tok_laid : laidOutB Try.prog = true := by kernel_rfl
theorem tok_cells : Try.prog.cellsOf 73 = 3 := by kernel_rfl
theorem tok_bytes : Try.prog.bytesOf 73 = 32 := by kernel_rfl
theorem str_cells : Try.prog.cellsOf 9 = 1 := by kernel_rfl
theorem int_cells : Try.prog.cellsOf 3 = 1 := by kernel_rfl
/-- The fields of a struct: their types and places. -/
def fieldsOf : Option TypeDesc → List (TypeId × Nat)
  | some (.struct fs) => fs.toList.map (fun f => (f.type, f.offset))
  | _ => []
theorem tok_fields : fieldsOf (Try.prog.underlying 73) = [(9, 0), (3, 1), (3, 2)] := by kernel_rfl
theorem tok_struct : ∃ f0 f1 f2 : Field, Try.prog.underlying 73 = some (.struct #[f0, f1, f2]) ∧ (f0.type = 9 ∧ f0.offset = 0) ∧ (f1.type = 3 ∧ f1.offset = 1) ∧ (f2.type = 3 ∧ f2.offset = 2) := by
  have h := tok_fields
  generalize Try.prog.underlying 73 = u at h ⊢
  unfold fieldsOf at h
  split at h
  · rename_i fs0
    obtain ⟨fs⟩ := fs0
    match fs, h with
    | [f0, f1, f2], h =>
      simp at h
      exact ⟨f0, f1, f2, rfl, h.1, h.2.1, h.2.2⟩
    | [], h => simp at h
    | [_], h => simp at h
    | [_, _], h => simp at h
    | _ :: _ :: _ :: _ :: _, h => simp at h
  · simp at h

theorem weights_all {H : Type} {P : Program} {e : TypeId} {f : Nat → DataW H} {n i : Nat} (hi : i < n) {m : Nat} (h : m ∈ (f i).weights P e) : m ∈ DataW.weightsAll P e ((List.range n).map f) := by
  have gen : ∀ (l : List (DataW H)) (d : DataW H), d ∈ l → m ∈ d.weights P e → m ∈ DataW.weightsAll P e l := by
    intro l
    induction l with
    | nil => intro d h; simp at h
    | cons a l ih =>
      intro d hd hm
      rw [DataW.weightsAll, List.mem_append]
      rcases List.mem_cons.1 hd with rfl | hd
      · exact .inl hm
      · exact .inr (ih d hd hm)
  exact gen _ (f i) (List.mem_map.2 ⟨i, List.mem_range.2 hi, rfl⟩) h

theorem row_lt {W : World} {a : Addr} {n : Nat} {ps : List MemPlace} (h : ∀ x ∈ MemPlace.row a (n + 1) ++ ps, x.block < W.heap.size) : a.block < W.heap.size := by
  refine h (.cell a.block (a.off + 0)) ?_
  rw [List.mem_append]
  left
  exact List.mem_map.2 ⟨0, List.mem_range.2 (by omega), rfl⟩

theorem len3 {α : Type} {l : List α} (h : l.length = 3) : ∃ a b c, l = [a, b, c] := by
  match l, h with
  | [a, b, c], _ => exact ⟨a, b, c, rfl⟩

theorem open_toks {H : Type} {enc : TypeId × Value → H} {W : World} {a : Option Addr} {len cap : Nat} {d : DataW H} {ps : List MemPlace}
    (h : DataW.Trod enc Try.prog W 0 (fun _ => true) true 40 (.slice a len cap) d ps)
    (hsz : ∀ n ∈ d.weights Try.prog 40, n ≤ reachBytes) :
    ∃ l : List Tk.T, len = l.length ∧ SlAt W a l ∧ Sane l := by
  obtain ⟨f0, f1, f2, hs, ⟨t0, o0⟩, ⟨t1, o1⟩, ⟨t2, o2⟩⟩ := tok_struct
  have lt : ∀ x ∈ ps, x.block < W.heap.size := by obtain ⟨m, hm⟩ := h; exact DataW.trod_lt m _ _ _ hm
  obtain ⟨fuel, hf⟩ := h
  rcases open_slice Try.underlying40 hf with ⟨hcs, _⟩ | ⟨x, len', cap', m, n, D, Pl, hcs, _, hl, hm, hmm, hx, each⟩
  · simp [Value.cells] at hcs
    obtain ⟨rfl, rfl, rfl⟩ := hcs
    exact ⟨[], rfl, .inl rfl, by simp [Sane]⟩
  · simp [Value.cells] at hcs
    obtain ⟨rfl, rfl, rfl⟩ := hcs
    simp only [if_true] at hmm
    subst hmm
    have hx1 := congrArg Prod.fst hx
    have hx2 := congrArg Prod.snd hx
    dsimp only at hx1 hx2
    rw [hx1] at hsz
    rw [hx2] at lt
    clear hx hx1 hx2 hf
    have key : ∀ i, i < m → ∃ q : Tk.T, W.cell? (x.add (i * 3)) = some (.string q.lit) ∧ W.cell? (x.add (i * 3 + 1)) = some (.int .i64 q.far) ∧ W.cell? (x.add (i * 3 + 2)) = some (.int .i64 q.len) ∧ D i = .agg [.lit (.string q.lit.data.toList), .lit (.int .i64 q.far), .lit (.int .i64 q.len)] := by
      intro i hi
      obtain ⟨cs', h1, h2⟩ := each i hi
      rw [tok_cells] at h1
      obtain ⟨_, hlen, hcell⟩ := World.cells?_some h1
      obtain ⟨xs, k, hk, hxy, _, hxl, hfs⟩ := DataW.trod_struct hs h2
      obtain ⟨y0, y1, y2, rfl⟩ := len3 (show xs.length = 3 from hxl)
      obtain ⟨v0, v1, v2, rfl⟩ := len3 hlen
      · skip
        have g0 := hfs 0 f0 rfl
        have g1 := hfs 1 f1 rfl
        have g2 := hfs 2 f2 rfl
        simp [t0, o0, t1, o1, t2, o2, str_cells, int_cells] at g0 g1 g2
        have e0 := hcell 0 (by omega)
        have e1 := hcell 1 (by omega)
        have e2 := hcell 2 (by omega)
        rw [add_add] at e0 e1 e2
        obtain ⟨s, hs0, hy0, _⟩ := DataW.trod_string Try.underlying9 g0
        obtain ⟨p, hp0, hy1, _⟩ := DataW.trod_int Try.underlying3 g1
        obtain ⟨r, hr0, hy2, _⟩ := DataW.trod_int Try.underlying3 g2
        simp only [List.cons.injEq, and_true] at hs0 hp0 hr0
        subst hs0 hp0 hr0 hy0 hy1 hy2
        simp only [Prod.mk.injEq] at hxy
        exact ⟨⟨s, p, r⟩, by simpa using e0, by simpa using e1, by simpa using e2, by simpa using hxy.1⟩
    have : Inhabited Tk.T := ⟨⟨⟨#[]⟩, 0, 0⟩⟩
    obtain ⟨q, hq⟩ := choose_lt key
    have hlen : ((List.range len).map q).length = len := by simp
    refine ⟨(List.range len).map q, hlen.symm, ?_, ?_, ?_⟩
    · by_cases h0 : len = 0
      · left; simp [h0]
      · right
        obtain ⟨b, off, sp⟩ := x
        have hc0 := (hq 0 (by omega)).1
        have hsp : sp = none := by simpa [Addr.add] using World.cell?_spot hc0
        subst hsp
        have hb : b < W.heap.size := by
          rw [tok_cells, show m * 3 = (m * 3 - 1) + 1 by omega] at lt
          exact row_lt lt
        refine ⟨b, off, rfl, hb, fun i hi => ?_⟩
        rw [hlen] at hi
        obtain ⟨q0, q1, q2, _⟩ := hq i (by omega)
        simp only [List.getElem_map, List.getElem_range]
        refine ⟨?_, ?_, ?_⟩
        · rw [← q0, add_plain]
        · rw [← q1, add_plain, Nat.add_assoc]
        · rw [← q2, add_plain, Nat.add_assoc]
    · rw [hlen]
      have := hsz ((((List.range len).map D).length + ((List.range (m - len)).map fun j => D (len + j)).length) * Try.prog.bytesOf 73) (by rw [DataW.weights, Try.underlying40]; exact List.mem_cons_self ..)
      rw [tok_bytes] at this
      simp [reachBytes] at this
      omega
    · intro t ht
      obtain ⟨i, hi, rfl⟩ := List.mem_map.1 ht
      have hi' := List.mem_range.1 hi
      have hd := (hq i (by omega)).2.2.2
      have hw : (q i).lit.data.toList.length ∈ (D i).weights Try.prog 73 := by
        rw [hd, DataW.weights, hs]
        simp only [List.map_cons, List.map_nil]
        rw [DataW.weightsEach, List.mem_append]
        left
        rw [DataW.weights]
        exact List.mem_singleton.2 rfl
      have := hsz _ (by rw [DataW.weights, Try.underlying40]; exact List.mem_cons_of_mem _ (List.mem_append.2 (.inl (weights_all hi' hw))))
      have h2 : (q i).lit.data.toList.length = (q i).lit.size := by simp
      rw [h2] at this
      simp [reachBytes] at this
      omega
end Go.Proofs.Ytbjbjbpgmojcbaa
