/- Operations of a region that yield their values in whatever world. -/
import Derived.Test.YtbjbjbpgmojcbaaCodeEq
import Derived.OrdersHeld
namespace Go.Proofs.Ytbjbjbpgmojcbaa
open Go.RowKit

section
variable {ops : Array Oper} {S : World → Prop} {op : Oper} {a : Act}
theorem yields_move (hw : Region.wanted op (yielded ops a.tmps) = true) (x : Operand) (ho : op.op = .move x) (v : Value) (hx : a.eval x = v) : YieldsIf Try.prog ops S op v a :=
  .inl ⟨hw, fun w _ => by unfold execOp; simp only [ho, hx, Sem.run_pure]⟩
theorem yields_assign (hw : Region.wanted op (yielded ops a.tmps) = true) (x : Operand) (ho : op.op = .assign x) (v : Value) (hx : a.eval x = v) : YieldsIf Try.prog ops S op v a :=
  .inl ⟨hw, fun w _ => by unfold execOp; simp only [ho, hx, Sem.run_pure]⟩
theorem yields_pick (hw : Region.wanted op (yielded ops a.tmps) = true) (c x y : Operand) (ho : op.op = .pick c x y) (b : Bool) (hc : a.eval c = .bool b) (v : Value) (hx : (if b = true then a.eval x else a.eval y) = v) : YieldsIf Try.prog ops S op v a :=
  .inl ⟨hw, fun w _ => by unfold execOp; simp only [ho, hc, Sem.run_bind, asBool, Sem.run_pure, Result.andThen_ok, hx]⟩
theorem yields_eql_int (hw : Region.wanted op (yielded ops a.tmps) = true) (t t' : TypeId) (x y : Operand) (ho : op.op = .binOp .eql t x y t') (k : IntKind) (i j : Int) (hx : a.eval x = .int k i) (hy : a.eval y = .int k j) (b : Bool) (hb : (i == j) = b) : YieldsIf Try.prog ops S op (.bool b) a :=
  .inl ⟨hw, fun w _ => by subst hb; unfold execOp; simp only [ho, hx, hy]; simp [go_sem]⟩
theorem yields_eql_arr (hw : Region.wanted op (yielded ops a.tmps) = true) (t' : TypeId) (x y : Operand) (ho : op.op = .binOp .eql 54 x y t') (f : Nat → Int) (hx : a.eval x = .agg (arr f)) (hy : a.eval y = .agg (arr f)) : YieldsIf Try.prog ops S op (.bool true) a :=
  .inl ⟨hw, fun w _ => by unfold execOp; simp only [ho, hx, hy]; generalize he : arr f = c; have := eq_arr f; rw [he] at this; simp [go_sem, this]⟩
theorem yields_load_row (hw : Region.wanted op (yielded ops a.tmps) = true) (x : Operand) (ho : op.op = .load 54 x) (b : Nat) (hx : a.eval x = .pointer (some ⟨b, 0, none⟩)) (f : Nat → Int) (hS : ∀ w, S w → w.rangeAt b 0 (arr f).toList) : YieldsIf Try.prog ops S op (.agg (arr f)) a := by
  have := yieldsIf_load_mid hw 54 x ho b 0 hx (arr f).toList _ hS Try.underlying54 rfl (by rw [Array.length_toList]; exact arr_infoc f)
  rwa [Array.toArray_toList] at this
end
/-- The frame written out. -/
theorem norm_act {P : Program} {md : Region.Mode} {ops : Array Oper} {Q : Exit → Act → World → Prop} {S : World → Prop} {fuel : Nat} {listed : Array Bool} {a : Act} {w : World} (tm : Array Value) (h : a.tmps = tm) (hd : a.defers = []) (H : wpAnyH P md ops Q S fuel listed { tmps := tm, defers := [] } w) : wpAnyH P md ops Q S fuel listed a w := by
  obtain ⟨t, d⟩ := a
  simp only at h hd
  subst h hd
  exact H
end Go.Proofs.Ytbjbjbpgmojcbaa
