/- A part of the proof: what it leans on. -/
import Derived.WalkMore
import Derived.Deep.AppendLies
import Derived.Below
import Derived.RegionTactic
import Derived.ChangeAlike
import Derived.BigRegion
import Derived.Great.BuildSlice
import Derived.Deep.RegionLaw
import Derived.Deep.RegionHeld3
import Derived.Deep.QuietTactic
import Derived.BigQuiet
import Derived.OrdersHeld
import Derived.Test.YtbjbjbpgmojcbabGreatLrBook01
import Derived.Test.YtbjbjbpgmojcbabGreatLrBook02
import Derived.Test.YtbjbjbpgmojcbabGreatLrBook04
import Derived.Test.YtbjbjbpgmojcbabGreatLrBook05
import Derived.Test.YtbjbjbpgmojcbabGreatLrBook06
import Derived.Test.YtbjbjbpgmojcbabGreatLrBook07
import Derived.Test.YtbjbjbpgmojcbabGreatLrBook08
import Derived.Test.YtbjbjbpgmojcbabGreatLrBook09
import Derived.Test.YtbjbjbpgmojcbabGreatLrBook10
import Derived.Test.YtbjbjbpgmojcbabGreatLrBook11
import Derived.Test.YtbjbjbpgmojcbabGreatLrBook12
namespace Go.Proofs.YtbjbjbpgmojcbabGreat
open Go.RowKit
namespace Im
theorem drop_act {s r q : ByteArray} {k : Nat} {x : Act} (hr : s.extract k s.size = r) (h : rAct r = some (x, q)) : q.size < r.size ∧ r.size = s.size - k ∧ s.extract (k + (r.size - q.size)) s.size = q := by
  obtain ⟨_, h2⟩ := (rAct_is r x q).1 h
  have hl := congrArg List.length h2
  rw [List.length_append, ← size_len, ← size_len] at hl
  have hp : 0 < (actB x).length := List.length_pos_iff.2 (actB_pos x)
  have hz : r.size = s.size - k := by rw [← hr]; simp
  refine ⟨by omega, hz, ?_⟩
  apply Nm.ba_ext
  rw [ext_drop, ← List.drop_drop, ← ext_drop s k, hr, h2, show r.size - q.size = (actB x).length by omega]
  simp
end Im
def RpSaid (l : List Im.Act) (n : Nat) (E : Int) (w : World) (e : Ending) (w' : World) : Prop := ∃ v, e = .returned (.tuple #[v, .int .i64 (n : Nat), .int .i64 E]) ∧ w'.ownsRow w.heap.size 54 4 v l.length (xcs l) ∧ Below w.heap.size w w'
set_option maxRecDepth 8000 in
set_option maxHeartbeats 2000000 in
theorem replay_any (s : ByteArray) (w : World) :
    Calls Tryz.prog 42 #[.string s] w fun e w' => RpSaid (Im.rplL s) (Im.rplN s) (Im.rplE s) w e w' := by
  by_cases hbig : 16384 < s.size
  · have e1 : Im.rplL s = [] := if_pos hbig
    have e2 : Im.rplN s = 0 := if_pos hbig
    have e3 : Im.rplE s = 2 := if_pos hbig
    rw [e1, e2, e3]
    have d1 : decide ((16384 : Int) < (s.size : Int)) = true := decide_eq_true (by omega)
    have hq : RpSaid [] 0 2 w (.returned (.tuple #[.slice none 0 0, .int .i64 0, .int .i64 2])) w := ⟨_, rfl, World.ownsRow_nil _ _ _ _, Below.refl _ _⟩
    generalize RpSaid [] 0 2 w = Q at *
    clear e1 e2 e3
    go_enter Tryz.func42, Tryz.ntmps42
    go_wp2_with fail
    go_step3
    go_wp2_with fail
    rw [Exit.noGoto_ret]
    go_ret3
    exact hq
  · obtain ⟨j0, gi, gz0, gz1, gz2⟩ := info_parts (P := Tryz.prog) (e := 54) (z := .agg #[.int .i64 0, .int .i64 0, .string ⟨#[]⟩, .string ⟨#[]⟩]) (size := 4) (bytes := 48) (by kernel_rfl)
    have e1 : Im.rplL s = (Im.rep 100 s).1 := if_neg hbig
    have e2 : Im.rplN s = s.size - (Im.rep 100 s).2.size := if_neg hbig
    have e3 : Im.rplE s = 0 := if_neg hbig
    rw [e1, e2, e3]
    have d1 : decide ((16384 : Int) < (s.size : Int)) = false := decide_eq_false (by omega)
    have hs : s.size ≤ 16384 := by omega
    have HQ : Hid (∀ (l : List Im.Act) (k : Nat) (r : ByteArray), s.extract k s.size = r → k ≤ s.size → Im.rep 100 s = (l, r) → ∀ v w', w'.ownsRow w.heap.size 54 4 v l.length (xcs l) → Below w.heap.size w w' → RpSaid (Im.rep 100 s).1 (s.size - (Im.rep 100 s).2.size) 0 w (.returned (.tuple #[v, .int .i64 (k : Nat), .int .i64 0])) w') := fun l k r h1 h2 h3 v w' h4 h5 => by
      have hz : r.size = s.size - k := by rw [← h1]; simp
      rw [h3]
      exact ⟨v, by simp only; rw [show s.size - r.size = k by omega], h4, h5⟩
    generalize RpSaid (Im.rep 100 s).1 (s.size - (Im.rep 100 s).2.size) 0 w = Q at *
    clear e1 e2 e3 hbig
    go_enter Tryz.func42, Tryz.ntmps42
    go_wp2_with fail
    go_step3
    go_wp2_with fail
    go_step3
    go_wp2_with fail
    go_loopw [5, 6] (fun v i wr => ∃ (l : List Im.Act) (k : Nat) (r : ByteArray), i = .int .i64 k ∧ Hid (s.extract k s.size = r) ∧ k ≤ s.size ∧ l.length ≤ 100 ∧ Hid (Im.rep 100 s = (l ++ (Im.rep (100 - l.length) r).1, (Im.rep (100 - l.length) r).2)) ∧ wr.ownsRow w.heap.size 54 4 v l.length (xcs l) ∧ Below w.heap.size w wr) (fun _ i _ => s.size - (intOf i).toNat)
    case atStart => exact ⟨[], 0, s, rfl, by show _ = _; apply Nm.ba_ext; rw [Im.ext_drop]; rfl, by omega, by simp, rfl, World.ownsRow_nil _ _ _ _, Below.refl _ _⟩
    case round =>
      obtain ⟨l, k, r, rfl, HR, hk, hl, HP, O, B⟩ := hrel
      obtain ⟨x, c, rfl, _⟩ := own_slice O
      have hki : (k : Int) ≤ (s.size : Int) := by omega
      by_cases hlt : l.length < 100
      · have d2 : decide ((l.length : Int) < 100) = true := decide_eq_true (by omega)
        have d2' : decide (l.length < 100) = true := decide_eq_true hlt
        have hr := HR.out
        have hrz : r.size ≤ 281474976710656 := by rw [← hr]; simp; omega
        cases ha : Im.rAct r with
        | none =>
          have C := fun w => first_none r w hrz ha
          have HF := hid_of (Im.rep_stop HP.out ha)
          clear ha HP
          have HS : Hid (xcs l = xcs l) := rfl
          go_wp2_with fail
          refine (C _).mono ?_
          rintro e w1 ⟨rfl, G⟩
          have GA := alloc_below w1 (.cells #[.int .i64 0, .int .i64 0, .string ⟨#[]⟩, .string ⟨#[]⟩] 54 (0, 0))
          have hq := HQ.out l k r HR.out hk HF.out _ _ (own_below (own_below O G) GA) (bch (bch B G (Nat.le_refl _)) GA (Nat.le_refl _))
          clear C O B G HQ HF HR
          go_wp2_with fail
          rw [Exit.noGoto_ret]
          go_ret3
          exact hq
        | some y =>
          obtain ⟨⟨ak, an, nm, tx⟩, q⟩ := y
          obtain ⟨q1, q2, q3⟩ := Im.drop_act hr ha
          have C := fun w => first_some r q ak an nm tx w hrz ha
          have HF := hid_of (Im.rep_step HP.out hlt ha)
          have hdn : (r.size : Int) - (q.size : Int) = ((r.size - q.size : Nat) : Int) := by omega
          simp only [hdn] at C
          have hqs : q.size ≤ r.size := by omega
          have HR' := hid_of q3
          have h1 : 0 < r.size - q.size := by omega
          have h2 : k + (r.size - q.size) ≤ s.size := by omega
          clear hdn ha HP q3
          generalize r.size - q.size = dn at *
          have d3 : ((dn : Int) == 0) = false := by simp; omega
          have d3' : (dn == 0) = false := by simp; omega
          go_wp2_with fail
          refine (C _).mono ?_
          rintro e w1 ⟨rfl, G⟩
          have GA := alloc_below w1 (.cells #[.int .i64 ak, .int .i64 an, .string nm, .string tx] 54 (0, 0))
          have O2 := own_below (own_below O G) GA
          have B2 := bch (bch B G (Nat.le_refl _)) GA (Nat.le_refl _)
          have X2 := XB.new w1 54 ak an nm tx
          clear C O B G GA HR hr
          obtain ⟨x0, x1, x2, x3, _⟩ := id X2
          have hb2 := B2.size
          have hsz : (w1.alloc (.cells #[.int .i64 ak, .int .i64 an, .string nm, .string tx] 54 (0, 0))).heap.size = w1.heap.size + 1 := by simp
          have hnw := news4 (w1.alloc (.cells #[.int .i64 ak, .int .i64 an, .string nm, .string tx] 54 (0, 0))) (.int .i64 ak) (.int .i64 an) (.string nm) (.string tx) 54
          rw [hsz] at hnw hb2
          clear hsz
          have HS : Hid (xcs (l ++ [⟨ak, an, nm, tx⟩]) = xcs l ++ [.int .i64 ak, .int .i64 an, .string nm, .string tx]) := by show _ = _; rw [xcs_append]; rfl
          go_wp2_with (first
            | (at_builtin; go_must (refine wpList_append_lies _ rfl _ _ 60 rfl w.heap.size 54 j0 (.agg #[.int .i64 0, .int .i64 0, .string ⟨#[]⟩, .string ⟨#[]⟩]) 4 48 Tryz.underlying60 gi gz0 gz1 gz2 rfl (by decide) _ _ _ rfl (O2.alloc _) ⟨w1.heap.size + 1, 0, none⟩ 1 1 [.int .i64 ak, .int .i64 an, .string nm, .string tx] rfl rfl hnw (one4 _ _ _ _) (by decide) (by unfold maxLen; omega) (by omega) (by simp; omega) _ rfl ?_; intro g cp w7 hown hgrow hat hlt7))
            | fail)
          have B3 : Below w.heap.size w w7 := (B2.alloc (by simp; omega) _).grown hgrow (by simp; omega) (fun j hj => (O2.lt j hj).1)
          go_roundw
          case rel => exact ⟨l ++ [⟨ak, an, nm, tx⟩], k + dn, q, by go_num, HR', by omega, by simp; omega, HF, by rw [HS.out]; simpa using hown, B3⟩
          case measure => simp [intOf]; omega
      · have h100 : l.length = 100 := by omega
        have d2 : decide ((l.length : Int) < 100) = false := decide_eq_false (by omega)
        have d2' : decide (l.length < 100) = false := decide_eq_false hlt
        have hq := HQ.out l k r HR.out hk (Im.rep_full HP.out (by omega)) _ _ O B
        clear HQ HP HR O h100
        go_wp2_with fail
        rw [Exit.noGoto_ret]
        go_ret3
        exact hq
end Go.Proofs.YtbjbjbpgmojcbabGreat
namespace Go.Proofs.YtbjbjbpgmojcbabGreat
open Go.RowKit
namespace Tr
def fnK (L : List ByteArray) (d : ByteArray) : Nat → Option Nat
  | 0 => none
  | k + 1 => match fnK L d k with
    | some i => some i
    | none => if st (xa L k) d = true then none else some k
theorem fnK_some {L : List ByteArray} {d : ByteArray} {k i : Nat} (h : fnK L d k = some i) : ∀ j, fnK L d (k + j) = some i := by
  intro j
  induction j with
  | zero => exact h
  | succ j ih => rw [← Nat.add_assoc, fnK, ih]
theorem fnK_spec {L : List ByteArray} {d : ByteArray} : ∀ {k : Nat}, (match fnK L d k with | none => ∀ j, j < k → st (xa L j) d = true | some i => i < k ∧ st (xa L i) d = false ∧ ∀ j, j < i → st (xa L j) d = true)
  | 0 => by intro j h; omega
  | k + 1 => by
    have ih := fnK_spec (L := L) (d := d) (k := k)
    rw [fnK]
    cases h : fnK L d k with
    | some i => rw [h] at ih; exact ⟨by have := ih.1; omega, ih.2⟩
    | none =>
      rw [h] at ih
      simp only at ih ⊢
      by_cases hs : st (xa L k) d = true
      · rw [if_pos hs]
        intro j hj
        by_cases e : j = k
        · subst e; exact hs
        · exact ih j (by omega)
      · rw [if_neg hs]
        exact ⟨by omega, by simpa using hs, ih⟩
def fix (L : List ByteArray) (d : ByteArray) : Int := match fnK L d L.length with | none => -1 | some i => (i : Int)
end Tr
set_option maxRecDepth 4000 in
set_option maxHeartbeats 1000000 in
theorem notIn_any (p d : ByteArray) (bx : Nat) (w : World) (hc : w.cell? ⟨bx, 0, none⟩ = some (.string d)) (hM : Mx w) (hd : d.size ≤ 4000000000) (hp : 0 < p.size) :
    Calls Tryz.prog 106 #[.string p, .pointer (some ⟨bx, 0, none⟩)] w fun e w' => e = .returned (.bool (!Tr.st p d)) ∧ w' = w := by
  have c1 := contains_any d p w hM hd hp
  generalize Tr.st p d = r at *
  go_enter Tryz.func106, Tryz.ntmps106
  go_wp2_with fail
  refine c1.mono ?_
  rintro e w2 ⟨rfl, rfl⟩
  go_wp2_with fail
  go_ret
  exact ⟨rfl, rfl⟩
set_option maxRecDepth 4000 in
set_option maxHeartbeats 1000000 in
theorem firstNot_some (L : List ByteArray) (d : ByteArray) (b off cap bx : Nat) (w : World) (hx : Tr.TxAt w b off L) (hn : L.length ≤ 100000) (hc : w.cell? ⟨bx, 0, none⟩ = some (.string d)) (hM : Mx w) (hd : d.size ≤ 4000000000) (hp : ∀ i, i < L.length → (Tr.xa L i).size = 4) :
    Calls Tryz.prog 105 #[.slice (some ⟨b, off, none⟩) L.length cap, .func (.func 106) #[] #[.pointer (some ⟨bx, 0, none⟩)]] w fun e w' => e = .returned (.int .i64 (Tr.fix L d)) ∧ w' = w := by
  have HX : Hid (∀ i, i < L.length → w.cell? ⟨b, off + i, none⟩ = some (.string (Tr.xa L i))) := hx.2
  have HP : Hid (∀ i, i < L.length → Calls Tryz.prog 106 #[.string (Tr.xa L i), .pointer (some ⟨bx, 0, none⟩)] w fun e w' => e = .returned (.bool (!Tr.st (Tr.xa L i) d)) ∧ w' = w) := fun i hi => notIn_any _ d bx w hc hM hd (by rw [hp i hi]; omega)
  clear hp hc hM hx
  obtain ⟨r, hr⟩ : ∃ r, Tr.fix L d = r := ⟨_, rfl⟩
  rw [hr]
  have Hr : Hid ((match Tr.fnK L d L.length with | none => (-1 : Int) | some i => (i : Int)) = r) := hr
  clear hr
  go_enter Tryz.func105, Tryz.ntmps105
  go_wp2_with fail
  go_loopw [8] (fun i wr => ∃ k : Nat, k ≤ L.length ∧ i = .int .i64 k ∧ Hid (Tr.fnK L d k = none) ∧ wr = w) (fun i _ => L.length - (intOf i).toNat)
  case atStart => exact ⟨0, by omega, rfl, rfl, rfl⟩
  case round =>
    obtain ⟨k, hk2, rfl, HL, rfl⟩ := hrel
    by_cases hlt : k < L.length
    · have d1 : decide ((k : Int) < (L.length : Int)) = true := by simp; omega
      have d1' : decide (k < L.length) = true := by simp; omega
      have hki : (k : Int) < (L.length : Int) := by omega
      have c1 := HX.out k hlt
      have c2 := HP.out k hlt
      cases hs : Tr.st (Tr.xa L k) d with
      | false =>
        have HN : Hid (Tr.fnK L d (k + 1) = some k) := by show _ = _; rw [Tr.fnK, HL.out]; simp only; rw [hs]; rfl
        have HR : Hid ((k : Int) = r) := by
          have h9 := Tr.fnK_some HN.out (L.length - (k + 1))
          rw [show k + 1 + (L.length - (k + 1)) = L.length by omega] at h9
          have := Hr.out
          rw [h9] at this
          exact this
        rw [hs] at c2
        generalize Tr.xa L k = X at *
        clear HN hs
        go_wp2_with fail
        refine c2.mono ?_
        rintro e w2 ⟨rfl, rfl⟩
        go_wp2_with fail
        go_ret
        exact ⟨congrArg (fun x => Ending.returned (Value.int .i64 x)) HR.out, rfl⟩
      | true =>
        have HN : Hid (Tr.fnK L d (k + 1) = none) := by show _ = _; rw [Tr.fnK, HL.out]; exact if_pos hs
        rw [hs] at c2
        generalize Tr.xa L k = X at *
        clear hs
        go_wp2_with fail
        refine c2.mono ?_
        rintro e w2 ⟨rfl, rfl⟩
        go_wp2_with fail
        go_roundw
        case rel => exact ⟨k + 1, by omega, by go_num, HN, by trivial⟩
        case measure => simp [intOf]; omega
    · obtain rfl : k = L.length := by omega
      have HR : Hid ((-1 : Int) = r) := by have := Hr.out; rw [HL.out] at this; exact this
      have d1 : decide ((L.length : Int) < (L.length : Int)) = false := by simp
      clear Hr
      go_wp2_with fail
      go_ret
      exact ⟨congrArg (fun x => Ending.returned (Value.int .i64 x)) HR.out, rfl⟩
set_option maxRecDepth 4000 in
set_option maxHeartbeats 1000000 in
theorem firstNot_nil (ad : Option Addr) (cap : Nat) (fv : Value) (w : World) :
    Calls Tryz.prog 105 #[.slice ad 0 cap, fv] w fun e w' => e = .returned (.int .i64 (-1)) ∧ w' = w := by
  go_enter Tryz.func105, Tryz.ntmps105
  go_wp2_with fail
  go_loopw [8] (fun i wr => i = .int .i64 0 ∧ wr = w) (fun i _ => 0)
  case atStart => exact ⟨rfl, rfl⟩
  case round =>
    obtain ⟨rfl, rfl⟩ := hrel
    go_wp2_with fail
    go_ret
    exact ⟨rfl, rfl⟩
theorem firstNot_any (lo : Nat) (L : List ByteArray) (d : ByteArray) (ad : Option Addr) (cap bx : Nat) (w : World) (hx : Tr.TxFar lo w ad L) (hn : L.length ≤ 100000) (hc : w.cell? ⟨bx, 0, none⟩ = some (.string d)) (hM : Mx w) (hd : d.size ≤ 4000000000) (hp : ∀ i, i < L.length → (Tr.xa L i).size = 4) :
    Calls Tryz.prog 105 #[.slice ad L.length cap, .func (.func 106) #[] #[.pointer (some ⟨bx, 0, none⟩)]] w fun e w' => e = .returned (.int .i64 (Tr.fix L d)) ∧ w' = w := by
  rcases hx with rfl | ⟨b, off, rfl, _, h2⟩
  · exact firstNot_nil ad cap _ w
  · exact firstNot_some L d b off cap bx w h2 hn hc hM hd hp
end Go.Proofs.YtbjbjbpgmojcbabGreat
namespace Go.Proofs.YtbjbjbpgmojcbabGreat
open Go.RowKit
namespace Tr
theorem TxFar.set {lo : Nat} {w : World} {ad : Option Addr} {xs : List ByteArray} (h : TxFar lo w ad xs) {bx : Nat} (hb : bx < lo) (v : Value) : TxFar lo (w.setCell ⟨bx, 0, none⟩ v) ad xs := by
  rcases h with h | ⟨b, off, h1, h2, h3⟩
  · exact .inl h
  · refine .inr ⟨b, off, h1, h2, by simpa using h3.1, fun i hi => ?_⟩
    exact (World.cell?_setCell_other w _ _ _ (by intro e; have := congrArg Addr.block e; simp at this; omega)).trans (h3.2 i hi)
theorem TxFar.drop {lo : Nat} {w : World} {b off : Nat} {xs : List ByteArray} (h2 : lo ≤ b) (h : TxAt w b off xs) (j : Nat) : TxFar lo w (some ⟨b, off + j, none⟩) (xs.drop j) := by
  refine .inr ⟨b, off + j, rfl, h2, h.1, fun i hi => ?_⟩
  rw [List.length_drop] at hi
  rw [show off + j + i = off + (j + i) by omega, h.2 (j + i) (by omega)]
  simp [xa]
def slen : Value → Nat
  | .slice _ n _ => n
  | _ => 0
theorem xa_get {L : List ByteArray} {i : Nat} (h : i < L.length) : xa L i = L[i] := by simp [xa, h]
theorem rk_step {xs pre P : List ByteArray} {d : ByteArray} (h : Rk xs (pre ++ P)) (hpre : ∀ p, p ∈ pre → st p d = true) {i : Nat} (hf : fnK P d P.length = some i) :
    i < P.length ∧ best xs d = xa P i ∧ (xa P i).size = 4 ∧ (∀ p, p ∈ pre ++ P.take (i + 1) → st p (xa P i ++ d) = true) := by
  have hs := fnK_spec (L := P) (d := d) (k := P.length)
  rw [hf] at hs
  obtain ⟨h1, h2, h3⟩ := hs
  have hm : xa P i ∈ pre ++ P := by rw [xa_get h1]; exact List.mem_append_right _ (List.getElem_mem h1)
  have h4 := ((h.2 _).1 hm).1
  refine ⟨h1, ?_, h4, ?_⟩
  · have hi : pre.length + i < (pre ++ P).length := by rw [List.length_append]; omega
    have e : (pre ++ P)[pre.length + i] = xa P i := by rw [xa_get h1, List.getElem_append_right (by omega)]; simp
    rw [← e]
    refine rk_first h hi (by rw [e]; exact h2) fun k hk => ?_
    by_cases hk2 : k < pre.length
    · rw [List.getElem_append_left hk2]; exact hpre _ (List.getElem_mem hk2)
    · rw [List.getElem_append_right (by omega), ← xa_get]; exact h3 _ (by omega)
  · intro p hp
    rw [List.mem_append] at hp
    rcases hp with hp | hp
    · exact st_append (hpre p hp)
    · obtain ⟨k, hk, rfl⟩ := List.mem_iff_getElem.1 hp
      rw [List.length_take] at hk
      rw [List.getElem_take, ← xa_get]
      by_cases e : k = i
      · subst e; exact st_own _ _
      · exact st_append (h3 k (by omega))
theorem rk_stop {xs pre P : List ByteArray} {d : ByteArray} (h : Rk xs (pre ++ P)) (hpre : ∀ p, p ∈ pre → st p d = true) (hf : fnK P d P.length = none) : (best xs d).size = 0 := by
  have hs := fnK_spec (L := P) (d := d) (k := P.length)
  rw [hf] at hs
  refine rk_none h fun k hk => ?_
  by_cases hk2 : k < pre.length
  · rw [List.getElem_append_left hk2]; exact hpre _ (List.getElem_mem hk2)
  · rw [List.length_append] at hk
    rw [List.getElem_append_right (by omega), ← xa_get]; exact hs _ (by omega)
theorem many_false {xs : List ByteArray} (h : many xs = false) : xs.length ≤ 12 ∧ ∀ i, (xa xs i).size ≤ 512 := by
  rw [many, Bool.or_eq_false_iff, decide_eq_false_iff_not] at h
  refine ⟨by omega, fun i => ?_⟩
  apply Nat.le_of_not_lt
  intro hlt
  by_cases hi : i < xs.length
  · have : ∀ k, i < k → (lgK xs k).isSome = true := by
      intro k hk
      induction k with
      | zero => omega
      | succ k ih =>
        rw [lgK]
        by_cases e : i = k
        · subst e
          cases lgK xs i with
          | some _ => rfl
          | none => simp only; rw [if_pos hlt]; rfl
        · have := ih (by omega)
          cases hq : lgK xs k with
          | some _ => rfl
          | none => rw [hq] at this; cases this
    rw [this _ hi] at h
    cases h.2
  · have : xa xs i = ⟨#[]⟩ := by simp [xa, show xs.length ≤ i by omega]
    rw [this] at hlt
    have : (⟨#[]⟩ : ByteArray).size = 0 := rfl
    omega
end Tr
set_option maxRecDepth 4000 in
set_option maxHeartbeats 4000000 in
theorem train_ok (xs : List ByteArray) (size : Int) (ad : Option Addr) (cap : Nat) (w : World) (hx : TxSl w ad xs) (hB : ∀ i, (Tr.xa xs i).size ≤ 140737488355328) (hM : Mx w) (hm : Tr.many xs = false) (h0 : 0 ≤ size) (h1 : size ≤ 256) :
    Calls Tryz.prog 66 #[.slice ad xs.length cap, .int .i64 size] w fun e w' => e = .returned (.tuple #[.string (Tr.trn xs size.toNat), .int .i64 0]) ∧ Below w.heap.size w w' := by
  obtain ⟨hn, hX⟩ := Tr.many_false hm
  have c1 := tooMany_any xs ad cap w hx hB
  rw [hm] at c1
  have HR : Hid (∀ w', Below w.heap.size w w' → Calls Tryz.prog 104 #[.slice ad xs.length cap] w' fun e w2 => ∃ ad' cap' L, e = .returned (.slice ad' (L : List ByteArray).length cap') ∧ L.length ≤ cap' ∧ L.length ≤ 6144 ∧ Tr.TxFar w'.heap.size w2 ad' L ∧ Tr.Rk xs L ∧ Below w'.heap.size w' w2) := fun w' hb => ranked_any xs ad cap w' (hx.below hb) hn hX (hM.below hb)
  have HM : Hid (∀ w', Below w.heap.size w w' → Mx w') := fun w' hb => hM.below hb
  have d1 : decide (size < 0) = false := decide_eq_false (by omega)
  have d2 : decide ((256 : Int) < size) = false := decide_eq_false (by omega)
  have HG := Tr.trn_good xs size.toNat
  obtain ⟨R, hR⟩ : ∃ R, Tr.trn xs size.toNat = R := ⟨_, rfl⟩
  rw [hR] at HG ⊢
  have HR0 : Hid (Tr.tro xs size.toNat 65 ⟨#[]⟩ = R) := hR
  have hRs : R.size ≤ 256 := by have := HG.most; omega
  clear hX hx hB hM hm hR HG
  go_enter Tryz.func66, Tryz.ntmps66
  go_wp2_with fail
  refine c1.mono ?_
  rintro e w1 ⟨rfl, B1⟩
  clear c1
  have c2 := HR.out (w1.alloc (.cells #[.string ⟨#[]⟩] 9 (0, 0))) (B1.alloc B1.size _)
  go_wp2_with fail
  refine c2.mono ?_
  rintro e w2 ⟨ad', cap', L, rfl, hLc, hL6, hT, hRk, B2⟩
  clear c2 HR
  have hcx : w2.cell? ⟨w1.heap.size, 0, none⟩ = some (.string ⟨#[]⟩) := by
    rw [B2.cell (p := ⟨w1.heap.size, 0, none⟩) (by simp)]
    exact cell_one_new _ _ _ 0 _ rfl
  have hfx : w2.frozen? ⟨w1.heap.size, 0, none⟩ = false := by
    rw [B2.frozen (p := ⟨w1.heap.size, 0, none⟩) (by simp)]
    exact World.frozen?_alloc_at _ _ _ _ rfl
  have B3 : Below w.heap.size w w2 := bch (B1.alloc B1.size (.cells #[.string ⟨#[]⟩] 9 (0, 0))) B2 (Nat.le_refl _)
  have hlo : w1.heap.size < (w1.alloc (.cells #[.string ⟨#[]⟩] 9 (0, 0))).heap.size := by simp
  have hwb := B1.size
  generalize (w1.alloc (.cells #[.string ⟨#[]⟩] 9 (0, 0))).heap.size = lo at *
  generalize w1.heap.size = bx at *
  clear B1 B2
  have HRk : Hid (Tr.Rk xs L) := hRk
  clear hRk
  go_wp2_with fail
  go_loopw [7] (fun v wr => ∃ (pre P : List ByteArray) (d : ByteArray) (f : Nat) (ad2 : Option Addr) (c : Nat), v = .slice ad2 P.length c ∧ P.length ≤ c ∧ P.length ≤ 6144 ∧ Hid (pre ++ P = L) ∧ Tr.TxFar lo wr ad2 P ∧ Hid (∀ p, p ∈ pre → Tr.st p d = true) ∧ Hid (Tr.tro xs size.toNat f d = R) ∧ Hid (4 * f + d.size = 260) ∧ d.size ≤ 256 ∧ wr.cell? ⟨bx, 0, none⟩ = some (.string d) ∧ wr.frozen? ⟨bx, 0, none⟩ = false ∧ Below w.heap.size w wr)
    (fun v _ => Tr.slen v)
  case atStart => exact ⟨[], L, ⟨#[]⟩, 65, ad', cap', rfl, hLc, hL6, rfl, hT, (fun p hp => by cases hp), HR0, rfl, by decide, hcx, hfx, B3⟩
  case round =>
    clear hcx hfx hT B3 hLc hL6
    obtain ⟨pre, P, d, f, ad2, c, rfl, hPc, hP6, HPL, hT, Hpre, HRd, Hf, hd, hcx, hfx, B3⟩ := hrel
    by_cases hfit : (d.size : Int) + 4 ≤ size
    · have e1 : decide ((d.size : Int) + 4 ≤ size) = true := decide_eq_true hfit
      have hrk : Tr.Rk xs (pre ++ P) := by rw [HPL.out]; exact HRk.out
      have hp4 : ∀ i, i < P.length → (Tr.xa P i).size = 4 := fun i hi => ((hrk.2 _).1 (List.mem_append_right _ (by rw [Tr.xa_get hi]; exact List.getElem_mem hi))).1
      have c3 := firstNot_any lo P d ad2 c bx wr hT (by omega) hcx (HM.out _ B3) (by omega) hp4
      unfold Tr.fix at c3
      cases hq : Tr.fnK P d P.length with
      | none =>
        rw [hq] at c3
        simp only at c3
        have HN : Hid (d = R) := by
          have h9 := HRd.out
          rw [Tr.tro_none (Tr.rk_stop hrk Hpre.out hq)] at h9
          exact h9
        clear hq hp4 hrk
        have c4 := fun w => clone_any d w (by omega)
        go_wp2_with fail
        refine c3.mono ?_
        rintro e w3 ⟨rfl, rfl⟩
        go_wp2_with fail
        refine (c4 _).mono ?_
        rintro e w4 ⟨rfl, G⟩
        go_wp2_with fail
        go_ret2
        exact ⟨by rw [HN.out]; rfl, bch B3 G (Nat.le_refl _)⟩
      | some i =>
        rw [hq] at c3
        simp only at c3
        obtain ⟨h2, h3, h4, h5⟩ := Tr.rk_step hrk Hpre.out hq
        obtain ⟨g, rfl⟩ : ∃ g, f = g + 1 := ⟨f - 1, by have := Hf.out; omega⟩
        have HN : Hid (Tr.tro xs size.toNat g (Tr.xa P i ++ d) = R) := by
          have h9 := HRd.out
          rw [Tr.tro_step (by omega) (by rw [h3]; exact h4), h3] at h9
          exact h9
        have HPre2 : Hid (∀ p, p ∈ pre ++ P.take (i + 1) → Tr.st p (Tr.xa P i ++ d) = true) := h5
        have HPL2 : Hid (pre ++ P.take (i + 1) ++ P.drop (i + 1) = L) := by show _ = _; rw [List.append_assoc, List.take_append_drop]; exact HPL.out
        rcases hT with hT | ⟨b2, off2, rfl, hlo2, hTx⟩
        · rw [hT] at h2; simp at h2
        have cX := hTx.2 i h2
        have hXd : (Tr.xa P i ++ d).size = 4 + d.size := by rw [ByteArray.size_append, h4]
        have hT2 := Tr.TxFar.drop hlo2 hTx (i + 1)
        generalize Tr.xa P i = X at *
        have hii : (i : Int) < (P.length : Int) := by omega
        have hi0 : decide ((i : Int) < 0) = false := decide_eq_false (by omega)
        have hi6 : (i : Int) ≤ 6144 := by omega
        have hXs : X.size ≤ 4 := by omega
        clear hq hp4 hrk HRd Hpre HPL h3 h5 hTx
        go_wp2_with fail
        refine c3.mono ?_
        rintro e w3 ⟨rfl, rfl⟩
        go_wp2_with fail
        go_region
        have hT3 := (hT2.set hlo (.string (X ++ d)))
        have hc3 : (w3.setCell ⟨bx, 0, none⟩ (.string (X ++ d))).cell? ⟨bx, 0, none⟩ = some (.string (X ++ d)) := World.cell?_setCell_same _ _ _ hcx
        have hf3 : (w3.setCell ⟨bx, 0, none⟩ (.string (X ++ d))).frozen? ⟨bx, 0, none⟩ = false := by rw [World.frozen?_setCell]; exact hfx
        have B4 : Below w.heap.size w (w3.setCell ⟨bx, 0, none⟩ (.string (X ++ d))) := B3.setCell hwb _
        have HD : Hid ((P.drop (i + 1)).length = P.length - (i + 1)) := List.length_drop ..
        have hlP : ((i : Int) + 1) ≤ (P.length : Int) := by omega
        have hlc : (P.length : Int) ≤ (c : Int) := by omega
        by_cases hce : i + 1 = c
        · subst hce
          obtain hPl : P.length = i + 1 := by omega
          go_wp2_with fail
          go_roundw
          case rel => exact ⟨pre ++ P.take (i + 1), [], X ++ d, g, _, 0, rfl, Nat.le_refl _, by simp, by have h9 := HPL2.out; rw [List.drop_of_length_le (by omega : P.length ≤ i + 1)] at h9; exact h9, .inl rfl, HPre2, HN, by have := Hf.out; show 4 * g + _ = 260; omega, by omega, hc3, hf3, B4.drew⟩
          case measure => simp [Tr.slen]; omega
        · have hce' : ¬ ((i : Int) + 1 = (c : Int)) := by omega
          go_wp2_with fail
          go_roundw
          case rel => exact ⟨pre ++ P.take (i + 1), P.drop (i + 1), X ++ d, g, _, c - (i + 1), by rw [HD.out], by rw [HD.out]; omega, by rw [HD.out]; omega, HPL2, hT3, HPre2, HN, by have := Hf.out; show 4 * g + _ = 260; omega, by omega, hc3, hf3, B4.drew⟩
          case measure => simp [Tr.slen]; omega
    · have e1 : decide ((d.size : Int) + 4 ≤ size) = false := decide_eq_false hfit
      have HN : Hid (d = R) := by
        have h9 := HRd.out
        rw [Tr.tro_full (by omega)] at h9
        exact h9
      have c4 := fun w => clone_any d w (by omega)
      go_wp2_with fail
      refine (c4 _).mono ?_
      rintro e w4 ⟨rfl, G⟩
      go_wp2_with fail
      go_ret2
      exact ⟨by rw [HN.out]; rfl, bch B3 G (Nat.le_refl _)⟩
set_option maxRecDepth 4000 in
set_option maxHeartbeats 1000000 in
theorem train_many (xs : List ByteArray) (size : Int) (ad : Option Addr) (cap : Nat) (w : World) (hx : TxSl w ad xs) (hB : ∀ i, (Tr.xa xs i).size ≤ 140737488355328) (hm : Tr.many xs = true) :
    Calls Tryz.prog 66 #[.slice ad xs.length cap, .int .i64 size] w fun e w' => e = .returned (.tuple #[.string ⟨#[]⟩, .int .i64 2]) ∧ Below w.heap.size w w' := by
  have c1 := tooMany_any xs ad cap w hx hB
  rw [hm] at c1
  clear hB hm hx
  go_enter Tryz.func66, Tryz.ntmps66
  go_wp2_with fail
  refine c1.mono ?_
  rintro e w1 ⟨rfl, B1⟩
  go_wp2_with fail
  go_ret2
  exact ⟨rfl, B1⟩
set_option maxRecDepth 4000 in
set_option maxHeartbeats 1000000 in
theorem train_range (xs : List ByteArray) (size : Int) (ad : Option Addr) (cap : Nat) (w : World) (hx : TxSl w ad xs) (hB : ∀ i, (Tr.xa xs i).size ≤ 140737488355328) (hm : Tr.many xs = false) (h : size < 0 ∨ 256 < size) :
    Calls Tryz.prog 66 #[.slice ad xs.length cap, .int .i64 size] w fun e w' => e = .returned (.tuple #[.string ⟨#[]⟩, .int .i64 3]) ∧ Below w.heap.size w w' := by
  have c1 := tooMany_any xs ad cap w hx hB
  rw [hm] at c1
  clear hB hm hx
  by_cases h0 : size < 0
  · have d1 : decide (size < 0) = true := decide_eq_true h0
    clear h
    go_enter Tryz.func66, Tryz.ntmps66
    go_wp2_with fail
    refine c1.mono ?_
    rintro e w1 ⟨rfl, B1⟩
    go_wp2_with fail
    go_ret2
    exact ⟨rfl, B1⟩
  · have d1 : decide (size < 0) = false := decide_eq_false h0
    have h2 : 256 < size := by omega
    have d2 : decide ((256 : Int) < size) = true := decide_eq_true h2
    clear h
    go_enter Tryz.func66, Tryz.ntmps66
    go_wp2_with fail
    refine c1.mono ?_
    rintro e w1 ⟨rfl, B1⟩
    go_wp2_with fail
    go_ret2
    exact ⟨rfl, B1⟩
namespace Tr
def tnE (xs : List ByteArray) (size : Int) : Int := if many xs = true then 2 else if 0 ≤ size ∧ size ≤ 256 then 0 else 3
def tnD (xs : List ByteArray) (size : Int) : ByteArray := if tnE xs size = 0 then trn xs size.toNat else ⟨#[]⟩
end Tr
theorem train_any (xs : List ByteArray) (size : Int) (ad : Option Addr) (cap : Nat) (w : World) (hx : TxSl w ad xs) (hB : ∀ i, (Tr.xa xs i).size ≤ 140737488355328) (hM : Mx w) :
    Calls Tryz.prog 66 #[.slice ad xs.length cap, .int .i64 size] w fun e w' => e = .returned (.tuple #[.string (Tr.tnD xs size), .int .i64 (Tr.tnE xs size)]) ∧ Below w.heap.size w w' := by
  unfold Tr.tnD Tr.tnE
  cases hm : Tr.many xs with
  | true => simpa using train_many xs size ad cap w hx hB hm
  | false =>
    by_cases h : 0 ≤ size ∧ size ≤ 256
    · simpa [h] using train_ok xs size ad cap w hx hB hM hm h.1 h.2
    · simpa [h] using train_range xs size ad cap w hx hB hm (by omega)
end Go.Proofs.YtbjbjbpgmojcbabGreat
namespace Go.Proofs.YtbjbjbpgmojcbabGreat
open Go.RowKit
set_option maxRecDepth 4000 in
set_option maxHeartbeats 4000000 in
theorem retrain_chk (ad af : Option Addr) (cd cf : Nat) (a : Ar.A) (size : Int) (w : World) (h : ArV w ad af a) (hs : SaneA a) (hc : Ar.chk a ≠ 0) :
    Calls Tryz.prog 25 #[av ad cd af cf a, .int .i64 size] w fun e w' => ArSaid w Ar.az (Ar.chk a) e w' := by
  have C1 : Hid (∀ w', Below w.heap.size w w' → Calls Tryz.prog 61 #[av ad cd af cf a] w' fun e w2 => TxtSaid a w' e w2) := fun w' h9 => texts_any ad af cd cf a w' (h.below h9) hs
  have hQ : Hid (∀ w', Below w.heap.size w w' → ArSaid w Ar.az (Ar.chk a) (.returned (.tuple #[.agg #[.slice none 0 0, .slice none 0 0], .int .i64 (Ar.chk a)])) w') := fun w' h9 => said_nil h9
  generalize ArSaid w Ar.az (Ar.chk a) = Q at *
  unfold TxtSaid at C1
  unfold av at C1 ⊢
  generalize Ar.chk a = E at *
  generalize Ar.txs a = TX at *
  generalize a.dicts.length = D at *
  generalize a.files.length = N at *
  have e1 : (E != 0) = true := by simpa using hc
  have e2 : (E == 0) = false := by simpa using hc
  clear h hs
  go_enter Tryz.func25, Tryz.ntmps25
  go_wp2_with fail
  refine (C1.out _ (Fr.start w _ _).b).mono ?_
  rintro e w1 ⟨adt, capt, L, rfl, _, _, _, _, G1⟩
  have F1 := (Fr.start w _ _).next G1
  clear G1
  obtain ⟨b, a0, a1, r0, r1, z0, z1, hz⟩ := id F1
  go_wp2_with fail
  rw [F1.zero]
  exact bodyPost_ret (v := .tuple #[.agg #[.slice none 0 0, .slice none 0 0], .int .i64 E]) (by simp [results, Tryz.results25, go_sem, F1.r0, F1.r1]) rfl (hQ.out _ F1.b)
set_option maxRecDepth 4000 in
set_option maxHeartbeats 4000000 in
theorem retrain_size (ad af : Option Addr) (cd cf : Nat) (a : Ar.A) (size : Int) (w : World) (h : ArV w ad af a) (hs : SaneA a) (hM : Mx w) (hc : Ar.chk a = 0) (hz : ¬ (0 ≤ size ∧ size ≤ 256)) :
    Calls Tryz.prog 25 #[av ad cd af cf a, .int .i64 size] w fun e w' => ArSaid w Ar.az 3 e w' := by
  have C1 : Hid (∀ w', Below w.heap.size w w' → Calls Tryz.prog 61 #[av ad cd af cf a] w' fun e w2 => TxtSaid a w' e w2) := fun w' h9 => texts_any ad af cd cf a w' (h.below h9) hs
  have hT := Ar.txs_many hc
  have C2 : Hid (∀ w' adt capt, Below w.heap.size w w' → TxSl w' adt (Ar.txs a) → Calls Tryz.prog 66 #[.slice adt (Ar.txs a).length capt, .int .i64 size] w' fun e w2 => e = .returned (.tuple #[.string ⟨#[]⟩, .int .i64 3]) ∧ Below w'.heap.size w' w2) := fun w' adt capt h8 h9 => by
    have := train_any (Ar.txs a) size adt capt w' h9 (fun i => by
      by_cases hi : i < (Ar.txs a).length
      · have e : Tr.xa (Ar.txs a) i = (Ar.txs a)[i] := by simp [Tr.xa, hi]
        rw [e]
        exact Nat.le_trans (hT.2 _ (List.getElem_mem hi)) (by decide)
      · have e : Tr.xa (Ar.txs a) i = ⟨#[]⟩ := by simp [Tr.xa, hi]
        rw [e]; exact Nat.zero_le _) (hM.below h8)
    have eE : Tr.tnE (Ar.txs a) size = 3 := by unfold Tr.tnE; rw [Ar.txs_none hc, if_neg (by decide), if_neg hz]
    have eD : Tr.tnD (Ar.txs a) size = ⟨#[]⟩ := by unfold Tr.tnD; rw [eE, if_neg (by decide)]
    rw [eE, eD] at this
    exact this
  have hQ : Hid (∀ w', Below w.heap.size w w' → ArSaid w Ar.az 3 (.returned (.tuple #[.agg #[.slice none 0 0, .slice none 0 0], .int .i64 3])) w') := fun w' h9 => said_nil h9
  generalize ArSaid w Ar.az 3 = Q at *
  unfold TxtSaid at C1
  rw [hc] at C1
  unfold av at C1 ⊢
  generalize Ar.txs a = TX at *
  generalize a.dicts.length = D at *
  generalize a.files.length = N at *
  clear h hs hM hc hz hT
  go_enter Tryz.func25, Tryz.ntmps25
  go_wp2_with fail
  refine (C1.out _ (Fr.start w _ _).b).mono ?_
  rintro e w1 ⟨adt, capt, L, rfl, _, hfar, hLx, _, G1⟩
  have hLT := hLx (by trivial)
  subst hLT
  have F1 := (Fr.start w _ _).next G1
  clear G1 hLx
  obtain ⟨b, a0, a1, r0, r1, z0, z1, hz⟩ := id F1
  have C2' := C2.out w1 adt capt b (TxFar.sl hfar)
  go_wp2_with fail
  refine C2'.mono ?_
  rintro e w2 ⟨rfl, G2⟩
  have F2 := F1.next G2
  clear b a0 a1 r0 r1 z0 z1 hz
  obtain ⟨b, a0, a1, r0, r1, z0, z1, hz⟩ := id F2
  go_wp2_with fail
  rw [F2.zero]
  exact bodyPost_ret (v := .tuple #[.agg #[.slice none 0 0, .slice none 0 0], .int .i64 3]) (by simp [results, Tryz.results25, go_sem, F2.r0, F2.r1]) rfl (hQ.out _ F2.b)
set_option maxRecDepth 4000 in
set_option maxHeartbeats 4000000 in
theorem retrain_full (ad af : Option Addr) (cd cf : Nat) (a : Ar.A) (size : Int) (w : World) (h : ArV w ad af a) (hs : SaneA a) (hM : Mx w) (hc : Ar.chk a = 0) (hz : 0 ≤ size ∧ size ≤ 256) (h4 : a.dicts.length = 4) :
    Calls Tryz.prog 25 #[av ad cd af cf a, .int .i64 size] w fun e w' => ArSaid w Ar.az 2 e w' := by
  have C1 : Hid (∀ w', Below w.heap.size w w' → Calls Tryz.prog 61 #[av ad cd af cf a] w' fun e w2 => TxtSaid a w' e w2) := fun w' h9 => texts_any ad af cd cf a w' (h.below h9) hs
  have hT := Ar.txs_many hc
  have C2 : Hid (∀ w' adt capt, Below w.heap.size w w' → TxSl w' adt (Ar.txs a) → Calls Tryz.prog 66 #[.slice adt (Ar.txs a).length capt, .int .i64 size] w' fun e w2 => e = .returned (.tuple #[.string (Tr.trn (Ar.txs a) size.toNat), .int .i64 0]) ∧ Below w'.heap.size w' w2) := fun w' adt capt h8 h9 => by
    have := train_any (Ar.txs a) size adt capt w' h9 (fun i => by
      by_cases hi : i < (Ar.txs a).length
      · have e : Tr.xa (Ar.txs a) i = (Ar.txs a)[i] := by simp [Tr.xa, hi]
        rw [e]
        exact Nat.le_trans (hT.2 _ (List.getElem_mem hi)) (by decide)
      · have e : Tr.xa (Ar.txs a) i = ⟨#[]⟩ := by simp [Tr.xa, hi]
        rw [e]; exact Nat.zero_le _) (hM.below h8)
    have eE : Tr.tnE (Ar.txs a) size = 0 := by unfold Tr.tnE; rw [Ar.txs_none hc, if_neg (by decide), if_pos hz]
    have eD : Tr.tnD (Ar.txs a) size = Tr.trn (Ar.txs a) size.toNat := by unfold Tr.tnD; rw [if_pos eE]
    rw [eE, eD] at this
    exact this
  have hQ : Hid (∀ w', Below w.heap.size w w' → ArSaid w Ar.az 2 (.returned (.tuple #[.agg #[.slice none 0 0, .slice none 0 0], .int .i64 2])) w') := fun w' h9 => said_nil h9
  generalize ArSaid w Ar.az 2 = Q at *
  unfold TxtSaid at C1
  rw [hc] at C1
  unfold av at C1 ⊢
  generalize Tr.trn (Ar.txs a) size.toNat = X at *
  generalize Ar.txs a = TX at *
  rw [h4] at C1 ⊢
  generalize a.files.length = N at *
  clear h hs hM hc hz hT h4
  go_enter Tryz.func25, Tryz.ntmps25
  go_wp2_with fail
  refine (C1.out _ (Fr.start w _ _).b).mono ?_
  rintro e w1 ⟨adt, capt, L, rfl, _, hfar, hLx, _, G1⟩
  have hLT := hLx (by trivial)
  subst hLT
  have F1 := (Fr.start w _ _).next G1
  clear G1 hLx
  obtain ⟨b, a0, a1, r0, r1, z0, z1, hz⟩ := id F1
  have C2' := C2.out w1 adt capt b (TxFar.sl hfar)
  go_wp2_with fail
  refine C2'.mono ?_
  rintro e w2 ⟨rfl, G2⟩
  have F2 := F1.next G2
  clear b a0 a1 r0 r1 z0 z1 hz
  obtain ⟨b, a0, a1, r0, r1, z0, z1, hz⟩ := id F2
  go_wp2_with fail
  rw [F2.zero]
  exact bodyPost_ret (v := .tuple #[.agg #[.slice none 0 0, .slice none 0 0], .int .i64 2]) (by simp [results, Tryz.results25, go_sem, F2.r0, F2.r1]) rfl (hQ.out _ F2.b)
end Go.Proofs.YtbjbjbpgmojcbabGreat
namespace Go.Proofs.YtbjbjbpgmojcbabGreat
open Go.RowKit
set_option maxRecDepth 8000 in
set_option maxHeartbeats 8000000 in
theorem retrain_ok (ad af : Option Addr) (cd cf : Nat) (a : Ar.A) (size : Int) (w : World) (h : ArV w ad af a) (hs : SaneA a) (hM : Mx w) (hE : Ar.retE a size = 0) :
    Calls Tryz.prog 25 #[av ad cd af cf a, .int .i64 size] w fun e w' => ArSaid w ⟨Ar.retD a size, a.files.map (Ar.reF a size)⟩ 0 e w' := by
  obtain ⟨hc, hzz1, hzz2, h4⟩ := Ar.retE_zero hE
  have hz : 0 ≤ size ∧ size ≤ 256 := ⟨hzz1, hzz2⟩
  obtain ⟨i0, hi, hz0, hz1, hz2⟩ := info_parts (P := Tryz.prog) (e := 9) (z := .string ⟨#[]⟩) (size := 1) (bytes := 16) (by kernel_rfl)
  obtain ⟨m1, m2, m3⟩ := Ar.many_iff.1 (Ar.chk_zero.1 hc).1
  have C1 : Hid (∀ w', Below w.heap.size w w' → Calls Tryz.prog 61 #[av ad cd af cf a] w' fun e w2 => TxtSaid a w' e w2) := fun w' h9 => texts_any ad af cd cf a w' (h.below h9) hs
  have hT := Ar.txs_many hc
  have C2 : Hid (∀ w' adt capt, Below w.heap.size w w' → TxSl w' adt (Ar.txs a) → Calls Tryz.prog 66 #[.slice adt (Ar.txs a).length capt, .int .i64 size] w' fun e w2 => e = .returned (.tuple #[.string (Tr.trn (Ar.txs a) size.toNat), .int .i64 0]) ∧ Below w'.heap.size w' w2) := fun w' adt capt h8 h9 => by
    have := train_any (Ar.txs a) size adt capt w' h9 (fun i => by
      by_cases hi : i < (Ar.txs a).length
      · have e : Tr.xa (Ar.txs a) i = (Ar.txs a)[i] := by simp [Tr.xa, hi]
        rw [e]
        exact Nat.le_trans (hT.2 _ (List.getElem_mem hi)) (by decide)
      · have e : Tr.xa (Ar.txs a) i = ⟨#[]⟩ := by simp [Tr.xa, hi]
        rw [e]; exact Nat.zero_le _) (hM.below h8)
    have eE : Tr.tnE (Ar.txs a) size = 0 := by unfold Tr.tnE; rw [Ar.txs_none hc, if_neg (by decide), if_pos hz]
    have eD : Tr.tnD (Ar.txs a) size = Tr.trn (Ar.txs a) size.toNat := by unfold Tr.tnD; rw [if_pos eE]
    rw [eE, eD] at this
    exact this
  have C6 : Hid (∀ w', Below w.heap.size w w' → Calls Tryz.prog 53 #[av ad cd af cf a] w' fun e w2 => ∃ v1 v2, e = .returned (.agg #[v1, v2]) ∧ ArOwn w'.heap.size w2 v1 v2 a ∧ Below w'.heap.size w' w2) := fun w' h9 => clone_arch ad af cd cf a w' (h.below h9) hs m1 m2
  have hmr := Ar.many_ret hE
  have hrl : (Ar.retD a size).length = a.dicts.length + 1 := by unfold Ar.retD; rw [List.length_append]; rfl
  have CP : Hid (∀ w' adx cdx afx cfx m, m < a.files.length → TxSl w' adx (Ar.retD a size) → Calls Tryz.prog 52 #[.agg #[.slice adx (a.dicts.length + 1) cdx, .slice afx a.files.length cfx], .string (Ar.fa a.files m).name, .string (Tr.xa (Ar.txs a) m), .int .i64 ((a.dicts.length : Int) + 1)] w' fun e w2 => e = .returned (.tuple #[.agg #[.string (Ar.reF a size (Ar.fa a.files m)).name, .int .i64 (Ar.reF a size (Ar.fa a.files m)).dict, .int .i64 (Ar.reF a size (Ar.fa a.files m)).size, .int .i64 (Ar.reF a size (Ar.fa a.files m)).sum, .string (Ar.reF a size (Ar.fa a.files m)).blk], .int .i64 0]) ∧ Below w'.heap.size w' w2) := fun w' adx cdx afx cfx m hm hx => by
    have hmem : Ar.fa a.files m ∈ a.files := by rw [Ar.fa_get hm]; exact List.getElem_mem hm
    have e : Tr.xa (Ar.txs a) m = Ar.tx a.dicts (Ar.fa a.files m) := by unfold Ar.txs; simp [Tr.xa, Ar.fa, hm]
    have := archPack_any adx afx cdx cfx ⟨Ar.retD a size, a.files⟩ (Ar.fa a.files m).name (Tr.xa (Ar.txs a) m) ((a.dicts.length : Int) + 1) w' hx (by show (Ar.retD a size).length ≤ 4; omega) (Ar.dct_size hmr _) (by show Ar.has (Ar.retD a size) _ = true; unfold Ar.has; rw [hrl]; exact decide_eq_true ⟨by omega, by omega⟩) (by rw [e]; exact Ar.tx_size hc hmem) (hs.nm m)
    unfold av at this
    simp only [hrl] at this
    rw [e] at this ⊢
    exact this
  have HQ : Hid (∀ v1 v2 w', w'.ownsRow w.heap.size 9 1 v1 (a.dicts.length + 1) (a.dicts.map Value.string ++ [.string (Tr.trn (Ar.txs a) size.toNat)]) → w'.ownsRow w.heap.size 46 5 v2 a.files.length (fcs (a.files.map (Ar.reF a size))) → (∀ j, v1.ownBlock = some j → v2.ownBlock ≠ some j) → Below w.heap.size w w' → ArSaid w ⟨Ar.retD a size, a.files.map (Ar.reF a size)⟩ 0 (.returned (.tuple #[.agg #[v1, v2], .int .i64 0])) w') := fun v1 v2 w' h1 h2 h3 h4 => ⟨v1, v2, rfl, ⟨by
      show w'.ownsRow _ _ _ _ (Ar.retD a size).length ((Ar.retD a size).map Value.string)
      have e : (Ar.retD a size).map Value.string = a.dicts.map Value.string ++ [.string (Tr.trn (Ar.txs a) size.toNat)] := by unfold Ar.retD; rw [List.map_append]; rfl
      rw [hrl, e]; exact h1, by show w'.ownsRow _ _ _ _ (a.files.map (Ar.reF a size)).length _; rw [List.length_map]; exact h2, h3⟩, h4⟩
  generalize ArSaid w ⟨Ar.retD a size, a.files.map (Ar.reF a size)⟩ 0 = Q at *
  have HTx : Hid (∀ lo w' ad' cap', w'.ownsRow lo 9 1 (.slice ad' (a.dicts.length + 1) cap') (a.dicts.length + 1) (a.dicts.map Value.string ++ [.string (Tr.trn (Ar.txs a) size.toNat)]) → TxSl w' ad' (Ar.retD a size)) := fun lo w' ad' cap' h1 => by
    have e : (Ar.retD a size).map Value.string = a.dicts.map Value.string ++ [.string (Tr.trn (Ar.txs a) size.toNat)] := by unfold Ar.retD; rw [List.map_append]; rfl
    rw [← hrl, ← e] at h1
    obtain ⟨ad2, cap2, e2, _, h5⟩ := tx_owns h1
    simp only [Value.slice.injEq] at e2
    obtain ⟨rfl, _, rfl⟩ := e2
    exact TxFar.sl h5
  have HI : Hid (∀ m, m < a.files.length → (Ar.reI a size m).length = a.files.length ∧ Ar.fa (Ar.reI a size m) m = Ar.fa a.files m ∧ fcs (Ar.reI a size (m + 1)) = fcs ((Ar.reI a size m).take m ++ Ar.reF a size (Ar.fa a.files m) :: (Ar.reI a size m).drop (m + 1))) := fun m hm => ⟨Ar.reI_len (Nat.le_of_lt hm), (Ar.reI_at hm).1, by rw [(Ar.reI_at hm).2]⟩
  have HIN : Hid (fcs (Ar.reI a size a.files.length) = fcs (a.files.map (Ar.reF a size))) := by show _ = _; rw [Ar.reI_end]
  have HA : Hid (∀ lo w' v1 v2, ArOwn lo w' v1 v2 a → w'.ownsRow lo 9 1 v1 a.dicts.length (a.dicts.map Value.string) ∧ w'.ownsRow lo 46 5 v2 a.files.length (fcs (Ar.reI a size 0)) ∧ (∀ j, v1.ownBlock = some j → v2.ownBlock ≠ some j)) := fun lo w' v1 v2 h9 => ⟨h9.o1, by rw [Ar.reI_zero]; exact h9.o2, h9.ne⟩
  have HTl : Hid ((Ar.txs a).length = a.files.length) := by show _ = _; unfold Ar.txs; rw [List.length_map]
  unfold TxtSaid at C1
  rw [hc] at C1
  unfold av at C1 C6 ⊢
  generalize hTX : Ar.txs a = TX at *
  generalize hXX : Tr.trn TX size.toNat = X at *
  have HXX : Hid (Tr.trn TX size.toNat = X) := hXX
  have xz : X.size ≤ 256 := by
    have := (Tr.trn_good TX size.toNat).most
    rw [hXX] at this
    omega
  clear hXX hTX
  generalize a.dicts.map Value.string = XS at *
  clear h hs hM hc hz hT hmr hrl m3 hE
  generalize a.dicts.length = D at *
  generalize a.files.length = N at *
  have hDi : (D : Int) ≤ 4 := by omega
  have hNi : (N : Int) ≤ 12 := by omega
  have d4 : ((D : Int) == 4) = false := by simp; omega
  have d4' : decide ((D : Int) = 4) = false := decide_eq_false (by omega)
  have d4'' : ¬ (D : Int) = 4 := by omega
  go_enter Tryz.func25, Tryz.ntmps25
  go_wp2_with fail
  refine (C1.out _ (Fr.start w _ _).b).mono ?_
  rintro e w1 ⟨adt, capt, L, rfl, _, hfar, hLx, _, G1⟩
  have hLT := hLx (by trivial)
  subst hLT
  have F1 := (Fr.start w _ _).next G1
  clear G1 hLx C1
  have hsl := TxFar.sl hfar
  obtain ⟨b, a0, a1, r0, r1, z0, z1, hz⟩ := id F1
  have C2' := C2.out w1 adt capt b hsl
  go_wp2_with fail
  refine C2'.mono ?_
  rintro e w2 ⟨rfl, G2⟩
  have F2 := F1.next G2
  have HX : Hid (∀ w', Below w2.heap.size w2 w' → ∀ m, m < N → ∃ b off, adt = some ⟨b, off, none⟩ ∧ b < w2.heap.size ∧ w'.cell? ⟨b, off + m, none⟩ = some (.string (Tr.xa L m))) := fun w' h9 m hm => by
    obtain ⟨b, off, e1, e2, e3⟩ := (hsl.below G2).at (i := m) (by rw [HTl.out]; exact hm)
    exact ⟨b, off, e1, e2, (h9.cell (p := ⟨b, off + m, none⟩) e2).trans e3⟩
  clear b a0 a1 r0 r1 z0 z1 hz C2 C2' hsl hfar G2 F1
  obtain ⟨b, a0, a1, r0, r1, z0, z1, hz⟩ := id F2
  go_wp2_with fail
  refine (C6.out _ F2.b).mono ?_
  rintro e w6 ⟨v1, v2, rfl, O6, G6⟩
  have F6 := F2.next G6
  obtain ⟨o1, o2, o3⟩ := HA.out _ _ _ _ O6
  have hlo : w.heap.size + 1 < w2.heap.size := F2.hz
  have hl0 : w2.heap.size ≤ w6.heap.size := G6.size
  have HX6 : Hid (∀ w', Below w2.heap.size w6 w' → ∀ m, m < N → ∃ b off, adt = some ⟨b, off, none⟩ ∧ b < w2.heap.size ∧ w'.cell? ⟨b, off + m, none⟩ = some (.string (Tr.xa L m))) := fun w' h9 m hm => HX.out w' (G6.trans h9) m hm
  generalize w2.heap.size = lo at o1 o2 hlo hl0 HX6
  clear G6 O6 HA b a0 a1 r0 r1 z0 z1 hz C6 HX F2
  obtain ⟨p1, q1, rfl, _⟩ := own_slice o1
  obtain ⟨p2, q2, rfl, _⟩ := own_slice o2
  obtain ⟨b, a0, a1, r0, r1, z0, z1, hz⟩ := id F6
  have hz6 : w.heap.size < w6.heap.size := by omega
  have S0 : CpS w6 (w6.alloc (.cells #[.slice p1 D q1, .slice p2 N q2] 25 (0, 0))) w6.heap.size lo (.slice p1 D q1) (.slice p2 N q2) D N XS (fcs (Ar.reI a size 0)) :=
    ⟨World.cell?_alloc_new _ _ _ 0, World.cell?_alloc_new _ _ _ 1, World.frozen?_alloc_at _ _ _ _ rfl, World.frozen?_alloc_at _ _ _ _ rfl, o1.alloc _, o2.alloc _, o3, fun e => by have := (o1.lt _ e).2; omega, fun e => by have := (o2.lt _ e).2; omega, hl0, by simp, (Below.refl _ _).alloc hl0 _⟩
  clear o1 o2 o3
  have hnw : ∀ j u, [Value.string X][j]? = some u → ((w6.alloc (.cells #[.slice p1 D q1, .slice p2 N q2] 25 (0, 0))).alloc (.cells #[.string X] 9 (0, 0))).cell? ((⟨w6.heap.size + 1, 0, none⟩ : Addr).add j) = some u := by
    intro j u hj
    rw [addr_add, (box2 w6 _ #[.string X] _ _).2]
    simpa using hj
  go_wp2_with (first
    | (at_builtin; refine wpList_append_lies _ rfl _ _ 22 rfl lo 9 i0 (.string ⟨#[]⟩) 1 16 Tryz.underlying22 hi hz0 hz1 hz2 rfl (by decide) (.slice p1 D q1) _ _ rfl (S0.o1.alloc _) ⟨w6.heap.size + 1, 0, none⟩ 1 1 [.string X] rfl rfl hnw (by simp [Value.oneCell']) (by decide) (by unfold maxLen; omega) (by omega) (by simp; omega) _ rfl ?_; intro g cp w5 hown5 hgrow5 hat5 hlt5; obtain ⟨⟨⟨qq1, qq2⟩, S5⟩, K5⟩ := S0.put1 hgrow5 hown5 hat5; have c15 := S5.c1; clear hgrow5 hown5 hat5 hlt5 K5)
    | fail)
  clear S0 hnw c15 qq1 qq2 b a0 a1 r0 r1 z0 z1 hz
  generalize (w5.setCell ⟨w6.heap.size, 0, none⟩ (.slice (some ⟨g, 0, none⟩) (D + 1) cp)) = wq at *
  generalize w6.heap.size = C at *
  go_loopw [47] (fun i wr => ∃ m : Nat, m ≤ N ∧ i = .int .i64 m ∧ CpS w6 wr C lo (.slice (some ⟨g, 0, none⟩) (D + 1) cp) (.slice p2 N q2) (D + 1) N (XS ++ [.string X]) (fcs (Ar.reI a size m))) (fun i _ => N - (intOf i).toNat)
  case atStart => exact ⟨0, by omega, rfl, S5⟩
  case round =>
    clear S5
    obtain ⟨m, hm2, rfl, S6⟩ := hrel
    have F7 := F6.keep S6.bel hlo
    by_cases hlt : m < N
    · have d2 : decide ((m : Int) < (N : Int)) = true := by simp; omega
      have d2' : decide (m < N) = true := by simp; omega
      have hmi : (m : Int) < (N : Int) := by omega
      have hmL : (m : Int) < (L.length : Int) := by rw [HTl.out]; exact hmi
      have hmL' : m < L.length := by rw [HTl.out]; exact hlt
      rcases S6.o2.2 with ⟨_, h0⟩ | ⟨g2, cap2, cur2, e, _⟩
      · omega
      simp only [Value.slice.injEq] at e
      obtain ⟨rfl, _, rfl⟩ := e
      obtain ⟨hIl, hIf, hIs⟩ := HI.out m hlt
      have HIs : Hid (fcs (Ar.reI a size (m + 1)) = fcs ((Ar.reI a size m).take m ++ Ar.reF a size (Ar.fa a.files m) :: (Ar.reI a size m).drop (m + 1))) := hIs
      have hat := own_at (i := m) (fs := Ar.reI a size m) (w := wr) (lo := lo) (g := g2) (cap := q2) (by rw [hIl]; exact S6.o2) (by omega)
      rw [hIf] at hat
      have x0 : wr.cell? ⟨g2, m * 5, none⟩ = some (.string (Ar.fa a.files m).name) := hat.1 0 (by omega)
      have x1 : wr.cell? ⟨g2, m * 5 + 1, none⟩ = some (.int .i64 (Ar.fa a.files m).dict) := hat.1 1 (by omega)
      have x2 : wr.cell? ⟨g2, m * 5 + 2, none⟩ = some (.int .i64 (Ar.fa a.files m).size) := hat.1 2 (by omega)
      have x3 : wr.cell? ⟨g2, m * 5 + 3, none⟩ = some (.int .i64 (Ar.fa a.files m).sum) := hat.1 3 (by omega)
      have x4 : wr.cell? ⟨g2, m * 5 + 4, none⟩ = some (.string (Ar.fa a.files m).blk) := hat.1 4 (by omega)
      have hg2 : g2 < wr.heap.size := (S6.o2.lt g2 rfl).2
      have y := hat.2
      have CPm := fun w' h9 => CP.out w' (some ⟨g, 0, none⟩) cp (some ⟨g2, 0, none⟩) q2 m hlt h9
      have HS5 : Hid (∀ wk, CpS w6 wk C lo (.slice (some ⟨g, 0, none⟩) (D + 1) cp) (.slice (some ⟨g2, 0, none⟩) N q2) (D + 1) N (XS ++ [.string X]) (fcs (Ar.reI a size m)) → CpS w6 (w5s wk g2 (m * 5) (.string (Ar.reF a size (Ar.fa a.files m)).name) (.int .i64 (Ar.reF a size (Ar.fa a.files m)).dict) (.int .i64 (Ar.reF a size (Ar.fa a.files m)).size) (.int .i64 (Ar.reF a size (Ar.fa a.files m)).sum) (.string (Ar.reF a size (Ar.fa a.files m)).blk)) C lo (.slice (some ⟨g, 0, none⟩) (D + 1) cp) (.slice (some ⟨g2, 0, none⟩) N q2) (D + 1) N (XS ++ [.string X]) (fcs (Ar.reI a size (m + 1)))) := fun wk h9 => by
        rw [← hIl] at h9
        have := CpS.set5 (Ar.reF a size (Ar.fa a.files m)) h9 (i := m) (by omega)
        rw [hIl, ← hIs] at this
        exact this
      have htx := HTx.out lo wr (some ⟨g, 0, none⟩) cp S6.o1
      clear hIs hIf hIl hat HIs
      generalize (Ar.reF a size (Ar.fa a.files m)).name = n0 at *
      generalize (Ar.reF a size (Ar.fa a.files m)).dict = n1 at *
      generalize (Ar.reF a size (Ar.fa a.files m)).size = n2 at *
      generalize (Ar.reF a size (Ar.fa a.files m)).sum = n3 at *
      generalize (Ar.reF a size (Ar.fa a.files m)).blk = n4 at *
      generalize (Ar.fa a.files m).name = f0 at *
      generalize (Ar.fa a.files m).dict = f1 at *
      generalize (Ar.fa a.files m).size = f2 at *
      generalize (Ar.fa a.files m).sum = f3 at *
      generalize (Ar.fa a.files m).blk = f4 at *
      go_wp2_with fail
      have S7 := S6.below ((Below.refl _ _).alloc (Nat.le_refl _) (.cells #[.string f0, .int .i64 f1, .int .i64 f2, .int .i64 f3, .string f4] 46 (0, 0)))
      have hbx : (wr.alloc (.cells #[.string f0, .int .i64 f1, .int .i64 f2, .int .i64 f3, .string f4] 46 (0, 0))).cell? ⟨wr.heap.size, 0, none⟩ = some (.string f0) := World.cell?_alloc_new _ _ _ 0
      have htx7 := htx.below ((Below.refl _ _).alloc (Nat.le_refl _) (.cells #[.string f0, .int .i64 f1, .int .i64 f2, .int .i64 f3, .string f4] 46 (0, 0)))
      have k := fun (p : Addr) (hp : p.block < wr.heap.size) => World.cell?_alloc_lt wr (.cells #[.string f0, .int .i64 f1, .int .i64 f2, .int .i64 f3, .string f4] 46 (0, 0)) p hp
      have j0 := (k ⟨g2, m * 5, none⟩ hg2).trans x0
      have j1 := (k ⟨g2, m * 5 + 1, none⟩ hg2).trans x1
      have j2 := (k ⟨g2, m * 5 + 2, none⟩ hg2).trans x2
      have j3 := (k ⟨g2, m * 5 + 3, none⟩ hg2).trans x3
      have j4 := (k ⟨g2, m * 5 + 4, none⟩ hg2).trans x4
      have fz7 : ∀ o, (wr.alloc (.cells #[.string f0, .int .i64 f1, .int .i64 f2, .int .i64 f3, .string f4] 46 (0, 0))).frozen? ⟨g2, o, none⟩ = false := fun o => by rw [World.frozen?_alloc_past _ _ _ hg2]; exact y o
      have hg27 : g2 < (wr.alloc (.cells #[.string f0, .int .i64 f1, .int .i64 f2, .int .i64 f3, .string f4] 46 (0, 0))).heap.size := by simp; omega
      generalize (wr.alloc (.cells #[.string f0, .int .i64 f1, .int .i64 f2, .int .i64 f3, .string f4] 46 (0, 0))) = wP at *
      generalize wr.heap.size = P at *
      obtain ⟨bt, ot, rfl, hbt, hct⟩ := HX6.out wP S7.bel m hlt
      have c0 := S7.c0
      have c1 := S7.c1
      clear x0 x1 x2 x3 x4 y k S6 htx F7
      generalize Tr.xa L m = tm at *
      have CP9 := CPm wP.drew (htx7.below ((Below.refl _ _).drew))
      have HK : Hid (∀ wk, Below wP.heap.size wP.drew wk → CpS w6 wk C lo (.slice (some ⟨g, 0, none⟩) (D + 1) cp) (.slice (some ⟨g2, 0, none⟩) N q2) (D + 1) N (XS ++ [.string X]) (fcs (Ar.reI a size m)) ∧ wk.cell? ⟨g2, m * 5, none⟩ = some (.string f0) ∧ wk.cell? ⟨g2, m * 5 + 1, none⟩ = some (.int .i64 f1) ∧ wk.cell? ⟨g2, m * 5 + 2, none⟩ = some (.int .i64 f2) ∧ wk.cell? ⟨g2, m * 5 + 3, none⟩ = some (.int .i64 f3) ∧ wk.cell? ⟨g2, m * 5 + 4, none⟩ = some (.string f4) ∧ ∀ o, wk.frozen? ⟨g2, o, none⟩ = false) := fun wk Gk => by
        have G9 : Below wP.heap.size wP wk := Below.trans ((Below.refl wP.heap.size wP).drew) Gk
        exact ⟨S7.below G9, (G9.cell (p := ⟨g2, m * 5, none⟩) hg27).trans j0, (G9.cell (p := ⟨g2, m * 5 + 1, none⟩) hg27).trans j1, (G9.cell (p := ⟨g2, m * 5 + 2, none⟩) hg27).trans j2, (G9.cell (p := ⟨g2, m * 5 + 3, none⟩) hg27).trans j3, (G9.cell (p := ⟨g2, m * 5 + 4, none⟩) hg27).trans j4, fun o => (G9.frozen (p := ⟨g2, o, none⟩) hg27).trans (fz7 o)⟩
      have hC7 : C < wP.heap.size := S7.hb
      have hloC : lo ≤ C := S7.hC
      have hlg : lo ≤ g2 := (S7.o2.lt g2 rfl).1
      have hbt' : bt < wP.heap.size := by omega
      have hPP : P < wP.heap.size := World.block_lt_of_cell? wP _ hbx
      have hS0 : Hid (∀ wk, Below wP.heap.size wP.drew wk → wk.cell? ⟨C, 0, none⟩ = some (.slice (some ⟨g, 0, none⟩) (D + 1) cp) ∧ wk.cell? ⟨C, 1, none⟩ = some (.slice (some ⟨g2, 0, none⟩) N q2) ∧ wk.cell? ⟨P, 0, none⟩ = some (.string f0) ∧ wk.cell? ⟨bt, ot + m, none⟩ = some (.string tm)) := fun wk Gk => by
        have G9 : Below wP.heap.size wP wk := Below.trans ((Below.refl wP.heap.size wP).drew) Gk
        exact ⟨(G9.cell (p := ⟨C, 0, none⟩) hC7).trans c0, (G9.cell (p := ⟨C, 1, none⟩) hC7).trans c1, (G9.cell (p := ⟨P, 0, none⟩) hPP).trans hbx, (G9.cell (p := ⟨bt, ot + m, none⟩) hbt').trans hct⟩
      have hne1 : C ≠ g2 := fun e => S7.a2 (show some g2 = some C by rw [e])
      have hS5 : Hid (∀ wk, Below wP.heap.size wP.drew wk → (fun w9 => w9.cell? ⟨C, 0, none⟩ = some (.slice (some ⟨g, 0, none⟩) (D + 1) cp) ∧ w9.cell? ⟨C, 1, none⟩ = some (.slice (some ⟨g2, 0, none⟩) N q2) ∧ w9.cell? ⟨P, 0, none⟩ = some (.string f0) ∧ w9.cell? ⟨bt, ot + m, none⟩ = some (.string tm)) (w5s wk g2 (m * 5) (.string n0) (.int .i64 n1) (.int .i64 n2) (.int .i64 n3) (.string n4))) := fun wk Gk => by
        obtain ⟨e0, e1, e2, e3⟩ := hS0.out wk Gk
        have gr := w5s_grown wk g2 (m * 5) (.string n0) (.int .i64 n1) (.int .i64 n2) (.int .i64 n3) (.string n4)
        exact ⟨cell_keep gr e0 (by simpa using hne1), cell_keep gr e1 (by simpa using hne1), cell_keep gr e2 (by simp; omega), cell_keep gr e3 (by simp; omega)⟩
      unfold w5s at hS5
      simp only at hS5
      clear S7 j0 j1 j2 j3 j4 fz7 htx7 CPm hg2 hct hbt hbt' hbx c0 c1 hC7 hPP hloC hlg
      go_region_held3 (fun wk => wk.cell? ⟨C, 0, none⟩ = some (.slice (some ⟨g, 0, none⟩) (D + 1) cp) ∧ wk.cell? ⟨C, 1, none⟩ = some (.slice (some ⟨g2, 0, none⟩) N q2) ∧ wk.cell? ⟨P, 0, none⟩ = some (.string f0) ∧ wk.cell? ⟨bt, ot + m, none⟩ = some (.string tm))
        (first | (exact hS0.out _ (Below.refl _ _)) | (exact hS0.out _ Gk) | (exact hS5.out _ Gk))
        (first
          | (go_at_call 52; refine CP9.mono ?_; rintro e wk ⟨rfl, Gk⟩; obtain ⟨Sk, l0, l1, l2, l3, l4, lf⟩ := HK.out wk Gk; have lf0 := lf (m * 5); have lf1 := lf (m * 5 + 1); have lf2 := lf (m * 5 + 2); have lf3 := lf (m * 5 + 3); have lf4 := lf (m * 5 + 4)))
      all_goals
        have S8 := HS5.out wk Sk
        unfold w5s at S8
        go_wp2_with fail
        go_roundw
        case rel => exact ⟨m + 1, by omega, by go_num, S8⟩
        case measure => simp [intOf]; omega
    · obtain rfl : m = N := by omega
      have d1 : decide ((m : Int) < (m : Int)) = false := by simp
      rw [HIN.out] at S6
      obtain ⟨b, a0, a1, r0, r1, z0, z1, hz⟩ := id F7
      obtain ⟨Bz, Oz1, Oz2, Rz0, Rz1⟩ := put_end b S6.o1 S6.o2 hlo r0 r1
      have ne9 := S6.ne
      have c0 := S6.c0
      have c1 := S6.c1
      have hC2 := S6.hb
      have hzw : w.heap.size < wr.heap.size := by omega
      clear S6 F7
      go_wp2_with fail
      generalize (wr.setCell ⟨w.heap.size + 1, 0, none⟩ (.slice (some ⟨g, 0, none⟩) (D + 1) cp)).setCell ⟨w.heap.size + 1, 1, none⟩ (.slice p2 m q2) = wz at *
      exact bodyPost_ret (v := .tuple #[.agg #[.slice (some ⟨g, 0, none⟩) (D + 1) cp, .slice p2 m q2], .int .i64 0]) (by simp [results, Tryz.results25, go_sem, Rz0, Rz1]) rfl (HQ.out _ _ _ Oz1 Oz2 ne9 Bz)
theorem archRetrain_any (ad af : Option Addr) (cd cf : Nat) (a : Ar.A) (size : Int) (w : World) (h : ArV w ad af a) (hs : SaneA a) (hM : Mx w) :
    Calls Tryz.prog 25 #[av ad cd af cf a, .int .i64 size] w fun e w' => ArSaid w (Ar.retA a size) (Ar.retE a size) e w' := by
  by_cases hE : Ar.retE a size = 0
  · rw [Ar.retA_is hE, hE]
    exact retrain_ok ad af cd cf a size w h hs hM hE
  · have e : Ar.retA a size = Ar.az := by unfold Ar.retA; rw [if_neg hE]
    rw [e]
    unfold Ar.retE at hE ⊢
    by_cases hc : Ar.chk a = 0
    · rw [if_neg (fun h9 => h9 hc)] at hE ⊢
      by_cases hz : 0 ≤ size ∧ size ≤ 256
      · rw [if_pos hz] at hE ⊢
        by_cases h4 : a.dicts.length = 4
        · rw [if_pos h4]
          exact retrain_full ad af cd cf a size w h hs hM hc hz h4
        · rw [if_neg h4] at hE; exact absurd rfl hE
      · rw [if_neg hz]
        exact retrain_size ad af cd cf a size w h hs hM hc hz
    · rw [if_pos hc]
      exact retrain_chk ad af cd cf a size w h hs hc
end Go.Proofs.YtbjbjbpgmojcbabGreat
namespace Go.Proofs.YtbjbjbpgmojcbabGreat
open Go.RowKit
def flat (l : List Tr) : List Value := l.flatMap fun t => (trc t).toList
namespace Cd
end Cd
theorem TrAt.block {w w' : World} {g : Nat} {t : Tr} (H : TrAt w g t) (he : w'.heap[g]? = w.heap[g]?) : TrAt w' g t := by
  have h2 := he.trans H.2
  exact ⟨(Array.getElem?_eq_some_iff.1 h2).1, h2⟩
theorem TrAt.setRow {w : World} {g : Nat} {t : Tr} (H : TrAt w g t) (t' : Tr) : TrAt (w.setRow g (trc t')) g t' := by
  refine ⟨by have := H.1; simpa [World.setRow] using this, ?_⟩
  show (w.heap.modify g _)[g]? = _
  rw [Array.getElem?_modify, if_pos rfl, H.2]
  rfl
end Go.Proofs.YtbjbjbpgmojcbabGreat
namespace Go.Proofs.YtbjbjbpgmojcbabGreat
open Go.RowKit
def Tr.set (t : Tr) (k : Nat) (b : Bool) : Tr := ⟨fun j => if j = k then b else t.h j, t.w⟩
theorem trc_set (t : Tr) (k : Nat) (hk : k < 16) (b : Bool) : (trc t).setIfInBounds k (.bool b) = trc (t.set k b) := by
  apply Array.ext_getElem?
  intro i
  rw [Array.getElem?_setIfInBounds, trc_size]
  by_cases hi : i < 16
  · rw [trc_h _ i hi, trc_h _ i hi]
    by_cases e : k = i
    · subst e
      rw [if_pos rfl, if_pos (by omega)]
      simp [Tr.set]
    · rw [if_neg e]
      have e' : ¬ i = k := fun h => e h.symm
      simp [Tr.set, e']
  · rw [if_neg (by omega)]
    by_cases h16 : i = 16
    · subst h16; rw [trc_w, trc_w]; rfl
    · rw [Array.getElem?_eq_none (by rw [trc_size]; omega), Array.getElem?_eq_none (by rw [trc_size]; omega)]
theorem TrAt.set {w : World} {g : Nat} {t : Tr} (H : TrAt w g t) (k : Nat) (hk : k < 16) (b : Bool) : TrAt (w.setCell ⟨g, k, none⟩ (.bool b)) g (t.set k b) := by
  refine ⟨by have := H.1; simpa [World.setCell] using this, ?_⟩
  rw [heap_set H.2, trc_set t k hk]
theorem TrAt.setFar {w : World} {g : Nat} {t : Tr} (H : TrAt w g t) {q : Nat} (hq : q ≠ g) (k : Nat) (v : Value) : TrAt (w.setCell ⟨q, k, none⟩ v) g t := by
  refine ⟨by have := H.1; simpa [World.setCell] using this, ?_⟩
  rw [heap_far hq]
  exact H.2
theorem TrAt.congr {w : World} {g : Nat} {s t : Tr} (H : TrAt w g s) (h : ∀ i, i < 16 → s.h i = t.h i) (hw : s.w = t.w) : TrAt w g t := ⟨H.1, by rw [H.2, trc_congr h hw]⟩
theorem RowAt.block {w w' : World} {g : Nat} {f : Nat → Int} (H : RowAt w g f) (he : w'.heap[g]? = w.heap[g]?) : RowAt w' g f := by
  have h2 := he.trans H.2
  exact ⟨(Array.getElem?_eq_some_iff.1 h2).1, h2⟩
end Go.Proofs.YtbjbjbpgmojcbabGreat
namespace Go.Proofs.YtbjbjbpgmojcbabGreat
open Go.RowKit
set_option linter.unusedVariables false
namespace Bk
def bst (text s : ByteArray) : ByteArray := if s.size < text.size then (⟨#[1]⟩ : ByteArray) ++ s else (⟨#[0]⟩ : ByteArray) ++ text
end Bk
end Go.Proofs.YtbjbjbpgmojcbabGreat
namespace Go.Proofs.YtbjbjbpgmojcbabGreat
open Go.RowKit Go.Maps
namespace Tr
theorem CM.below {w w' : World} {b n : Nat} {f : ByteArray → Nat} (h : CM w b n f) (hb : Below w.heap.size w w') : CM w' b n f := by
  obtain ⟨D, h1, h2⟩ := h
  refine ⟨D, ?_, h2⟩
  have hlt := h1.lt
  obtain ⟨es, cl, h3, h4⟩ := h1
  exact ⟨es, cl, by rw [hb.block b hlt]; exact h3, h4⟩
end Tr
end Go.Proofs.YtbjbjbpgmojcbabGreat
namespace Go.Proofs.YtbjbjbpgmojcbabGreat
open Go.RowKit
theorem do_start (w : World) (x y : Value) (o : Obj) : Below w.heap.size w (((w.alloc (.cells #[x, y] 25 (0, 0))).alloc o).alloc (.cells #[.slice none 0 0, .slice none 0 0] 25 (0, 0))) ∧ Bx (((w.alloc (.cells #[x, y] 25 (0, 0))).alloc o).alloc (.cells #[.slice none 0 0, .slice none 0 0] 25 (0, 0))) (w.heap.size + 2) (.slice none 0 0) (.slice none 0 0) ∧ Bx (((w.alloc (.cells #[x, y] 25 (0, 0))).alloc o).alloc (.cells #[.slice none 0 0, .slice none 0 0] 25 (0, 0))) w.heap.size x y := by
  have B1 := alloc_below w (.cells #[x, y] 25 (0, 0))
  have B2 := alloc_below (w.alloc (.cells #[x, y] 25 (0, 0))) o
  have B3 := alloc_below ((w.alloc (.cells #[x, y] 25 (0, 0))).alloc o) (.cells #[.slice none 0 0, .slice none 0 0] 25 (0, 0))
  have X := Bx.new ((w.alloc (.cells #[x, y] 25 (0, 0))).alloc o) (.slice none 0 0) (.slice none 0 0)
  rw [show ((w.alloc (.cells #[x, y] 25 (0, 0))).alloc o).heap.size = w.heap.size + 2 by simp] at X
  exact ⟨bch (bch B1 B2 (Nat.le_refl _)) B3 (Nat.le_refl _), X, ((Bx.new w x y).next B2).next B3⟩
set_option maxRecDepth 8000 in
set_option maxHeartbeats 2000000 in
theorem logDo_1 (ad af : Option Addr) (cd cf D N : Nat) (A : Ar.A) (E n : Int) (name text : ByteArray) (w : World)
    (C : Hid (∀ w', Below w.heap.size w w' → Calls Tryz.prog 13 #[.agg #[.slice ad D cd, .slice af N cf], .string name, .string text, .int .i64 n] w' fun e w2 => ArSaid w' A E e w2)) :
    Calls Tryz.prog 36 #[.agg #[.slice ad D cd, .slice af N cf], .agg #[.int .i64 1, .int .i64 n, .string name, .string text]] w fun e w' => ArSaid w A E e w' := by
  obtain ⟨B0, R0, _⟩ := do_start w (.slice ad D cd) (.slice af N cf) (.cells #[.int .i64 1, .int .i64 n, .string name, .string text] 54 (0, 0))
  go_enter Tryz.func36, Tryz.ntmps36
  go_wp2_with fail
  generalize (((w.alloc (.cells #[.slice ad D cd, .slice af N cf] 25 (0, 0))).alloc (.cells #[.int .i64 1, .int .i64 n, .string name, .string text] 54 (0, 0))).alloc (.cells #[.slice none 0 0, .slice none 0 0] 25 (0, 0))) = w0 at *
  refine (C.out _ B0).mono ?_
  intro e w1 h1
  obtain ⟨p, q, p', q', rfl, O, G⟩ := h1.own
  have R1 := R0.next G
  have B1 := bch B0 G (Nat.le_refl _)
  have hfin : ArSaid w A E (.returned (.tuple #[.agg #[.slice p A.dicts.length q, .slice p' A.files.length q'], .int .i64 E])) _ := ⟨_, _, rfl, (O.set2 (b := w.heap.size + 2) R0.lt (.slice p A.dicts.length q) (.slice p' A.files.length q')).low B0.size, below_set2 B1 (b := w.heap.size + 2) (by omega) (.slice p A.dicts.length q) (.slice p' A.files.length q')⟩
  clear R0 B0 C h1
  generalize A.dicts.length = D2 at *
  generalize A.files.length = N2 at *
  have x0 := R1.c0
  have x1 := R1.c1
  have f0 := R1.f0
  have f1 := R1.f1
  have X5 := R1.set (u := .slice p D2 q) (v := .slice p' N2 q')
  clear R1 B1 G O
  go_wp2_with fail
  clear x0 x1 f0 f1
  have y0 := X5.c0
  have y1 := X5.c1
  generalize ((w1.setCell ⟨w.heap.size + 2, 0, none⟩ (.slice p D2 q)).setCell ⟨w.heap.size + 2, 1, none⟩ (.slice p' N2 q')) = wz at *
  exact bodyPost_ret (v := .tuple #[.agg #[.slice p D2 q, .slice p' N2 q'], .int .i64 E]) (by simp [results, Tryz.results36, go_sem, y0, y1]) rfl hfin
set_option maxRecDepth 8000 in
set_option maxHeartbeats 2000000 in
theorem logDo_2 (ad af : Option Addr) (cd cf D N : Nat) (A : Ar.A) (E n : Int) (name text : ByteArray) (w : World)
    (C : Hid (∀ w', Below w.heap.size w w' → Calls Tryz.prog 14 #[.agg #[.slice ad D cd, .slice af N cf], .string name] w' fun e w2 => ArSaid w' A E e w2)) :
    Calls Tryz.prog 36 #[.agg #[.slice ad D cd, .slice af N cf], .agg #[.int .i64 2, .int .i64 n, .string name, .string text]] w fun e w' => ArSaid w A E e w' := by
  obtain ⟨B0, R0, _⟩ := do_start w (.slice ad D cd) (.slice af N cf) (.cells #[.int .i64 2, .int .i64 n, .string name, .string text] 54 (0, 0))
  go_enter Tryz.func36, Tryz.ntmps36
  go_wp2_with fail
  generalize (((w.alloc (.cells #[.slice ad D cd, .slice af N cf] 25 (0, 0))).alloc (.cells #[.int .i64 2, .int .i64 n, .string name, .string text] 54 (0, 0))).alloc (.cells #[.slice none 0 0, .slice none 0 0] 25 (0, 0))) = w0 at *
  refine (C.out _ B0).mono ?_
  intro e w1 h1
  obtain ⟨p, q, p', q', rfl, O, G⟩ := h1.own
  have R1 := R0.next G
  have B1 := bch B0 G (Nat.le_refl _)
  have hfin : ArSaid w A E (.returned (.tuple #[.agg #[.slice p A.dicts.length q, .slice p' A.files.length q'], .int .i64 E])) _ := ⟨_, _, rfl, (O.set2 (b := w.heap.size + 2) R0.lt (.slice p A.dicts.length q) (.slice p' A.files.length q')).low B0.size, below_set2 B1 (b := w.heap.size + 2) (by omega) (.slice p A.dicts.length q) (.slice p' A.files.length q')⟩
  clear R0 B0 C h1
  generalize A.dicts.length = D2 at *
  generalize A.files.length = N2 at *
  have x0 := R1.c0
  have x1 := R1.c1
  have f0 := R1.f0
  have f1 := R1.f1
  have X5 := R1.set (u := .slice p D2 q) (v := .slice p' N2 q')
  clear R1 B1 G O
  go_wp2_with fail
  clear x0 x1 f0 f1
  have y0 := X5.c0
  have y1 := X5.c1
  generalize ((w1.setCell ⟨w.heap.size + 2, 0, none⟩ (.slice p D2 q)).setCell ⟨w.heap.size + 2, 1, none⟩ (.slice p' N2 q')) = wz at *
  exact bodyPost_ret (v := .tuple #[.agg #[.slice p D2 q, .slice p' N2 q'], .int .i64 E]) (by simp [results, Tryz.results36, go_sem, y0, y1]) rfl hfin
set_option maxRecDepth 8000 in
set_option maxHeartbeats 2000000 in
theorem logDo_3 (ad af : Option Addr) (cd cf D N : Nat) (A : Ar.A) (E n : Int) (name text : ByteArray) (w : World)
    (C : Hid (∀ w', Below w.heap.size w w' → Calls Tryz.prog 25 #[.agg #[.slice ad D cd, .slice af N cf], .int .i64 n] w' fun e w2 => ArSaid w' A E e w2)) :
    Calls Tryz.prog 36 #[.agg #[.slice ad D cd, .slice af N cf], .agg #[.int .i64 3, .int .i64 n, .string name, .string text]] w fun e w' => ArSaid w A E e w' := by
  obtain ⟨B0, R0, _⟩ := do_start w (.slice ad D cd) (.slice af N cf) (.cells #[.int .i64 3, .int .i64 n, .string name, .string text] 54 (0, 0))
  go_enter Tryz.func36, Tryz.ntmps36
  go_wp2_with fail
  generalize (((w.alloc (.cells #[.slice ad D cd, .slice af N cf] 25 (0, 0))).alloc (.cells #[.int .i64 3, .int .i64 n, .string name, .string text] 54 (0, 0))).alloc (.cells #[.slice none 0 0, .slice none 0 0] 25 (0, 0))) = w0 at *
  refine (C.out _ B0).mono ?_
  intro e w1 h1
  obtain ⟨p, q, p', q', rfl, O, G⟩ := h1.own
  have R1 := R0.next G
  have B1 := bch B0 G (Nat.le_refl _)
  have hfin : ArSaid w A E (.returned (.tuple #[.agg #[.slice p A.dicts.length q, .slice p' A.files.length q'], .int .i64 E])) _ := ⟨_, _, rfl, (O.set2 (b := w.heap.size + 2) R0.lt (.slice p A.dicts.length q) (.slice p' A.files.length q')).low B0.size, below_set2 B1 (b := w.heap.size + 2) (by omega) (.slice p A.dicts.length q) (.slice p' A.files.length q')⟩
  clear R0 B0 C h1
  generalize A.dicts.length = D2 at *
  generalize A.files.length = N2 at *
  have x0 := R1.c0
  have x1 := R1.c1
  have f0 := R1.f0
  have f1 := R1.f1
  have X5 := R1.set (u := .slice p D2 q) (v := .slice p' N2 q')
  clear R1 B1 G O
  go_wp2_with fail
  clear x0 x1 f0 f1
  have y0 := X5.c0
  have y1 := X5.c1
  generalize ((w1.setCell ⟨w.heap.size + 2, 0, none⟩ (.slice p D2 q)).setCell ⟨w.heap.size + 2, 1, none⟩ (.slice p' N2 q')) = wz at *
  exact bodyPost_ret (v := .tuple #[.agg #[.slice p D2 q, .slice p' N2 q'], .int .i64 E]) (by simp [results, Tryz.results36, go_sem, y0, y1]) rfl hfin
set_option maxRecDepth 8000 in
set_option maxHeartbeats 2000000 in
theorem logDo_4 (ad af : Option Addr) (cd cf D N : Nat) (A : Ar.A) (E n : Int) (name text : ByteArray) (w : World)
    (C : Hid (∀ w', Below w.heap.size w w' → Calls Tryz.prog 26 #[.agg #[.slice ad D cd, .slice af N cf]] w' fun e w2 => ArSaid w' A E e w2)) :
    Calls Tryz.prog 36 #[.agg #[.slice ad D cd, .slice af N cf], .agg #[.int .i64 4, .int .i64 n, .string name, .string text]] w fun e w' => ArSaid w A E e w' := by
  obtain ⟨B0, R0, _⟩ := do_start w (.slice ad D cd) (.slice af N cf) (.cells #[.int .i64 4, .int .i64 n, .string name, .string text] 54 (0, 0))
  go_enter Tryz.func36, Tryz.ntmps36
  go_wp2_with fail
  generalize (((w.alloc (.cells #[.slice ad D cd, .slice af N cf] 25 (0, 0))).alloc (.cells #[.int .i64 4, .int .i64 n, .string name, .string text] 54 (0, 0))).alloc (.cells #[.slice none 0 0, .slice none 0 0] 25 (0, 0))) = w0 at *
  refine (C.out _ B0).mono ?_
  intro e w1 h1
  obtain ⟨p, q, p', q', rfl, O, G⟩ := h1.own
  have R1 := R0.next G
  have B1 := bch B0 G (Nat.le_refl _)
  have hfin : ArSaid w A E (.returned (.tuple #[.agg #[.slice p A.dicts.length q, .slice p' A.files.length q'], .int .i64 E])) _ := ⟨_, _, rfl, (O.set2 (b := w.heap.size + 2) R0.lt (.slice p A.dicts.length q) (.slice p' A.files.length q')).low B0.size, below_set2 B1 (b := w.heap.size + 2) (by omega) (.slice p A.dicts.length q) (.slice p' A.files.length q')⟩
  clear R0 B0 C h1
  generalize A.dicts.length = D2 at *
  generalize A.files.length = N2 at *
  have x0 := R1.c0
  have x1 := R1.c1
  have f0 := R1.f0
  have f1 := R1.f1
  have X5 := R1.set (u := .slice p D2 q) (v := .slice p' N2 q')
  clear R1 B1 G O
  go_wp2_with fail
  clear x0 x1 f0 f1
  have y0 := X5.c0
  have y1 := X5.c1
  generalize ((w1.setCell ⟨w.heap.size + 2, 0, none⟩ (.slice p D2 q)).setCell ⟨w.heap.size + 2, 1, none⟩ (.slice p' N2 q')) = wz at *
  exact bodyPost_ret (v := .tuple #[.agg #[.slice p D2 q, .slice p' N2 q'], .int .i64 E]) (by simp [results, Tryz.results36, go_sem, y0, y1]) rfl hfin
set_option maxRecDepth 8000 in
set_option maxHeartbeats 2000000 in
theorem logDo_none (ad af : Option Addr) (cd cf D N : Nat) (k n : Int) (name text : ByteArray) (w : World) (h1 : k ≠ 1) (h2 : k ≠ 2) (h3 : k ≠ 3) (h4 : k ≠ 4) :
    Calls Tryz.prog 36 #[.agg #[.slice ad D cd, .slice af N cf], .agg #[.int .i64 k, .int .i64 n, .string name, .string text]] w fun e w' => ArSaid w Ar.az 6 e w' := by
  obtain ⟨B0, R0, _⟩ := do_start w (.slice ad D cd) (.slice af N cf) (.cells #[.int .i64 k, .int .i64 n, .string name, .string text] 54 (0, 0))
  have k1 : (k == 1) = false := by simpa using h1
  have k2 : (k == 2) = false := by simpa using h2
  have k3 : (k == 3) = false := by simpa using h3
  have k4 : (k == 4) = false := by simpa using h4
  have hfin := said_nil (E := 6) B0
  clear R0 B0 h1 h2 h3 h4
  go_enter Tryz.func36, Tryz.ntmps36
  go_wp2_with fail
  exact bodyPost_ret (v := .tuple #[.agg #[.slice none 0 0, .slice none 0 0], .int .i64 6]) (by simp [results, Tryz.results36, go_sem]) rfl hfin
theorem logDo_any (ad af : Option Addr) (cd cf : Nat) (a : Ar.A) (x : Im.Act) (w : World) (h : ArV w ad af a) (hs : SaneA a) (hn : x.name.size ≤ 140737488355328) (ht : x.text.size ≤ 140737488355328) (hM : Mx w) :
    Calls Tryz.prog 36 #[av ad cd af cf a, xv x] w fun e w' => ArSaid w (Im.doA a x) (Im.doE a x) e w' := by
  have C1 := logDo_1 ad af cd cf a.dicts.length a.files.length (Ar.putA a x.name x.text x.n) (Ar.putE a x.name x.text x.n) x.n x.name x.text w (fun w' h9 => archPut_any ad af cd cf a x.name x.text x.n w' (h.below h9) hs hn ht)
  have C2 := logDo_2 ad af cd cf a.dicts.length a.files.length (Ar.dropA a x.name) (Ar.getE a x.name) x.n x.name x.text w (fun w' h9 => archDrop_any ad af cd cf a x.name w' (h.below h9) hs)
  have C3 := logDo_3 ad af cd cf a.dicts.length a.files.length (Ar.retA a x.n) (Ar.retE a x.n) x.n x.name x.text w (fun w' h9 => archRetrain_any ad af cd cf a x.n w' (h.below h9) hs (hM.below h9))
  have C4 := logDo_4 ad af cd cf a.dicts.length a.files.length (Ar.cmpA a) (Ar.chk a) x.n x.name x.text w (fun w' h9 => archCompact_any ad af cd cf a w' (h.below h9) hs)
  unfold Im.doA Im.doE xv av
  by_cases k1 : x.kind = 1
  · rw [if_pos k1, if_pos k1, k1]; exact C1
  by_cases k2 : x.kind = 2
  · rw [if_neg k1, if_neg k1, if_pos k2, if_pos k2, k2]; exact C2
  by_cases k3 : x.kind = 3
  · rw [if_neg k1, if_neg k1, if_neg k2, if_neg k2, if_pos k3, if_pos k3, k3]; exact C3
  by_cases k4 : x.kind = 4
  · rw [if_neg k1, if_neg k1, if_neg k2, if_neg k2, if_neg k3, if_neg k3, if_pos k4, if_pos k4, k4]; exact C4
  rw [if_neg k1, if_neg k1, if_neg k2, if_neg k2, if_neg k3, if_neg k3, if_neg k4, if_neg k4]
  exact logDo_none ad af cd cf _ _ x.kind x.n x.name x.text w k1 k2 k3 k4
theorem SaneA.do {a : Ar.A} (h : SaneA a) {x : Im.Act} (hn : x.name.size ≤ 140737488355328) : SaneA (Im.doA a x) := by
  unfold Im.doA
  split
  · exact h.put hn
  · split
    · exact h.drop _
    · split
      · exact h.ret _
      · split
        · exact h.cmp
        · exact sane_az
end Go.Proofs.YtbjbjbpgmojcbabGreat
namespace Go.Proofs.YtbjbjbpgmojcbabGreat
open Go.RowKit
def OwSaid (a : Ar.A) (w : World) (e : Ending) (w' : World) : Prop := ∃ v1 v2, e = .returned (.agg #[v1, v2]) ∧ ArOwn w.heap.size w' v1 v2 a ∧ Below w.heap.size w w'
def SaneX (l : List Im.Act) : Prop := ∀ x ∈ l, x.name.size ≤ 140737488355328 ∧ x.text.size ≤ 140737488355328
theorem SaneX.at {l : List Im.Act} (h : SaneX l) {k : Nat} (hk : k < l.length) : (Im.xa l k).name.size ≤ 140737488355328 ∧ (Im.xa l k).text.size ≤ 140737488355328 := by
  rw [Im.xa_get hk]; exact h _ (List.getElem_mem hk)
theorem SaneA.done {l : List Im.Act} (h : SaneX l) : SaneA (Im.done l) := by
  have : ∀ (l : List Im.Act) (a : Ar.A), SaneX l → SaneA a → SaneA (Im.doneK l a) := fun l => by
    induction l with
    | nil => intro a _ h; exact h
    | cons x l ih =>
      intro a h1 h2
      refine ih _ (fun y hy => h1 y (List.mem_cons_of_mem _ hy)) ?_
      show SaneA (if _ then _ else _)
      split
      · exact h2.do (h1 x (List.mem_cons_self ..)).1
      · exact h2
  exact this l _ h sane_az
theorem Im.done_take {l : List Im.Act} {k : Nat} (h : k < l.length) : Im.done (l.take (k + 1)) = if Im.doE (Im.done (l.take k)) (Im.xa l k) = 0 then Im.doA (Im.done (l.take k)) (Im.xa l k) else Im.done (l.take k) := by
  rw [List.take_succ_eq_append_getElem h, Im.done_snoc, Im.xa_get h]
structure DS (w wr : World) (v1 v2 : Value) (a : Ar.A) : Prop where
  o : ArOwn (w.heap.size + 2) wr v1 v2 a
  x : Bx wr (w.heap.size + 1) v1 v2
  r : Bx wr w.heap.size (.slice none 0 0) (.slice none 0 0)
  g : Below w.heap.size w wr
theorem DS.next {w wr w' : World} {v1 v2 : Value} {a : Ar.A} (h : DS w wr v1 v2 a) (G : Below wr.heap.size wr w') : DS w w' v1 v2 a := ⟨h.o.next G, h.x.next G, h.r.next G, bch h.g G (Nat.le_refl _)⟩
theorem DS.put {w wr : World} {v1 v2 u1 u2 : Value} {a b : Ar.A} (h : DS w wr v1 v2 a) {lo : Nat} (O : ArOwn lo wr u1 u2 b) (hl : w.heap.size + 2 ≤ lo) : DS w ((wr.setCell ⟨w.heap.size + 1, 0, none⟩ u1).setCell ⟨w.heap.size + 1, 1, none⟩ u2) u1 u2 b :=
  ⟨(O.set2 (b := w.heap.size + 1) (by omega) u1 u2).low hl, h.x.set, h.r.far (by omega) u1 u2, below_set2 h.g (by omega) u1 u2⟩
theorem DS.start (w : World) : DS w ((w.alloc (.cells #[.slice none 0 0, .slice none 0 0] 25 (0, 0))).alloc (.cells #[.slice none 0 0, .slice none 0 0] 25 (0, 0))) (.slice none 0 0) (.slice none 0 0) Ar.az := by
  have B1 := alloc_below w (.cells #[.slice none 0 0, .slice none 0 0] 25 (0, 0))
  have B2 := alloc_below (w.alloc (.cells #[.slice none 0 0, .slice none 0 0] 25 (0, 0))) (.cells #[.slice none 0 0, .slice none 0 0] 25 (0, 0))
  have X := Bx.new (w.alloc (.cells #[.slice none 0 0, .slice none 0 0] 25 (0, 0))) (.slice none 0 0) (.slice none 0 0)
  rw [show (w.alloc (.cells #[.slice none 0 0, .slice none 0 0] 25 (0, 0))).heap.size = w.heap.size + 1 by simp] at X
  exact ⟨own_nil _ _, X, (Bx.new w _ _).next B2, bch B1 B2 (Nat.le_refl _)⟩
theorem DS.fin {w wr : World} {v1 v2 : Value} {a : Ar.A} (h : DS w wr v1 v2 a) : Bx ((wr.setCell ⟨w.heap.size, 0, none⟩ v1).setCell ⟨w.heap.size, 1, none⟩ v2) w.heap.size v1 v2 ∧ OwSaid a w (.returned (.agg #[v1, v2])) ((wr.setCell ⟨w.heap.size, 0, none⟩ v1).setCell ⟨w.heap.size, 1, none⟩ v2) :=
  ⟨h.r.set, _, _, rfl, (h.o.set2 (b := w.heap.size) (by omega) v1 v2).low (by omega), below_set2 h.g (Nat.le_refl _) v1 v2⟩
set_option maxRecDepth 8000 in
set_option maxHeartbeats 2000000 in
theorem done_any (ad : Option Addr) (cap : Nat) (l : List Im.Act) (w : World) (h : XSl w ad l) (hX : SaneX l) (hN : l.length ≤ 1000) (hM : Mx w) :
    Calls Tryz.prog 87 #[.slice ad l.length cap] w fun e w' => OwSaid (Im.done l) w e w' := by
  have CD : Hid (∀ w' k p cp q cq, Below w.heap.size w w' → k < l.length → ArV w' p q (Im.done (l.take k)) → Calls Tryz.prog 36 #[av p cp q cq (Im.done (l.take k)), .agg #[.int .i64 (Im.xa l k).kind, .int .i64 (Im.xa l k).n, .string (Im.xa l k).name, .string (Im.xa l k).text]] w' fun e w2 => ArSaid w' (Im.doA (Im.done (l.take k)) (Im.xa l k)) (Im.doE (Im.done (l.take k)) (Im.xa l k)) e w2) := fun w' k p cp q cq hb hk hv => logDo_any p q cp cq (Im.done (l.take k)) (Im.xa l k) w' hv (SaneA.done (fun x hx => hX x (List.mem_of_mem_take hx))) (hX.at hk).1 (hX.at hk).2 (hM.below hb)
  have HS : Hid (∀ k, k < l.length → Im.done (l.take (k + 1)) = if Im.doE (Im.done (l.take k)) (Im.xa l k) = 0 then Im.doA (Im.done (l.take k)) (Im.xa l k) else Im.done (l.take k)) := fun k hk => Im.done_take hk
  have HX : Hid (∀ w' k, Below w.heap.size w w' → k < l.length → ∃ b off, ad = some ⟨b, off, none⟩ ∧ b < w'.heap.size ∧ XC w' b (off + k * 4) (Im.xa l k)) := fun w' k hb hk => (h.below hb).at hk
  have H0 : Hid (Im.done (l.take 0) = Ar.az) := rfl
  have HE : Hid (Im.done (l.take l.length) = Im.done l) := by show _ = _; rw [List.take_length]
  have T0 := DS.start w
  clear h hX hM
  rw [← HE.out]
  clear HE
  unfold av at CD
  generalize l.length = N at *
  obtain ⟨dk, hdk⟩ : ∃ dk : Nat → Ar.A, ∀ k, Im.done (l.take k) = dk k := ⟨_, fun _ => rfl⟩
  simp only [hdk] at CD HS H0 ⊢
  clear hdk
  generalize Im.xa l = xa at *
  go_enter Tryz.func87, Tryz.ntmps87
  go_wp2_with fail
  generalize ((w.alloc (.cells #[.slice none 0 0, .slice none 0 0] 25 (0, 0))).alloc (.cells #[.slice none 0 0, .slice none 0 0] 25 (0, 0))) = w0 at *
  go_loopw [10] (fun i wr => ∃ (k : Nat) (v1 v2 : Value), k ≤ N ∧ i = .int .i64 k ∧ DS w wr v1 v2 (dk k)) (fun i _ => N - (intOf i).toNat)
  case atStart => exact ⟨0, _, _, by omega, rfl, by rw [H0.out]; exact T0⟩
  case round =>
    clear T0 H0
    obtain ⟨k, v1, v2, hk, rfl, T⟩ := hrel
    obtain ⟨p, cp, q, cq, rfl, rfl, hv⟩ := T.o.slices
    by_cases hlt : k < N
    · have d1 : decide ((k : Int) < (N : Int)) = true := decide_eq_true (by omega)
      have d1' : decide (k < N) = true := decide_eq_true hlt
      have hki : (k : Int) < (N : Int) := by omega
      obtain ⟨b, off, rfl, hbl, c0, c1, c2, c3⟩ := HX.out wr k T.g hlt
      have HS' := hid_of (HS.out k hlt)
      have C : Hid (∀ w', Below w.heap.size w w' → ArV w' p q (dk k) → _) := fun w' h1 h2 => CD.out w' k p cp q cq h1 hlt h2
      generalize (xa k).kind = ak at *
      generalize (xa k).n = an at *
      generalize (xa k).name = nm at *
      generalize (xa k).text = tx at *
      generalize Im.doA (dk k) (xa k) = A2 at *
      generalize Im.doE (dk k) (xa k) = E at *
      have GA := alloc_below wr (.cells #[.int .i64 ak, .int .i64 an, .string nm, .string tx] 54 (0, 0))
      have X1 := XB.new wr 54 ak an nm tx
      have T1 := T.next GA
      have hv1 := hv.below GA
      generalize (dk k).dicts.length = D at *
      generalize (dk k).files.length = F at *
      have hlo := T.x.lt
      have y0 := T1.x.c0
      have y1 := T1.x.c1
      obtain ⟨x0, x1, x2, x3, _⟩ := X1
      clear T HX CD
      go_wp2_with fail
      clear y0 y1 x0 x1 x2 x3 c0 c1 c2 c3
      have hsz : (wr.alloc (.cells #[.int .i64 ak, .int .i64 an, .string nm, .string tx] 54 (0, 0))).heap.size = wr.heap.size + 1 := by simp
      generalize (wr.alloc (.cells #[.int .i64 ak, .int .i64 an, .string nm, .string tx] 54 (0, 0))) = w1 at *
      refine (C.out _ T1.g hv1).mono ?_
      intro e w2 h1
      obtain ⟨p2, q2, p3, q3, rfl, O2, G2⟩ := h1.own
      clear h1 C
      generalize A2.dicts.length = D2 at *
      generalize A2.files.length = F2 at *
      have GB := alloc_below w2 (.cells #[.slice p2 D2 q2, .slice p3 F2 q3] 25 (0, 0))
      have T3 := (T1.next G2).next GB
      have O3 := O2.next GB
      have XB := Bx.new w2 (.slice p2 D2 q2) (.slice p3 F2 q3)
      clear T1 O2 G2 GB hv1 hv
      generalize hw3 : (w2.alloc (.cells #[.slice p2 D2 q2, .slice p3 F2 q3] 25 (0, 0))) = w3 at *
      by_cases hE : E = 0
      · subst hE
        have e2 := HS'.out
        rw [if_pos rfl] at e2
        have HS2 := hid_of e2
        clear e2
        have T4 := T3.put O3 (by omega)
        have k0 := XB.c0
        have k1 := XB.c1
        have y0 := T3.x.c0
        have y1 := T3.x.c1
        have z0 := T3.x.f0
        have z1 := T3.x.f1
        have hbl2 := XB.lt
        clear T3 O3 XB HS'
        go_wp2_with fail
        clear hw3 k0 k1 y0 y1 z0 z1
        go_roundw
        case rel => exact ⟨k + 1, _, _, by omega, by go_num, by rw [HS2.out]; exact T4⟩
        case measure => simp [intOf]; omega
      · have dE : (E == 0) = false := by simpa using hE
        have e2 := HS'.out
        rw [if_neg hE] at e2
        have HS2 := hid_of e2
        clear e2 O3 XB HS'
        go_wp2_with fail
        clear hw3
        go_roundw
        case rel => exact ⟨k + 1, _, _, by omega, by go_num, by rw [HS2.out]; exact T3⟩
        case measure => simp [intOf]; omega
    · obtain rfl : k = N := by omega
      have d1 : decide ((k : Int) < (k : Int)) = false := by simp
      have d1' : decide (k < k) = false := by simp
      obtain ⟨X9, hq⟩ := T.fin
      generalize (dk k).dicts.length = D at *
      generalize (dk k).files.length = F at *
      have y0 := T.x.c0
      have y1 := T.x.c1
      have x0 := T.r.c0
      have x1 := T.r.c1
      have z0 := T.r.f0
      have z1 := T.r.f1
      clear T hv
      go_wp2_with fail
      clear y0 y1 x0 x1 z0 z1
      have y0 := X9.c0
      have y1 := X9.c1
      generalize ((wr.setCell ⟨w.heap.size, 0, none⟩ (.slice p D cp)).setCell ⟨w.heap.size, 1, none⟩ (.slice q F cq)) = wz at *
      exact bodyPost_ret (v := .agg #[.slice p D cp, .slice q F cq]) (by simp [results, Tryz.results87, go_sem, y0, y1]) rfl hq
end Go.Proofs.YtbjbjbpgmojcbabGreat
namespace Go.Proofs.YtbjbjbpgmojcbabGreat
open Go.RowKit
namespace Im
theorem rpl_ok (s : ByteArray) : (∀ x ∈ rplL s, okX x) ∧ (rplL s).length ≤ 100 ∧ rplN s ≤ s.size := by
  unfold rplL rplN
  by_cases h : 16384 < s.size
  · rw [if_pos h, if_pos h]; exact ⟨by simp, by simp, by omega⟩
  · rw [if_neg h, if_neg h]
    obtain ⟨_, h2, h3, _⟩ := rep_is 100 s
    exact ⟨h2, h3, by omega⟩
theorem wrt_le (x : Act) : (wrtT x).size ≤ 1100 := by
  unfold wrtT
  split
  · rename_i h
    have h1 := actIn_len (actE_ok.1 h)
    have h2 := Nm.nb_len5 (actIn x).length (by omega)
    rw [size_len]
    simp only [actB, List.length_append]
    omega
  · show 0 ≤ _
    omega
end Im
theorem sane_rpl (s : ByteArray) : SaneX (Im.rplL s) := fun x hx => by
  obtain ⟨_, _, h3, h4⟩ := (Im.rpl_ok s).1 x hx
  exact ⟨by omega, by omega⟩
def RcSaid (a : Ar.A) (n : Nat) (E : Int) (w : World) (e : Ending) (w' : World) : Prop := ∃ v1 v2, e = .returned (.tuple #[.agg #[v1, v2], .int .i64 (n : Nat), .int .i64 E]) ∧ ArOwn w.heap.size w' v1 v2 a ∧ Below w.heap.size w w'
theorem RpSaid.open {l : List Im.Act} {n : Nat} {E : Int} {w w' : World} {e : Ending} (h : RpSaid l n E w e w') : ∃ ad cap, e = .returned (.tuple #[.slice ad l.length cap, .int .i64 (n : Nat), .int .i64 E]) ∧ XSl w' ad l ∧ Below w.heap.size w w' := by
  obtain ⟨v, rfl, h2, h3⟩ := h
  obtain ⟨ad, cap, rfl, hx⟩ := own_acts h2
  exact ⟨ad, cap, rfl, hx, h3⟩
set_option maxRecDepth 8000 in
set_option maxHeartbeats 2000000 in
theorem recover_any (s : ByteArray) (w : World) (hM : Mx w) :
    Calls Tryz.prog 45 #[.string s] w fun e w' => RcSaid (Im.done (Im.rplL s)) (Im.rplL s).length (Im.rplE s) w e w' := by
  have B1 := alloc_below w (.cells #[.slice none 0 0, .slice none 0 0] 25 (0, 0))
  have R1 := Bx.new w (.slice none 0 0) (.slice none 0 0)
  have C := replay_any s (w.alloc (.cells #[.slice none 0 0, .slice none 0 0] 25 (0, 0)))
  obtain ⟨_, hl, _⟩ := Im.rpl_ok s
  have hX := sane_rpl s
  by_cases hb : 16384 < s.size
  · have e1 : Im.rplL s = [] := if_pos hb
    have e2 : Im.rplE s = 2 := if_pos hb
    rw [e1, e2] at C
    rw [e1, e2]
    clear e1 e2 hl hX hM
    have HQ : Hid (∀ w', Below w.heap.size w w' → RcSaid (Im.done []) ([] : List Im.Act).length 2 w (.returned (.tuple #[.agg #[.slice none 0 0, .slice none 0 0], .int .i64 0, .int .i64 2])) w') := fun w' h9 => ⟨_, _, rfl, own_nil _ _, h9⟩
    generalize RcSaid (Im.done []) ([] : List Im.Act).length 2 w = Q at *
    generalize Im.rplN s = n at *
    go_enter Tryz.func45, Tryz.ntmps45
    go_wp2_with fail
    generalize (w.alloc (.cells #[.slice none 0 0, .slice none 0 0] 25 (0, 0))) = w0 at *
    refine C.mono ?_
    intro e w1 h1
    obtain ⟨ad, cap, rfl, _, G⟩ := h1.open
    have R2 := R1.next G
    have hq := HQ.out _ (below_set2 (bch B1 G (Nat.le_refl _)) (b := w.heap.size) (Nat.le_refl _) (.slice none 0 0) (.slice none 0 0))
    have X5 := R2.set (u := .slice none 0 0) (v := .slice none 0 0)
    have x0 := R2.c0
    have x1 := R2.c1
    have f0 := R2.f0
    have f1 := R2.f1
    clear C R1 R2 B1 G h1 HQ
    go_wp2_with fail
    clear x0 x1 f0 f1
    have y0 := X5.c0
    have y1 := X5.c1
    generalize ((w1.setCell ⟨w.heap.size, 0, none⟩ (.slice none 0 0)).setCell ⟨w.heap.size, 1, none⟩ (.slice none 0 0)) = wz at *
    exact bodyPost_ret (v := .tuple #[.agg #[.slice none 0 0, .slice none 0 0], .int .i64 0, .int .i64 2]) (by simp [results, Tryz.results45, go_sem, y0, y1]) rfl hq
  · have e2 : Im.rplE s = 0 := if_neg hb
    rw [e2] at C
    rw [e2]
    clear e2 hb
    generalize Im.rplL s = l at *
    generalize Im.rplN s = n at *
    have CD : Hid (∀ w' ad cap, Below w.heap.size w w' → XSl w' ad l → Calls Tryz.prog 87 #[.slice ad l.length cap] w' fun e w2 => OwSaid (Im.done l) w' e w2) := fun w' ad cap h1 h2 => done_any ad cap l w' h2 hX (by omega) (hM.below h1)
    have HQ : Hid (∀ v1 v2 w', ArOwn w.heap.size w' v1 v2 (Im.done l) → Below w.heap.size w w' → RcSaid (Im.done l) l.length 0 w (.returned (.tuple #[.agg #[v1, v2], .int .i64 (l.length : Nat), .int .i64 0])) w') := fun v1 v2 w' h1 h2 => ⟨_, _, rfl, h1, h2⟩
    generalize RcSaid (Im.done l) l.length 0 w = Q at *
    clear hX hM
    go_enter Tryz.func45, Tryz.ntmps45
    go_wp2_with fail
    generalize (w.alloc (.cells #[.slice none 0 0, .slice none 0 0] 25 (0, 0))) = w0 at *
    refine C.mono ?_
    intro e w1 h1
    obtain ⟨ad, cap, rfl, hx, G⟩ := h1.open
    have R2 := R1.next G
    have B2 := bch B1 G (Nat.le_refl _)
    have C2 := CD.out w1 ad cap B2 hx
    have hlt := R2.lt
    clear C R1 B1 G h1 CD hx
    generalize l.length = N at *
    generalize Im.done l = A at *
    go_wp2_with fail
    refine C2.mono ?_
    rintro e w2 ⟨v1, v2, rfl, O, G⟩
    have R3 := R2.next G
    have B3 := bch B2 G (Nat.le_refl _)
    have hq := HQ.out v1 v2 _ ((O.set2 (b := w.heap.size) hlt v1 v2).low (by omega)) (below_set2 B3 (b := w.heap.size) (Nat.le_refl _) v1 v2)
    obtain ⟨p, cp, q, cq, rfl, rfl, _⟩ := O.slices
    generalize A.dicts.length = D at *
    generalize A.files.length = F at *
    have X5 := R3.set (u := .slice p D cp) (v := .slice q F cq)
    have x0 := R3.c0
    have x1 := R3.c1
    have f0 := R3.f0
    have f1 := R3.f1
    clear C2 R2 R3 B2 B3 G O HQ
    go_wp2_with fail
    clear x0 x1 f0 f1
    have y0 := X5.c0
    have y1 := X5.c1
    generalize ((w2.setCell ⟨w.heap.size, 0, none⟩ (.slice p D cp)).setCell ⟨w.heap.size, 1, none⟩ (.slice q F cq)) = wz at *
    exact bodyPost_ret (v := .tuple #[.agg #[.slice p D cp, .slice q F cq], .int .i64 (N : Nat), .int .i64 0]) (by simp [results, Tryz.results45, go_sem, y0, y1]) rfl hq
end Go.Proofs.YtbjbjbpgmojcbabGreat
