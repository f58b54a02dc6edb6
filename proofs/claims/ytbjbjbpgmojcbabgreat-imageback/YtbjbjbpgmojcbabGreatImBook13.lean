/- A part of the proof: what it leans on. -/
import Derived.Deep.AppendLies
import Derived.Below
import Derived.Deep.RegionLaw
import Derived.OrdersHeld
import Derived.Deep.RegionHeld3
import Derived.Defers
import Derived.Recover
import Derived.BigQuiet
import Derived.Test.YtbjbjbpgmojcbabGreatImBook01
import Derived.Test.YtbjbjbpgmojcbabGreatImBook09
import Derived.Test.YtbjbjbpgmojcbabGreatImBook11
import Derived.Test.YtbjbjbpgmojcbabGreatImBook12
namespace Go.Proofs.YtbjbjbpgmojcbabGreat
namespace Im
abbrev E := ByteArray × Bool
def eNum (e : E) : Nat × E := (Nm.num e.1, Nm.rest e.1, e.2 || !Nm.is e.1)
def eTxt (e : E) : ByteArray × E := if (eNum e).2.1.size < (eNum e).1 then (⟨#[]⟩, (eNum e).2.1, true) else ((eNum e).2.1.extract 0 (eNum e).1, (eNum e).2.1.extract (eNum e).1 (eNum e).2.1.size, (eNum e).2.2)
theorem eNum_some {s r : ByteArray} {n : Nat} (h : rNum s = some (n, r)) (b : Bool) : eNum (s, b) = (n, r, b) := by
  unfold rNum at h
  cases hf : Nm.from_ s.data.toList with
  | none => rw [hf] at h; cases h
  | some x =>
    obtain ⟨m, k⟩ := x
    rw [hf] at h
    simp only [Option.some.injEq, Prod.mk.injEq] at h
    obtain ⟨rfl, rfl⟩ := h
    unfold eNum
    simp only [(Nm.num_some hf).1, (Nm.rest_some hf).1, (Nm.rest_some hf).2, Bool.not_true, Bool.or_false]
theorem eNum_none {s : ByteArray} (h : rNum s = none) (b : Bool) : eNum (s, b) = (0, ⟨#[]⟩, true) := by
  unfold rNum at h
  cases hf : Nm.from_ s.data.toList with
  | none =>
    unfold eNum
    simp only [(Nm.num_none hf).1, (Nm.rest_none hf).1, (Nm.rest_none hf).2, Bool.not_false, Bool.or_true]
  | some x => rw [hf] at h; cases h
theorem rCnt_at {m : Nat} {s t r : ByteArray} (h : rCnt m s = some (t, r)) : ∃ n q, rNum s = some (n, q) ∧ n ≤ q.size ∧ n ≤ m ∧ t = q.extract 0 n ∧ r = q.extract n q.size := by
  unfold rCnt at h
  cases hf : rNum s with
  | none => rw [hf] at h; cases h
  | some x =>
    obtain ⟨n, q⟩ := x
    rw [hf] at h
    simp only at h
    by_cases hc : n ≤ m ∧ n ≤ q.size
    · rw [if_pos hc] at h
      simp only [Option.some.injEq, Prod.mk.injEq] at h
      exact ⟨n, q, rfl, hc.2, hc.1, h.1.symm, h.2.symm⟩
    · rw [if_neg hc] at h; cases h
theorem eTxt_some {m : Nat} {s t r : ByteArray} (h : rCnt m s = some (t, r)) (b : Bool) : eTxt (s, b) = (t, r, b) := by
  obtain ⟨n, q, h1, h2, _, rfl, rfl⟩ := rCnt_at h
  unfold eTxt
  rw [eNum_some h1]
  simp only
  rw [if_neg (by omega)]
instance (n : Int) : Decidable (In n) := inferInstanceAs (Decidable (0 ≤ n ∧ n ≤ 2147483647))
def eFile (e : E) : Ar.F × E :=
  let nm := eTxt e
  let d := eNum nm.2
  let z := eNum d.2
  let u := eNum z.2
  let b := eTxt u.2
  (⟨nm.1, (d.1 : Nat), (z.1 : Nat), (u.1 : Nat), b.1⟩, b.2)
theorem eFile_some {s r : ByteArray} {f : Ar.F} (h : rFile s = some (f, r)) : eFile (s, false) = (f, (r, false)) := by
  unfold rFile at h
  cases h1 : rCnt 512 s with
  | none => rw [h1] at h; cases h
  | some x1 =>
    rw [h1] at h; simp only at h
    cases h2 : rNum x1.2 with
    | none => rw [h2] at h; cases h
    | some x2 =>
      rw [h2] at h; simp only at h
      cases h3 : rNum x2.2 with
      | none => rw [h3] at h; cases h
      | some x3 =>
        rw [h3] at h; simp only at h
        cases h4 : rNum x3.2 with
        | none => rw [h4] at h; cases h
        | some x4 =>
          rw [h4] at h; simp only at h
          cases h5 : rCnt 2147483647 x4.2 with
          | none => rw [h5] at h; cases h
          | some x5 =>
            rw [h5] at h
            simp only [Option.some.injEq, Prod.mk.injEq] at h
            obtain ⟨rfl, rfl⟩ := h
            unfold eFile
            simp only [eTxt_some h1, eNum_some h2, eNum_some h3, eNum_some h4, eTxt_some h5]
def eMany {α : Type} (p : E → α × E) (m : Nat) : Nat → E → List α × E
  | 0, e => ([], e)
  | k + 1, e => if (eMany p m k e).2.2 = true ∨ m < (eMany p m k e).1.length then eMany p m k e else ((eMany p m k e).1 ++ [(p (eMany p m k e).2).1], (p (eMany p m k e).2).2)
theorem eMany_idle {α : Type} {p : E → α × E} {m k : Nat} {e : E} (h : (eMany p m k e).2.2 = true ∨ m < (eMany p m k e).1.length) : ∀ j, eMany p m (k + j) e = eMany p m k e
  | 0 => rfl
  | j + 1 => by
    have ih := eMany_idle h j
    rw [← Nat.add_assoc, eMany, ih, if_pos h]
theorem eMany_len {α : Type} (p : E → α × E) (m : Nat) (e : E) : ∀ k, (eMany p m k e).1.length ≤ k ∧ (eMany p m k e).1.length ≤ m + 1
  | 0 => by simp [eMany]
  | k + 1 => by
    have ih := eMany_len p m e k
    rw [eMany]
    split
    · exact ⟨by omega, ih.2⟩
    · rename_i h
      have : ¬ m < (eMany p m k e).1.length := fun h9 => h (.inr h9)
      simp only [List.length_append, List.length_cons, List.length_nil]
      omega
theorem eMany_some {α : Type} {p : E → α × E} {q : ByteArray → Option (α × ByteArray)} (hq : ∀ s x r, q s = some (x, r) → p (s, false) = (x, (r, false))) {m : Nat} : ∀ {k : Nat} {s : ByteArray} {l : List α} {r : ByteArray}, k ≤ m → rMany q k s = some (l, r) → eMany p m k (s, false) = (l, (r, false))
  | 0, s, l, r, _, h => by
    rw [rMany] at h
    simp only [Option.some.injEq, Prod.mk.injEq] at h
    obtain ⟨rfl, rfl⟩ := h
    rfl
  | k + 1, s, l, r, hk, h => by
    rw [rMany] at h
    cases h1 : rMany q k s with
    | none => rw [h1] at h; cases h
    | some y =>
      obtain ⟨l0, r0⟩ := y
      rw [h1] at h; simp only at h
      cases h2 : q r0 with
      | none => rw [h2] at h; cases h
      | some z =>
        obtain ⟨x, r1⟩ := z
        rw [h2] at h
        simp only [Option.some.injEq, Prod.mk.injEq] at h
        obtain ⟨rfl, rfl⟩ := h
        have ih := eMany_some (m := m) hq (by omega) h1
        have hl := (eMany_len p m (s, false) k).1
        rw [ih] at hl
        rw [eMany, ih, if_neg (by rintro (h9 | h9) <;> simp only at hl h9 <;> first | (cases h9; done) | omega)]
        simp only [hq _ _ _ h2]
def eArch (s : ByteArray) : Ar.A × E :=
  let n := eNum (s.extract 5 s.size, false)
  let ds := eMany eTxt 4 n.1 n.2
  let m := eNum ds.2
  let fs := eMany eFile 12 m.1 m.2
  (⟨ds.1, fs.1⟩, fs.2)
theorem eArch_some {s : ByteArray} {a : Ar.A} (h : OkA a) (hs : s.data.toList = imgB a) : (eArch s).1 = a ∧ (eArch s).2.2 = false := by
  have hr := (rArch_is s a).2 ⟨h, hs⟩
  unfold rArch at hr
  cases h0 : rMark s with
  | none => rw [h0] at hr; cases hr
  | some r0 =>
    have e0 : r0 = s.extract 5 s.size := by
      unfold rMark at h0
      split at h0
      · simpa using h0.symm
      · cases h0
    rw [h0] at hr; simp only at hr
    cases h1 : rUp 4 r0 with
    | none => rw [h1] at hr; cases hr
    | some x1 =>
      obtain ⟨n, r1⟩ := x1
      rw [h1] at hr; simp only at hr
      have g1 : rNum r0 = some (n, r1) ∧ n ≤ 4 := by
        unfold rUp at h1
        cases hf : rNum r0 with
        | none => rw [hf] at h1; cases h1
        | some x =>
          rw [hf] at h1; simp only at h1
          split at h1
          · simp only [Option.some.injEq, Prod.mk.injEq] at h1
            obtain ⟨rfl, rfl⟩ := h1
            exact ⟨rfl, by assumption⟩
          · cases h1
      cases h2 : rMany (rCnt 512) n r1 with
      | none => rw [h2] at hr; cases hr
      | some x2 =>
        obtain ⟨ds, r2⟩ := x2
        rw [h2] at hr; simp only at hr
        cases h3 : rUp 12 r2 with
        | none => rw [h3] at hr; cases hr
        | some x3 =>
          obtain ⟨m, r3⟩ := x3
          rw [h3] at hr; simp only at hr
          have g3 : rNum r2 = some (m, r3) ∧ m ≤ 12 := by
            unfold rUp at h3
            cases hf : rNum r2 with
            | none => rw [hf] at h3; cases h3
            | some x =>
              rw [hf] at h3; simp only at h3
              split at h3
              · simp only [Option.some.injEq, Prod.mk.injEq] at h3
                obtain ⟨rfl, rfl⟩ := h3
                exact ⟨rfl, by assumption⟩
              · cases h3
          cases h4 : rMany rFile m r3 with
          | none => rw [h4] at hr; cases hr
          | some x4 =>
            obtain ⟨fs, r4⟩ := x4
            rw [h4] at hr; simp only at hr
            split at hr
            · simp only [Option.some.injEq] at hr
              subst hr
              have k1 := eMany_some (p := eTxt) (q := rCnt 512) (fun s x r h => eTxt_some h false) g1.2 h2
              have k2 := eMany_some (p := eFile) (q := rFile) (fun s x r h => eFile_some h) g3.2 h4
              unfold eArch
              rw [← e0]
              simp only [eNum_some g1.1, k1, eNum_some g3.1, k2, and_self]
            · cases hr
end Im
end Go.Proofs.YtbjbjbpgmojcbabGreat
namespace Go.Proofs.YtbjbjbpgmojcbabGreat
namespace Im
def savE (a : Ar.A) : Int := if Ar.chk a ≠ 0 then Ar.chk a else if 16384 < (img a).size then 2 else 0
def savT (a : Ar.A) : ByteArray := if savE a = 0 then img a else ⟨#[]⟩
def opn (s : ByteArray) : Option Ar.A := match rArch s with
  | none => none
  | some a => if Ar.chk a = 0 then some a else none
def opnE (s : ByteArray) : Int := if 16384 < s.size then 2 else match opn s with | none => 1 | some _ => 0
def opnA (s : ByteArray) : Ar.A := if 16384 < s.size then Ar.az else match opn s with | none => Ar.az | some a => a
end Im
end Go.Proofs.YtbjbjbpgmojcbabGreat
namespace Go.Proofs.YtbjbjbpgmojcbabGreat
namespace Im
theorem flat_le {α : Type} (enc : α → B) (M : Nat) : ∀ l : List α, (∀ x ∈ l, (enc x).length ≤ M) → (flat enc l).length ≤ l.length * M
  | [], _ => by simp [flat]
  | x :: l, h => by
    have h1 := flat_le enc M l (fun y hy => h y (List.mem_cons_of_mem _ hy))
    have h2 := h x (List.mem_cons_self ..)
    simp only [flat, List.flatMap_cons, List.length_append, List.length_cons] at h1 ⊢
    rw [Nat.succ_mul]
    omega
theorem tb_len {t : ByteArray} {m : Nat} (h : t.size ≤ m) (hm : m ≤ 100000) : (tb t).length ≤ 5 + m := by
  unfold tb
  have := Nm.nb_len5 t.size (by omega)
  rw [List.length_append, ← size_len]
  omega
theorem chk_file {a : Ar.A} (h : Ar.chk a = 0) {i : Nat} (hi : i < a.files.length) : okF (Ar.fa a.files i) ∧ (Ar.fa a.files i).name.size ≤ 12 ∧ (Ar.fa a.files i).blk.size ≤ 7000 := by
  obtain ⟨hm, hg⟩ := Ar.chk_zero.1 h
  obtain ⟨m1, m2, m3⟩ := Ar.many_iff.1 hm
  obtain ⟨k1, _, k3⟩ := Ar.okAt_parts (Ar.gdK_at hg hi)
  have hn := Ar.isNm_le k1
  simp only [Ar.okf, Ar.has, Bool.and_eq_true, decide_eq_true_iff] at k3
  obtain ⟨⟨d0, d1⟩, u0, u1, u2⟩ := k3
  have hb := Bk.unp_small u0
  have hz := Bk.unp_size u0
  have hs := sumTo_lt (Ar.up a.dicts (Ar.fa a.files i)).1 (Ar.up a.dicts (Ar.fa a.files i)).1.size
  have hz' : (Ar.up a.dicts (Ar.fa a.files i)).1.size ≤ 512 := hz
  unfold Ar.sm at u2
  refine ⟨⟨by omega, ⟨d0, by omega⟩, ⟨by omega, by omega⟩, ⟨by omega, by omega⟩, by omega⟩, hn, hb⟩
theorem chk_ok {a : Ar.A} (h : Ar.chk a = 0) : OkA a ∧ (imgB a).length ≤ 200000 := by
  obtain ⟨hm, hg⟩ := Ar.chk_zero.1 h
  obtain ⟨m1, m2, m3⟩ := Ar.many_iff.1 hm
  have hd := m3
  have hf : ∀ f ∈ a.files, okF f ∧ f.name.size ≤ 12 ∧ f.blk.size ≤ 7000 := fun f hf => by
    obtain ⟨i, hi, rfl⟩ := List.getElem_of_mem hf
    have := chk_file h hi
    rwa [show Ar.fa a.files i = a.files[i] by simp [Ar.fa, hi]] at this
  refine ⟨⟨m1, fun d h9 => by have := hd d h9; omega, m2, fun f h9 => (hf f h9).1⟩, ?_⟩
  have l1 := flat_le tb 300 a.dicts (fun d h9 => by have := tb_len (hd d h9) (by omega); omega)
  have l2 := flat_le fileB 7100 a.files (fun f h9 => by
    obtain ⟨⟨_, ⟨_, q1⟩, ⟨_, q2⟩, ⟨_, q3⟩, _⟩, h2, h3⟩ := hf f h9
    have t1 := tb_len h2 (by omega)
    have t2 := tb_len h3 (by omega)
    have n1 := Nm.nb_len5 f.dict.toNat (by omega)
    have n2 := Nm.nb_len5 f.size.toNat (by omega)
    have n3 := Nm.nb_len5 f.sum.toNat (by omega)
    unfold fileB
    simp only [List.length_append]
    omega)
  have n1 := Nm.nb_len5 a.dicts.length (by omega)
  have n2 := Nm.nb_len5 a.files.length (by omega)
  have h4 : a.dicts.length * 300 ≤ 4 * 300 := Nat.mul_le_mul_right _ m1
  have h5 : a.files.length * 7100 ≤ 12 * 7100 := Nat.mul_le_mul_right _ m2
  have h6 : mrk.length = 5 := rfl
  unfold imgB
  simp only [List.length_append]
  omega
end Im
end Go.Proofs.YtbjbjbpgmojcbabGreat
namespace Go.Proofs.YtbjbjbpgmojcbabGreat
open Go.RowKit
theorem Wtr.new (w : World) (T : TypeId) : Wtr w.heap.size w.heap.size (w.alloc (.cells #[.slice none 0 0, .int .i64 0] T (0, 0))) (.slice none 0 0) [] 0 :=
  ⟨Nat.le_refl _, by simp, World.cell?_alloc_new _ _ _ 0, World.cell?_alloc_new _ _ _ 1, World.frozen?_alloc_at _ _ _ _ rfl, World.frozen?_alloc_at _ _ _ _ rfl, Own8.nil _ _, by simp [Value.ownBlock]⟩
set_option maxRecDepth 8000 in
set_option maxHeartbeats 2000000 in
theorem imgSave_any (ad af : Option Addr) (cd cf : Nat) (a : Ar.A) (w : World) (h : ArV w ad af a) (hs : SaneA a) :
    Calls Tryz.prog 31 #[av ad cd af cf a] w fun e w' => e = .returned (.tuple #[.string (Im.savT a), .int .i64 (Im.savE a)]) ∧ Below w.heap.size w w' := by
  have XA := Bx.new w (.slice ad a.dicts.length cd) (.slice af a.files.length cf)
  have B1 := alloc_below w (.cells #[.slice ad a.dicts.length cd, .slice af a.files.length cf] 25 (0, 0))
  have CK := archCheck_any ad af cd cf a _ (h.below B1) hs
  have HV : Hid (∀ w', Below w.heap.size w w' → ArV w' ad af a) := fun w' h9 => h.below h9
  by_cases hk : Ar.chk a = 0
  · obtain ⟨hok, hlen⟩ := Im.chk_ok hk
    have CW : Hid (∀ w', Below w.heap.size w w' → ∀ B p w2 v, B ≤ w2.heap.size → Below B w' w2 → w'.heap.size ≤ B → Wtr B p w2 v [] 0 → Calls Tryz.prog 71 #[.pointer (some ⟨p, 0, none⟩), av ad cd af cf a] w2 fun e w3 => WrSaid B p w2 v (Im.imgB a) 0 e w3) := fun w' h9 B p w2 v hB h8 hl h7 => writeArchive_any B p ad af cd cf a w2 v h7 (fun w3 h6 => (HV.out w' h9).below ((h8.trans h6).mono hl)) hok (by omega)
    rw [hk] at CK
    have hiz : (Im.img a).size = (Im.imgB a).length := by rw [Im.size_len, Im.img_list]
    have hImg : Hid (Im.img a = ⟨(Im.imgB a).toArray⟩) := rfl
    by_cases hbig : 16384 < (Im.img a).size
    · have e1 : Im.savE a = 2 := by unfold Im.savE; rw [if_neg (by simpa using hk), if_pos hbig]
      have e2 : Im.savT a = ⟨#[]⟩ := by unfold Im.savT; rw [e1]; rfl
      rw [e1, e2]
      have hl9 : (Im.imgB a).length ≤ 200000 := hlen
      rw [hiz] at hbig
      have hsz : (⟨(Im.imgB a).toArray⟩ : ByteArray).size = (Im.imgB a).length := by rw [Im.size_len]
      have d9 : decide ((16384 : Int) < ((⟨(Im.imgB a).toArray⟩ : ByteArray).size : Int)) = true := decide_eq_true (by rw [hsz]; omega)
      clear hk hok e1 e2 h hs HV hlen
      generalize Im.imgB a = IB at *
      generalize hR : (⟨IB.toArray⟩ : ByteArray) = R at *
      unfold av at CK CW ⊢
      generalize a.dicts.length = D at *
      generalize a.files.length = N at *
      go_enter Tryz.func31, Tryz.ntmps31
      go_wp2_with fail
      refine CK.mono ?_
      rintro e w2 ⟨rfl, G⟩
      have B2 := bch B1 G (Nat.le_refl _)
      have XA2 := XA.next G
      have G3 := alloc_below w2 (.cells #[.slice none 0 0, .int .i64 0] 97 (0, 0))
      have XA3 := XA2.next G3
      have x0 := XA3.c0
      have x1 := XA3.c1
      have T3 := Wtr.new w2 97
      clear XA XA2 CK G B1
      go_wp2_with fail
      refine (CW.out w2 B2 w2.heap.size w2.heap.size _ _ (by simp) G3 (Nat.le_refl _) T3).mono ?_
      rintro e w4 ⟨rfl, G4, v', T4, F4⟩
      have B4 := bch B2 (G3.trans G4) (Nat.le_refl _)
      clear x0 x1 XA3 T3 CW F4
      go_wp2_with fail
      have C := wResult_any _ _ w4 v' IB 0 T4
      rw [if_pos rfl, hR] at C
      refine C.mono ?_
      rintro e w5 ⟨rfl, G5⟩
      have B5 := bch B4 G5 (Nat.le_refl _)
      clear C T4 G3 G4 B4 B2
      go_wp2_with fail
      go_ret2
      exact ⟨rfl, B5⟩
    · have e1 : Im.savE a = 0 := by unfold Im.savE; rw [if_neg (by simpa using hk), if_neg hbig]
      have e2 : Im.savT a = Im.img a := by unfold Im.savT; rw [e1]; rfl
      rw [e1, e2]
      rw [hImg.out]
      have hl9 : (Im.imgB a).length ≤ 200000 := hlen
      rw [hiz] at hbig
      have hsz : (⟨(Im.imgB a).toArray⟩ : ByteArray).size = (Im.imgB a).length := by rw [Im.size_len]
      have d9 : decide ((16384 : Int) < ((⟨(Im.imgB a).toArray⟩ : ByteArray).size : Int)) = false := decide_eq_false (by rw [hsz]; omega)
      clear hk hok e1 e2 h hs HV hlen
      generalize Im.imgB a = IB at *
      generalize hR : (⟨IB.toArray⟩ : ByteArray) = R at *
      unfold av at CK CW ⊢
      generalize a.dicts.length = D at *
      generalize a.files.length = N at *
      go_enter Tryz.func31, Tryz.ntmps31
      go_wp2_with fail
      refine CK.mono ?_
      rintro e w2 ⟨rfl, G⟩
      have B2 := bch B1 G (Nat.le_refl _)
      have XA2 := XA.next G
      have G3 := alloc_below w2 (.cells #[.slice none 0 0, .int .i64 0] 97 (0, 0))
      have XA3 := XA2.next G3
      have x0 := XA3.c0
      have x1 := XA3.c1
      have T3 := Wtr.new w2 97
      clear XA XA2 CK G B1
      go_wp2_with fail
      refine (CW.out w2 B2 w2.heap.size w2.heap.size _ _ (by simp) G3 (Nat.le_refl _) T3).mono ?_
      rintro e w4 ⟨rfl, G4, v', T4, F4⟩
      have B4 := bch B2 (G3.trans G4) (Nat.le_refl _)
      clear x0 x1 XA3 T3 CW F4
      go_wp2_with fail
      have C := wResult_any _ _ w4 v' IB 0 T4
      rw [if_pos rfl, hR] at C
      refine C.mono ?_
      rintro e w5 ⟨rfl, G5⟩
      have B5 := bch B4 G5 (Nat.le_refl _)
      clear C T4 G3 G4 B4 B2
      go_wp2_with fail
      go_ret2
      exact ⟨rfl, B5⟩
  · have e1 : Im.savE a = Ar.chk a := by unfold Im.savE; rw [if_pos hk]
    have e2 : Im.savT a = ⟨#[]⟩ := by unfold Im.savT; rw [e1, if_neg hk]
    rw [e1, e2]
    have dk : (Ar.chk a == 0) = false := by simpa using hk
    generalize Ar.chk a = ck at *
    unfold av at CK ⊢
    generalize a.dicts.length = D at *
    generalize a.files.length = N at *
    go_enter Tryz.func31, Tryz.ntmps31
    go_wp2_with fail
    refine CK.mono ?_
    rintro e w2 ⟨rfl, G⟩
    have B2 := bch B1 G (Nat.le_refl _)
    go_wp2_with fail
    go_ret2
    exact ⟨rfl, B2⟩
end Go.Proofs.YtbjbjbpgmojcbabGreat
namespace Go.Proofs.YtbjbjbpgmojcbabGreat
open Go.RowKit
theorem CpS.put2 {w0 wr w2 : World} {C lo g cap n1 m n2 : Nat} {v1 v2 : Value} {xs1 ys xs2 : List Value} {o : Obj} (h : CpS w0 wr C lo v1 v2 n1 n2 xs1 xs2) (hg : (wr.alloc o).grownBy w2 v2.ownBlock)
    (ho : w2.ownsRow lo 46 5 (.slice (some ⟨g, 0, none⟩) m cap) m ys) (hl : v2.ownBlock = some g ∨ g = (wr.alloc o).heap.size) :
    (w2.cell? ⟨C, 1, none⟩ = some v2 ∧ w2.frozen? ⟨C, 1, none⟩ = false) ∧ CpS w0 (w2.setCell ⟨C, 1, none⟩ (.slice (some ⟨g, 0, none⟩) m cap)) C lo v1 (.slice (some ⟨g, 0, none⟩) m cap) n1 m xs1 ys := by
  have hB := h.hb
  have hlC := h.hC
  have hsz : (wr.alloc o).heap.size = wr.heap.size + 1 := by simp
  have ha := h.below ((Below.refl _ _).alloc (Nat.le_refl _) o)
  have n0 : some C ≠ v2.ownBlock := h.a2.symm
  have k0 := cell_keep hg ha.c0 n0
  have k1 := cell_keep hg ha.c1 n0
  have q0 := frozen_keep hg (by omega) ha.f0 n0
  have q1 := frozen_keep hg (by omega) ha.f1 n0
  have hsg := setCell_grown w2 ⟨C, 1, none⟩ (.slice (some ⟨g, 0, none⟩) m cap)
  have hz : (wr.alloc o).heap.size ≤ w2.heap.size := hg.size
  have hgC : g ≠ C := by
    rcases hl with hl | hl
    · rintro rfl; exact h.a2 hl
    · omega
  refine ⟨⟨k1, q1⟩, ?_, World.cell?_setCell_same _ _ _ k1, by rw [World.frozen?_setCell]; exact q0, by rw [World.frozen?_setCell]; exact q1, ?_, ho.kept hsg (.inr (by simp [Value.ownBlock]; exact hgC)), ?_, h.a1, by simp [Value.ownBlock]; exact hgC, hlC, ?_, ?_⟩
  · exact (World.cell?_setCell_other w2 _ _ _ (by intro e; have := congrArg Addr.off e; simp at this)).trans k0
  · refine (ha.o1.kept hg ?_).kept hsg (.inr h.a1)
    cases hv : v1.ownBlock with
    | none => exact .inl rfl
    | some j => exact .inr (fun e => h.ne j hv e.symm)
  · intro j hj e
    simp [Value.ownBlock] at e
    subst e
    rcases hl with hl | hl
    · exact h.ne g hj hl
    · have := (h.o1.lt g hj).2
      omega
  · have := hsg.size
    omega
  · exact ((h.bel.alloc (by omega) o).grown hg (by omega) (fun j hj => (h.o2.lt j hj).1)).setCell hlC _
end Go.Proofs.YtbjbjbpgmojcbabGreat
namespace Go.Proofs.YtbjbjbpgmojcbabGreat
open Go.RowKit
namespace Im
theorem rMany_stop {α : Type} {p : ByteArray → Option (α × ByteArray)} {s : ByteArray} {k : Nat} (h : rMany p k s = none) : ∀ d, rMany p (k + d) s = none
  | 0 => h
  | d + 1 => by rw [← Nat.add_assoc, rMany, rMany_stop h d]
theorem rMany_stop' {α : Type} {p : ByteArray → Option (α × ByteArray)} {s : ByteArray} {k n : Nat} (h : rMany p k s = none) (hk : k ≤ n) : rMany p n s = none := by
  have := rMany_stop h (n - k)
  rw [show k + (n - k) = n by omega] at this
  exact this
theorem rMany_next {α : Type} {p : ByteArray → Option (α × ByteArray)} {s r q : ByteArray} {k : Nat} {l : List α} {x : α} (h : rMany p k s = some (l, r)) (h2 : p r = some (x, q)) : rMany p (k + 1) s = some (l ++ [x], q) := by
  rw [rMany, h]; simp only; rw [h2]
theorem rMany_end {α : Type} {p : ByteArray → Option (α × ByteArray)} {s r : ByteArray} {k : Nat} {l : List α} (h : rMany p k s = some (l, r)) (h2 : p r = none) : rMany p (k + 1) s = none := by
  rw [rMany, h]; simp only; rw [h2]
end Im
theorem rMk_mark (s : ByteArray) : rMk ⟨#[112, 114, 101, 115, 115]⟩ s = (Im.rMark s).map (fun r => ((), r)) := by
  have hz : (⟨#[112, 114, 101, 115, 115]⟩ : ByteArray).size = 5 := rfl
  have hp : pfx ⟨#[112, 114, 101, 115, 115]⟩ s = decide (s.data.toList.take 5 = Im.mrk) := by
    unfold pfx
    rw [hz, ByteArray.toList_eq, ByteArray.toList_eq, Im.ext_take]
    show (decide (5 ≤ s.size) && (s.data.toList.take 5 == Im.mrk)) = _
    by_cases e : s.data.toList.take 5 = Im.mrk
    · have h5 : 5 ≤ s.size := by
        have := congrArg List.length e
        rw [List.length_take, ← Im.size_len] at this
        have h2 : Im.mrk.length = 5 := rfl
        omega
      rw [e, decide_eq_true h5]; rfl
    · rw [decide_eq_false e, beq_eq_false_iff_ne.2 e, Bool.and_false]
  unfold rMk Im.rMark
  rw [hp, hz]
  by_cases e : s.data.toList.take 5 = Im.mrk
  · rw [if_pos (by simp [e]), if_pos e]; rfl
  · rw [if_neg (by simp [e]), if_neg e]; rfl
theorem On.low {p : Nat} {w w1 w2 : World} (h : On p w w1) {lo : Nat} (hl : w.heap.size ≤ lo) (g : Below lo w1 w2) : On p w w2 :=
  ⟨g.os.trans h.os, g.tape.trans h.tape, g.output.trans h.output, Nat.le_trans h.size g.size, fun k hk hne => (g.block k (by omega)).trans (h.block k hk hne)⟩
theorem Rdr.lo {w1 w2 : World} {p lo : Nat} {s : ByteArray} (h : Rdr w1 p s) (g : Below lo w1 w2) (hp : p < lo) : Rdr w2 p s :=
  ⟨(g.cell (p := ⟨p, 0, none⟩) hp).trans h.c, (g.frozen (p := ⟨p, 0, none⟩) hp).trans h.f⟩
theorem CpS.on {w0 wr w' : World} {p C lo : Nat} {v1 v2 : Value} {n1 n2 : Nat} {xs1 xs2 : List Value} (h : CpS w0 wr C lo v1 v2 n1 n2 xs1 xs2) (g : On p wr w') (hp : p < lo) : CpS w' w' C lo v1 v2 n1 n2 xs1 xs2 := by
  have hC := h.hC
  have hb := g.block C h.hb (by simp; omega)
  have e1 : v1.ownBlock ≠ some p := fun e => by have := (h.o1.lt p e).1; omega
  have e2 : v2.ownBlock ≠ some p := fun e => by have := (h.o2.lt p e).1; omega
  refine ⟨(World.cell?_of_block (w := wr) (a := ⟨C, 0, none⟩) hb).trans h.c0, (World.cell?_of_block (w := wr) (a := ⟨C, 1, none⟩) hb).trans h.c1, (World.frozen?_of_block (w := wr) (a := ⟨C, 0, none⟩) hb).trans h.f0, (World.frozen?_of_block (w := wr) (a := ⟨C, 1, none⟩) hb).trans h.f1, h.o1.kept g (.inr e1), h.o2.kept g (.inr e2), h.ne, h.a1, h.a2, h.hC, Nat.lt_of_lt_of_le h.hb g.size, Below.refl _ _⟩
def ArRd (r : Option Ar.A) (p : Nat) (w : World) (e : Ending) (w' : World) : Prop := On p w w' ∧ match r with
  | none => e = .panicked PN
  | some a => ∃ v1 v2, e = .returned (.agg #[v1, v2]) ∧ ArOwn w.heap.size w' v1 v2 a ∧ Rdr w' p ⟨#[]⟩
theorem CpS.start (w : World) (lo : Nat) (hl : lo ≤ w.heap.size) (T : TypeId) : CpS (w.alloc (.cells #[.slice none 0 0, .slice none 0 0] T (0, 0))) (w.alloc (.cells #[.slice none 0 0, .slice none 0 0] T (0, 0))) w.heap.size lo (.slice none 0 0) (.slice none 0 0) 0 0 [] [] :=
  ⟨World.cell?_alloc_new _ _ _ 0, World.cell?_alloc_new _ _ _ 1, World.frozen?_alloc_at _ _ _ _ rfl, World.frozen?_alloc_at _ _ _ _ rfl, ⟨rfl, .inl ⟨rfl, rfl⟩⟩, ⟨rfl, .inl ⟨rfl, rfl⟩⟩, fun j e _ => by simp [Value.ownBlock] at e, by simp [Value.ownBlock], by simp [Value.ownBlock], hl, by simp, Below.refl _ _⟩
structure RS (w wr : World) (p : Nat) (v1 v2 : Value) (n1 n2 : Nat) (xs1 xs2 : List Value) (r : ByteArray) : Prop where
  s : CpS wr wr (w.heap.size + 1) (w.heap.size + 1) v1 v2 n1 n2 xs1 xs2
  g : On p w wr
  r : Rdr wr p r
  x : Bx wr w.heap.size (.slice none 0 0) (.slice none 0 0)
  hp : p < w.heap.size
theorem RS.on {w wr w' : World} {p : Nat} {v1 v2 : Value} {n1 n2 : Nat} {xs1 xs2 : List Value} {r r' : ByteArray} (h : RS w wr p v1 v2 n1 n2 xs1 xs2 r) (g : On p wr w') (hr : Rdr w' p r') : RS w w' p v1 v2 n1 n2 xs1 xs2 r' := by
  have hp := h.hp
  have hb := g.block w.heap.size h.x.lt (by simp; omega)
  exact ⟨h.s.on g (by omega), h.g.past g, hr, ⟨(World.cell?_of_block (w := wr) (a := ⟨w.heap.size, 0, none⟩) hb).trans h.x.c0, (World.cell?_of_block (w := wr) (a := ⟨w.heap.size, 1, none⟩) hb).trans h.x.c1, (World.frozen?_of_block (w := wr) (a := ⟨w.heap.size, 0, none⟩) hb).trans h.x.f0, (World.frozen?_of_block (w := wr) (a := ⟨w.heap.size, 1, none⟩) hb).trans h.x.f1, Nat.lt_of_lt_of_le h.x.lt g.size⟩, hp⟩
theorem RS.next {w wr wq : World} {p : Nat} {v1 v2 u1 u2 : Value} {n1 n2 m1 m2 : Nat} {xs1 xs2 ys1 ys2 : List Value} {r : ByteArray} (h : RS w wr p v1 v2 n1 n2 xs1 xs2 r) (c : CpS wr wq (w.heap.size + 1) (w.heap.size + 1) u1 u2 m1 m2 ys1 ys2) : RS w wq p u1 u2 m1 m2 ys1 ys2 r := by
  have hp := h.hp
  have G := c.bel
  exact ⟨⟨c.c0, c.c1, c.f0, c.f1, c.o1, c.o2, c.ne, c.a1, c.a2, c.hC, c.hb, Below.refl _ _⟩, h.g.low (by omega) G, h.r.lo G (by omega), ⟨(G.cell (p := ⟨w.heap.size, 0, none⟩) (by simp)).trans h.x.c0, (G.cell (p := ⟨w.heap.size, 1, none⟩) (by simp)).trans h.x.c1, (G.frozen (p := ⟨w.heap.size, 0, none⟩) (by simp)).trans h.x.f0, (G.frozen (p := ⟨w.heap.size, 1, none⟩) (by simp)).trans h.x.f1, Nat.lt_of_lt_of_le h.x.lt G.size⟩, hp⟩
theorem RS.drew {w wr : World} {p : Nat} {v1 v2 : Value} {n1 n2 : Nat} {xs1 xs2 : List Value} {r : ByteArray} (h : RS w wr p v1 v2 n1 n2 xs1 xs2 r) : RS w wr.drew p v1 v2 n1 n2 xs1 xs2 r := h.next (h.s.below ((Below.refl _ _).drew))
end Go.Proofs.YtbjbjbpgmojcbabGreat
namespace Go.Proofs.YtbjbjbpgmojcbabGreat
open Go.RowKit
theorem hid_of {p : Prop} (h : p) : Hid p := h
end Go.Proofs.YtbjbjbpgmojcbabGreat
namespace Go.Proofs.YtbjbjbpgmojcbabGreat
open Go.RowKit
set_option maxRecDepth 8000 in
set_option maxHeartbeats 4000000 in
theorem readArchive_any (s : ByteArray) (p : Nat) (w : World) (h : Rdr w p s) (hs : s.size ≤ 281474976710656) :
    Calls Tryz.prog 76 #[.pointer (some ⟨p, 0, none⟩)] w fun e w' => ArRd (Im.rArch s) p w e w' := by
  obtain ⟨i0, hi, hz0, hz1, hz2⟩ := info_parts (P := Tryz.prog) (e := 9) (z := .string ⟨#[]⟩) (size := 1) (bytes := 16) (by kernel_rfl)
  obtain ⟨j0, gi, gz0, gz1, gz2⟩ := info_parts (P := Tryz.prog) (e := 46) (z := .agg #[.string ⟨#[]⟩, .int .i64 0, .int .i64 0, .int .i64 0, .string ⟨#[]⟩]) (size := 5) (bytes := 56) (by kernel_rfl)
  have hpl := h.lt
  have hN : Hid (Im.rArch s = none → ∀ w', On p w w' → ArRd (Im.rArch s) p w (.panicked PN) w') := fun h9 w' h8 => by rw [h9]; exact ⟨h8, rfl⟩
  have hY : Hid (∀ a, Im.rArch s = some a → ∀ w' v1 v2, On p w w' → ArOwn w.heap.size w' v1 v2 a → Rdr w' p ⟨#[]⟩ → ArRd (Im.rArch s) p w (.returned (.agg #[v1, v2])) w') := fun a h9 w' v1 v2 h8 h7 h6 => by rw [h9]; exact ⟨h8, v1, v2, rfl, h7, h6⟩
  generalize ArRd (Im.rArch s) p w = Q at *
  have XB := Bx.new w (.slice none 0 0) (.slice none 0 0)
  have B1 := alloc_below w (.cells #[.slice none 0 0, .slice none 0 0] 25 (0, 0))
  have hsz : (w.alloc (.cells #[.slice none 0 0, .slice none 0 0] 25 (0, 0))).heap.size = w.heap.size + 1 := by simp
  have S0 := CpS.start (w.alloc (.cells #[.slice none 0 0, .slice none 0 0] 25 (0, 0))) (w.heap.size + 1) (by omega) 25
  have B2 := bch B1 (alloc_below (w.alloc (.cells #[.slice none 0 0, .slice none 0 0] 25 (0, 0))) (.cells #[.slice none 0 0, .slice none 0 0] 25 (0, 0))) (Nat.le_refl _)
  have XB1 := XB.next (alloc_below (w.alloc (.cells #[.slice none 0 0, .slice none 0 0] 25 (0, 0))) (.cells #[.slice none 0 0, .slice none 0 0] 25 (0, 0)))
  rw [hsz] at S0
  have G0 : On p w _ := On.of B2
  have R0 := h.below B2
  clear h hsz B1 B2
  go_enter Tryz.func76, Tryz.ntmps76
  go_wp2_with fail
  generalize ((w.alloc (.cells #[.slice none 0 0, .slice none 0 0] 25 (0, 0))).alloc (.cells #[.slice none 0 0, .slice none 0 0] 25 (0, 0))) = w0 at *
  have T0 : RS w w0 p (.slice none 0 0) (.slice none 0 0) 0 0 [] [] s := ⟨S0, G0, R0, XB1, hpl⟩
  clear S0 G0 XB1 XB
  have C := mark_any s ⟨#[112, 114, 101, 115, 115]⟩ p w0 R0
  rw [rMk_mark] at C
  unfold RdSaid at C
  cases h1 : Im.rMark s with
  | none =>
    rw [h1] at C
    simp only [Option.map_none] at C
    refine C.mono ?_
    rintro e w1 ⟨G, rfl⟩
    have hq := hN.out (by simp only [Im.rArch, h1]) _ (T0.g.past G)
    go_wp2_with fail
    exact ⟨rfl, hq⟩
  | some r0 =>
    rw [h1] at C
    simp only [Option.map_some] at C
    refine C.mono ?_
    rintro e w1 ⟨G, rfl, R1⟩
    have hs1 : r0.size ≤ 281474976710656 := by
      have := congrArg List.length ((Im.rMark_is s r0).1 h1)
      rw [List.length_append, ← Im.size_len, ← Im.size_len] at this
      omega
    have T1 := T0.on G R1
    clear T0 G C R0
    go_wp2_with fail
    have C := upTo_any r0 p 4 w1 R1 hs1
    unfold RdSaid at C
    cases h2 : Im.rUp 4 r0 with
    | none =>
      rw [h2] at C
      simp only at C
      refine C.mono ?_
      rintro e w2 ⟨G, rfl⟩
      have hq := hN.out (by simp only [Im.rArch, h1, h2]) _ (T1.g.past G)
      go_wp2_with fail
      exact ⟨rfl, hq⟩
    | some x =>
      obtain ⟨n, r1⟩ := x
      rw [h2] at C
      simp only at C
      refine C.mono ?_
      rintro e w2 ⟨G, rfl, R2⟩
      have hs2 : r1.size ≤ 281474976710656 := Nat.le_trans (rd_le (Im.rUp_is 4) h2) hs1
      have hn4 : n ≤ 4 := (((Im.rUp_is 4) r0 n r1).1 h2).1.2
      have T2 := T1.on G R2
      clear T1 G C R1 R2
      go_wp2_with fail
      have HN1 : Hid (Im.rMany (Im.rCnt 512) n r1 = none → ∀ w', On p w w' → Q (.panicked PN) w') := fun h9 => hN.out (by simp only [Im.rArch, h1, h2, h9])
      go_loopw [8] (fun i wr => ∃ (k : Nat) (v1 : Value) (ds : List ByteArray) (r : ByteArray), k ≤ n ∧ i = .int .i64 k ∧ Hid (Im.rMany (Im.rCnt 512) k r1 = some (ds, r)) ∧ RS w wr p v1 (.slice none 0 0) k 0 (ds.map Value.string) [] r) (fun i _ => n - (intOf i).toNat)
      case atStart => exact ⟨0, _, [], r1, by omega, rfl, rfl, T2⟩
      case round =>
        clear T2
        obtain ⟨k, v1, ds, r, hk2, rfl, HM, T3⟩ := hrel
        have hs3 : r.size ≤ 281474976710656 := Nat.le_trans (rd_le (Im.rMany_is (Im.rCnt_is 512) k) HM.out) hs2
        by_cases hlt : k < n
        · have d1 : decide ((k : Int) < (n : Int)) = true := decide_eq_true (by omega)
          have d1' : decide (k < n) = true := decide_eq_true hlt
          have T4 := T3.drew
          have C := rdText_any r p wr.drew T4.r hs3
          unfold RdSaid at C
          have c0 := T4.s.c0
          have k0 := T3.s.c0
          cases h3 : Im.rCnt 512 r with
          | none =>
            rw [h3] at C
            simp only at C
            have HE := Im.rMany_stop' (Im.rMany_end HM.out h3) (show k + 1 ≤ n by omega)
            have hq : Hid (∀ w', On p wr.drew w' → Q (.panicked PN) w') := fun w' h9 => HN1.out HE _ (T4.g.past h9)
            go_wp2_with fail
            refine wp_region_held_drew (S := fun w' => w'.cell? ⟨w.heap.size + 1, 0, none⟩ = some v1) (by kernel_rfl) c0 (fun hS => ?_)
            refine wpAnyH_take (i := 0) (fuel := 7) (v := .pointer (some ⟨w.heap.size + 1, 0, none⟩)) rfl (by kernel_rfl) (by kernel_rfl) (by kernel_rfl) (fun _ _ _ h => h) (Or.inl ⟨by rfl, fun w' h9 => by go_simp⟩) hS ?_
            refine wpAnyH_take (i := 1) (fuel := 6) (v := v1) rfl (by kernel_rfl) (by kernel_rfl) (by kernel_rfl) (fun _ _ _ h => h) (Or.inl ⟨by rfl, fun w' h9 => by go_simp⟩) hS ?_
            refine wpAnyH_take (i := 2) (fuel := 5) (v := .pointer (some ⟨p, 0, none⟩)) rfl (by kernel_rfl) (by kernel_rfl) (by kernel_rfl) (fun _ _ _ h => h) (Or.inl ⟨by rfl, fun w' h9 => by go_simp⟩) hS ?_
            refine wpAnyH_ready (rs := [3]) (fuel := 4) (by kernel_rfl) (by simp) ?_
            refine AllReadyH.cons rfl (fun K hK => ?_) AllReadyH.nil
            go_simp
            go_at_call 117
            refine C.mono ?_
            rintro e w4 ⟨G, rfl⟩
            exact ⟨rfl, hq.out _ G⟩
          | some x =>
            obtain ⟨X, r'⟩ := x
            rw [h3] at C
            simp only at C
            have HM' := hid_of (Im.rMany_next HM.out h3)
            have hk4 : (k : Int) ≤ 4 := by omega
            go_wp2_with fail
            go_region_law (first
              | (refine step_append_lies _ rfl _ _ 22 rfl (w.heap.size + 1) 9 i0 (.string ⟨#[]⟩) 1 16 Tryz.underlying22 hi hz0 hz1 hz2 rfl (by decide) v1 _ _ rfl (T5.s.o1.alloc _) ⟨w4.heap.size, 0, none⟩ 1 1 [.string X] rfl rfl (cell_one_new _ _ _) (by simp [Value.oneCell']) (by decide) (by unfold maxLen; omega) (by omega) (by simp; omega) _ rfl ?_; intro g cp w5 hown5 hgrow5 hat5 hlt5; obtain ⟨⟨⟨qq1, qq2⟩, S6⟩, _⟩ := T5.s.put1 hgrow5 hown5 hat5; have T6 := T5.next S6; clear hgrow5 hown5 hat5 hlt5 S6)
              | (go_simp; go_at_call 117; refine C.mono ?_; rintro e w4 ⟨G, rfl, R4⟩; have T5 := T4.on G R4; have c2 := T5.s.c0; have c3 : ∀ o, (w4.alloc o).cell? ⟨w.heap.size + 1, 0, none⟩ = some v1 := (fun o => (World.cell?_alloc_lt _ _ _ (World.block_lt_of_cell? w4 _ c2)).trans c2); have hb4 := T5.s.hb))
            all_goals
              clear T3 T4 T5 c2 c3 hb4 C c0 k0 qq1 qq2 G R4
              generalize (w5.setCell ⟨w.heap.size + 1, 0, none⟩ (.slice (some ⟨g, 0, none⟩) (k + 1) cp)) = wq at *
              go_wp2_with fail
              go_roundw
              case rel => exact ⟨k + 1, _, ds ++ [X], r', by omega, by go_num, HM', by rw [List.map_append]; exact T6⟩
              case measure => simp [intOf]; omega
        · obtain rfl : k = n := by omega
          have d1 : decide ((k : Int) < (k : Int)) = false := by simp
          have d1' : decide (k < k) = false := by simp
          clear HN1
          go_wp2_with fail
          have C := upTo_any r p 12 wr T3.r hs3
          unfold RdSaid at C
          have HR := HM.out
          cases h3 : Im.rUp 12 r with
          | none =>
            rw [h3] at C
            simp only at C
            have hq : Hid (∀ w', On p wr w' → Q (.panicked PN) w') := fun w' h9 => hN.out (by simp only [Im.rArch, h1, h2, HR, h3]) _ (T3.g.past h9)
            refine C.mono ?_
            rintro e w4 ⟨G, rfl⟩
            go_wp2_with fail
            exact ⟨rfl, hq.out _ G⟩
          | some x =>
            obtain ⟨m, r2⟩ := x
            rw [h3] at C
            simp only at C
            refine C.mono ?_
            rintro e w4 ⟨G, rfl, R4⟩
            have hs4 : r2.size ≤ 281474976710656 := Nat.le_trans (rd_le (Im.rUp_is 12) h3) hs3
            have hm12 : m ≤ 12 := (((Im.rUp_is 12) r m r2).1 h3).1.2
            have T5 := T3.on G R4
            clear T3 G C R4
            go_wp2_with fail
            have HN2 : Hid (Im.rMany Im.rFile m r2 = none → ∀ w', On p w w' → Q (.panicked PN) w') := fun h9 => hN.out (by simp only [Im.rArch, h1, h2, HR, h3, h9])
            have HY2 : Hid (∀ fs r4, Im.rMany Im.rFile m r2 = some (fs, r4) → (r4.size = 0 → Im.rArch s = some ⟨ds, fs⟩) ∧ (r4.size ≠ 0 → Im.rArch s = none)) := fun fs r4 h9 => ⟨fun h8 => by simp only [Im.rArch, h1, h2, HR, h3, h9]; exact if_pos h8, fun h8 => by simp only [Im.rArch, h1, h2, HR, h3, h9]; exact if_neg h8⟩
            have hdl : ds.length = k := ((Im.rMany_is (Im.rCnt_is 512) k r1 ds r).1 HM.out).1.1
            obtain ⟨XS, HX⟩ : ∃ XS, Hid (ds.map Value.string = XS) := ⟨_, rfl⟩
            rw [HX.out] at T5
            clear HR HM h1 h2 h3
            go_loopw [20] (fun i wr => ∃ (j : Nat) (v2 : Value) (fs : List Ar.F) (r : ByteArray), j ≤ m ∧ i = .int .i64 j ∧ Hid (Im.rMany Im.rFile j r2 = some (fs, r)) ∧ RS w wr p v1 v2 k j XS (fcs fs) r) (fun i _ => m - (intOf i).toNat)
            case atStart => exact ⟨0, _, [], r2, by omega, rfl, rfl, T5⟩
            case round =>
              clear T5
              obtain ⟨j, v2, fs, r, hj2, rfl, HF, T6⟩ := hrel
              have hs5 : r.size ≤ 281474976710656 := Nat.le_trans (rd_le (Im.rMany_is Im.rFile_is j) HF.out) hs4
              by_cases hlt : j < m
              · have d2 : decide ((j : Int) < (m : Int)) = true := decide_eq_true (by omega)
                have d2' : decide (j < m) = true := decide_eq_true hlt
                have T7 := T6.drew
                have C := readFile_any r p wr.drew T7.r hs5
                unfold RdSaid at C
                have c1 := T7.s.c1
                have k1 := T6.s.c1
                cases h4 : Im.rFile r with
                | none =>
                  rw [h4] at C
                  simp only at C
                  have HE := Im.rMany_stop' (Im.rMany_end HF.out h4) (show j + 1 ≤ m by omega)
                  have hq : Hid (∀ w', On p wr.drew w' → Q (.panicked PN) w') := fun w' h9 => HN2.out HE _ (T7.g.past h9)
                  go_wp2_with fail
                  refine wp_region_held_drew (S := fun w' => w'.cell? ⟨w.heap.size + 1, 1, none⟩ = some v2) (by kernel_rfl) c1 (fun hS => ?_)
                  refine wpAnyH_take (i := 0) (fuel := 7) (v := .pointer (some ⟨w.heap.size + 1, 1, none⟩)) rfl (by kernel_rfl) (by kernel_rfl) (by kernel_rfl) (fun _ _ _ h => h) (Or.inl ⟨by rfl, fun w' h9 => by go_simp⟩) hS ?_
                  refine wpAnyH_take (i := 1) (fuel := 6) (v := v2) rfl (by kernel_rfl) (by kernel_rfl) (by kernel_rfl) (fun _ _ _ h => h) (Or.inl ⟨by rfl, fun w' h9 => by go_simp⟩) hS ?_
                  refine wpAnyH_take (i := 2) (fuel := 5) (v := .pointer (some ⟨p, 0, none⟩)) rfl (by kernel_rfl) (by kernel_rfl) (by kernel_rfl) (fun _ _ _ h => h) (Or.inl ⟨by rfl, fun w' h9 => by go_simp⟩) hS ?_
                  refine wpAnyH_ready (rs := [3]) (fuel := 4) (by kernel_rfl) (by simp) ?_
                  refine AllReadyH.cons rfl (fun K hK => ?_) AllReadyH.nil
                  go_simp
                  go_at_call 118
                  refine C.mono ?_
                  rintro e w5 ⟨G, rfl⟩
                  exact ⟨rfl, hq.out _ G⟩
                | some x =>
                  obtain ⟨f, r'⟩ := x
                  rw [h4] at C
                  simp only [fval] at C
                  have HF' := hid_of (Im.rMany_next HF.out h4)
                  have hj12 : (j : Int) ≤ 12 := by omega
                  have HS : Hid (fcs (fs ++ [f]) = fcs fs ++ [.string f.name, .int .i64 f.dict, .int .i64 f.size, .int .i64 f.sum, .string f.blk]) := by show _ = _; rw [fcs_append]; rfl
                  generalize fcs fs = FS at *
                  generalize f.name = f0 at *
                  generalize f.dict = f1 at *
                  generalize f.size = f2 at *
                  generalize f.sum = f3 at *
                  generalize f.blk = f4 at *
                  go_wp2_with fail
                  go_region_law (first
                    | (refine step_append_lies _ rfl _ _ 23 rfl (w.heap.size + 1) 46 j0 (.agg #[.string ⟨#[]⟩, .int .i64 0, .int .i64 0, .int .i64 0, .string ⟨#[]⟩]) 5 56 Tryz.underlying23 gi gz0 gz1 gz2 rfl (by decide) v2 _ _ rfl (T8.s.o2.alloc _) ⟨w5.heap.size, 0, none⟩ 1 1 [.string f0, .int .i64 f1, .int .i64 f2, .int .i64 f3, .string f4] rfl rfl (news5 _ _ _ _ _ _ _) (one5 _ _ _ _ _) (by decide) (by unfold maxLen; omega) (by omega) (by simp; omega) _ rfl ?_; intro g cp w6 hown5 hgrow5 hat5 hlt5; obtain ⟨⟨qq1, qq2⟩, S6⟩ := T8.s.put2 hgrow5 hown5 hat5; have T9 := T8.next S6; clear hgrow5 hown5 hat5 hlt5 S6)
                    | (go_simp; go_at_call 118; refine C.mono ?_; rintro e w5 ⟨G, rfl, R5⟩; have T8 := T7.on G R5; have c2 := T8.s.c1; have c3 : ∀ o, (w5.alloc o).cell? ⟨w.heap.size + 1, 1, none⟩ = some v2 := (fun o => (World.cell?_alloc_lt _ _ _ (World.block_lt_of_cell? w5 _ c2)).trans c2); have hb4 := T8.s.hb))
                  all_goals
                    clear T6 T7 T8 c2 c3 hb4 C c1 k1 qq1 qq2 G R5
                    generalize (w6.setCell ⟨w.heap.size + 1, 1, none⟩ (.slice (some ⟨g, 0, none⟩) (j + 1) cp)) = wq at *
                    go_wp2_with fail
                    go_roundw
                    case rel => exact ⟨j + 1, _, _, r', by omega, by go_num, HF', by rw [HS.out]; exact T9⟩
                    case measure => simp [intOf]; omega
              · obtain rfl : j = m := by omega
                have d2 : decide ((j : Int) < (j : Int)) = false := by simp
                have d2' : decide (j < j) = false := by simp
                obtain ⟨HA, HB⟩ := HY2.out _ _ HF.out
                clear HN2 HY2
                go_wp2_with fail
                have C := rdEnd_any r p wr T6.r
                unfold RdSaid at C
                by_cases hz : r.size = 0
                · rw [show rEnd r = some ((), r) from if_pos hz] at C
                  simp only at C
                  have hA := HA hz
                  obtain rfl : r = ⟨#[]⟩ := by
                    apply Nm.ba_ext
                    rw [Im.size_len] at hz
                    exact List.length_eq_zero_iff.1 hz
                  refine C.mono ?_
                  rintro e w5 ⟨G, rfl, R5⟩
                  have T7 := T6.on G R5
                  have hfl : fs.length = j := ((Im.rMany_is Im.rFile_is j r2 fs _).1 HF.out).1.1
                  have hAO : ArOwn (w.heap.size + 1) w5 v1 v2 ⟨ds, fs⟩ := ⟨by show World.ownsRow _ _ _ _ _ ds.length (ds.map Value.string); rw [hdl, HX.out]; exact T7.s.o1, by show World.ownsRow _ _ _ _ _ fs.length (fcs fs); rw [hfl]; exact T7.s.o2, T7.s.ne⟩
                  obtain ⟨xd, qd, xf, qf, e1, e2, _⟩ := hAO.slices
                  simp only at e1 e2
                  rw [hdl] at e1
                  rw [hfl] at e2
                  subst e1 e2
                  have y0 := T7.s.c0
                  have y1 := T7.s.c1
                  have x0 := T7.x.c0
                  have x1 := T7.x.c1
                  have z0 := T7.x.f0
                  have z1 := T7.x.f1
                  have X9 := T7.x.set (u := .slice xd k qd) (v := .slice xf j qf)
                  have hq := hY.out ⟨ds, fs⟩ hA _ _ _ ((T7.g.set1 (b := w.heap.size) (Nat.le_refl _) 0 (.slice xd k qd)).set1 (b := w.heap.size) (Nat.le_refl _) 1 (.slice xf j qf)) ((hAO.set2 (b := w.heap.size) (by omega) (.slice xd k qd) (.slice xf j qf)).low (by omega)) ((T7.r.low (b := w.heap.size) (by omega) 0 (.slice xd k qd)).low (b := w.heap.size) (by omega) 1 (.slice xf j qf))
                  clear T6 T7 hAO G R5 C HX HF
                  go_wp2_with fail
                  clear y0 y1 x0 x1 z0 z1
                  have y0 := X9.c0
                  have y1 := X9.c1
                  generalize ((w5.setCell ⟨w.heap.size, 0, none⟩ (.slice xd k qd)).setCell ⟨w.heap.size, 1, none⟩ (.slice xf j qf)) = wz at *
                  exact bodyPost_ret (v := .agg #[.slice xd k qd, .slice xf j qf]) (by simp [results, Tryz.results76, go_sem, y0, y1]) rfl hq
                · rw [show rEnd r = none from if_neg hz] at C
                  simp only at C
                  have hq : Hid (∀ w', On p wr w' → Q (.panicked PN) w') := fun w' h9 => hN.out (HB hz) _ (T6.g.past h9)
                  refine C.mono ?_
                  rintro e w5 ⟨G, rfl⟩
                  go_wp2_with fail
                  exact ⟨rfl, hq.out _ G⟩
end Go.Proofs.YtbjbjbpgmojcbabGreat
namespace Go.Proofs.YtbjbjbpgmojcbabGreat
open Go.RowKit
set_option maxRecDepth 4000 in
set_option maxHeartbeats 1000000 in
theorem catch_panicking (p q : Nat) (x : Int) (b : Bool) (w : World) (hc : w.cell? ⟨p, 0, none⟩ = some (.int .i64 x)) (hz : w.frozen? ⟨p, 0, none⟩ = false) (hc' : w.cell? ⟨q, 0, none⟩ = some (.bool b)) (hz' : w.frozen? ⟨q, 0, none⟩ = false) (hpq : p ≠ q) :
    CallsD Tryz.prog 113 #[.pointer (some ⟨p, 0, none⟩), .pointer (some ⟨q, 0, none⟩)] (.panicking PN) w fun e u' w' =>
      e = .returned (.tuple #[]) ∧ u' = .panicking [{ v := .iface 26 (.int .i64 1), recovered := true }] ∧ w' = (w.setCell ⟨p, 0, none⟩ (.int .i64 0)).setCell ⟨q, 0, none⟩ (.bool false) := by
  unfold PN
  refine callsD_of_wpS Tryz.func113 rfl fun c₀ cs hu => ?_
  apply wpS_seq
  apply wpS_region
  simp [wpOpsS, go_sem, recoverD, hu, Tryz.ntmps113, Exit.thenS]
  refine wpS_cond (t := true) (by simp [Act.eval, Array.replicate]) ?_
  simp only [if_true]
  apply wpS_region
  have hne : (⟨p, 0, none⟩ : Addr) ≠ ⟨q, 0, none⟩ := by intro e; exact hpq (congrArg Addr.block e)
  have h2 : (w.setCell ⟨p, 0, none⟩ (.int .i64 0)).cell? ⟨q, 0, none⟩ = some (.bool b) := (World.cell?_setCell_other _ _ _ _ hne).trans hc'
  have h3 : (w.setCell ⟨p, 0, none⟩ (.int .i64 0)).frozen? ⟨q, 0, none⟩ = false := by rw [World.frozen?_setCell]; exact hz'
  simp [wpOpsS, go_sem, hc, hz, h2, h3, bodyPostS, results, Tryz.results113]
set_option maxRecDepth 4000 in
set_option maxHeartbeats 1000000 in
theorem catch_idle (p q : Nat) (w : World) :
    CallsD Tryz.prog 113 #[.pointer (some ⟨p, 0, none⟩), .pointer (some ⟨q, 0, none⟩)] .returning w fun e u' w' => e = .returned (.tuple #[]) ∧ u' = .returning ∧ w' = w := by
  refine callsD_of_wpS Tryz.func113 rfl fun c₀ cs hu => ?_
  apply wpS_seq
  apply wpS_region
  simp [wpOpsS, go_sem, recoverD, hu, Tryz.ntmps113, Exit.thenS]
  refine wpS_cond (t := false) (by simp [Act.eval, Array.replicate]) ?_
  simp only [Bool.false_eq_true, if_false]
  refine wpS_of_wp (wp_skip ?_)
  cases c₀
  simp_all [bodyPostS, results, Tryz.results113]
def Cl (w : World) (p : Nat) (v : Value) : Prop := w.cell? ⟨p, 0, none⟩ = some v ∧ w.frozen? ⟨p, 0, none⟩ = false
def W3 (s : ByteArray) (w : World) : World := ((w.alloc (.cells #[.int .i64 0] 3 (0, 0))).alloc (.cells #[.bool false] 4 (0, 0))).alloc (.cells #[.string s] 143 (0, 0))
theorem On.under {p lo : Nat} {w w' : World} (h : On p w w') (hl : lo ≤ p) (hw : lo ≤ w.heap.size) : Below lo w w' := ⟨h.os, h.tape, h.output, h.size, fun k hk => h.block k (by omega) (by simp; omega)⟩
theorem Bx.other {w : World} {b c : Nat} {x y : Value} (h : Bx w b x y) (hne : b ≠ c) (o : Nat) (u : Value) : Bx (w.setCell ⟨c, o, none⟩ u) b x y :=
  ⟨(World.cell?_setCell_other _ _ _ _ (by intro e; have := congrArg Addr.block e; simp at this; omega)).trans h.c0, (World.cell?_setCell_other _ _ _ _ (by intro e; have := congrArg Addr.block e; simp at this; omega)).trans h.c1, by rw [World.frozen?_setCell]; exact h.f0, by rw [World.frozen?_setCell]; exact h.f1, by have := h.lt; simpa [World.setCell] using this⟩
theorem Bx.on {w w' : World} {b p : Nat} {x y : Value} (h : Bx w b x y) (g : On p w w') (hne : b ≠ p) : Bx w' b x y := by
  have hb := g.block b h.lt (by simp; omega)
  exact ⟨(World.cell?_of_block (w := w) (a := ⟨b, 0, none⟩) hb).trans h.c0, (World.cell?_of_block (w := w) (a := ⟨b, 1, none⟩) hb).trans h.c1, (World.frozen?_of_block (w := w) (a := ⟨b, 0, none⟩) hb).trans h.f0, (World.frozen?_of_block (w := w) (a := ⟨b, 1, none⟩) hb).trans h.f1, Nat.lt_of_lt_of_le h.lt g.size⟩
theorem ArOwn.put1 {lo : Nat} {w : World} {v1 v2 : Value} {a : Ar.A} (h : ArOwn lo w v1 v2 a) {b : Nat} (hb : b < lo) (o : Nat) (u : Value) : ArOwn lo (w.setCell ⟨b, o, none⟩ u) v1 v2 a := by
  have g1 := setCell_grown w ⟨b, o, none⟩ u
  exact ⟨h.o1.kept g1 (.inr (own_ne h.o1 hb).symm), h.o2.kept g1 (.inr (own_ne h.o2 hb).symm), h.ne⟩
theorem Cl.on {w w' : World} {b p : Nat} {x : Value} (h : Cl w b x) (g : On p w w') (hne : b ≠ p) : Cl w' b x := by
  have hb := g.block b (World.block_lt_of_cell? w _ h.1) (by simp; omega)
  exact ⟨(World.cell?_of_block (w := w) (a := ⟨b, 0, none⟩) hb).trans h.1, (World.frozen?_of_block (w := w) (a := ⟨b, 0, none⟩) hb).trans h.2⟩
theorem Cl.other {w : World} {b c : Nat} {x : Value} (h : Cl w b x) (hne : b ≠ c) (o : Nat) (u : Value) : Cl (w.setCell ⟨c, o, none⟩ u) b x :=
  ⟨(World.cell?_setCell_other _ _ _ _ (by intro e; have := congrArg Addr.block e; simp at this; omega)).trans h.1, by rw [World.frozen?_setCell]; exact h.2⟩
theorem w3_rdr (s : ByteArray) (u : World) : Rdr (W3 s u) (u.heap.size + 2) s ∧ Cl (W3 s u) u.heap.size (.int .i64 0) ∧ Cl (W3 s u) (u.heap.size + 1) (.bool false) ∧ Below u.heap.size u (W3 s u) ∧ (W3 s u).heap.size = u.heap.size + 3 := by
  have e1 : (u.alloc (.cells #[.int .i64 0] 3 (0, 0))).heap.size = u.heap.size + 1 := by simp
  have e2 : ((u.alloc (.cells #[.int .i64 0] 3 (0, 0))).alloc (.cells #[.bool false] 4 (0, 0))).heap.size = u.heap.size + 2 := by simp
  have g1 := alloc_below (u.alloc (.cells #[.int .i64 0] 3 (0, 0))) (.cells #[.bool false] 4 (0, 0))
  have g2 := alloc_below ((u.alloc (.cells #[.int .i64 0] 3 (0, 0))).alloc (.cells #[.bool false] 4 (0, 0))) (.cells #[.string s] 143 (0, 0))
  have r : Rdr (W3 s u) (u.heap.size + 2) s := by
    rw [← e2]
    exact ⟨World.cell?_alloc_new _ _ _ 0, World.frozen?_alloc_at _ _ _ _ rfl⟩
  have k1 : Cl (W3 s u) (u.heap.size + 1) (.bool false) := by
    rw [← e1]
    exact ⟨(g2.cell (p := ⟨_, 0, none⟩) (by simp)).trans (World.cell?_alloc_new _ _ _ 0), (g2.frozen (p := ⟨_, 0, none⟩) (by simp)).trans (World.frozen?_alloc_at _ _ _ _ rfl)⟩
  have k0 : Cl (W3 s u) u.heap.size (.int .i64 0) := ⟨(g2.cell (p := ⟨_, 0, none⟩) (by simp; omega)).trans ((g1.cell (p := ⟨_, 0, none⟩) (by simp)).trans (World.cell?_alloc_new _ _ _ 0)), (g2.frozen (p := ⟨_, 0, none⟩) (by simp; omega)).trans ((g1.frozen (p := ⟨_, 0, none⟩) (by simp)).trans (World.frozen?_alloc_at _ _ _ _ rfl))⟩
  exact ⟨r, k0, k1, bch (bch (alloc_below _ _) g1 (Nat.le_refl _)) g2 (Nat.le_refl _), by unfold W3; simp⟩
set_option maxRecDepth 4000 in
set_option maxHeartbeats 1000000 in
theorem sheetRead_no (cap : Value) (s : ByteArray) (w : World) (X : World → Prop)
    (C : Calls Tryz.prog 75 #[.pointer (some ⟨w.heap.size + 2, 0, none⟩), cap] (W3 s w) fun e w' => e = .panicked PN ∧ (∃ x, Cl w' w.heap.size (.int .i64 x)) ∧ (∃ x, Cl w' (w.heap.size + 1) (.bool x)) ∧ X w') :
    Calls Tryz.prog 74 #[.string s, .func (.func 75) #[] #[cap]] w fun e w' => e = .returned (.tuple #[.int .i64 0, .bool false]) ∧ ∃ w0, X w0 ∧ w' = (w0.setCell ⟨w.heap.size, 0, none⟩ (.int .i64 0)).setCell ⟨w.heap.size + 1, 0, none⟩ (.bool false) := by
  have hmf : ∀ (fn : Fn) (first cap : Array Value) (w : World), (Instr.makeFunc fn first cap).run Tryz.prog w = .ok (.func fn first cap) w := fun _ _ _ _ => rfl
  unfold W3 at C
  go_enter_defers Tryz.func74, Tryz.ntmps74
  go_wp2_with fail
  refine (sheetOn_any _ _).mono ?_
  rintro e w1 ⟨rfl, rfl⟩
  go_wp2_with fail
  refine C.mono ?_
  rintro e w2 ⟨rfl, ⟨x, c0, z0⟩, ⟨b, c1, z1⟩, hX⟩
  go_wp2_with fail
  refine leaves_cons (f := 113) (args := #[.pointer (some ⟨w.heap.size, 0, none⟩), .pointer (some ⟨w.heap.size + 1, 0, none⟩)]) (by simp) (by simp [go_sem]) ?_
  refine (catch_panicking _ _ _ _ _ c0 z0 c1 z1 (by omega)).mono ?_
  rintro e u' w3 ⟨rfl, rfl, rfl⟩
  have k0 : ((w2.setCell ⟨w.heap.size, 0, none⟩ (.int .i64 0)).setCell ⟨w.heap.size + 1, 0, none⟩ (.bool false)).cell? ⟨w.heap.size, 0, none⟩ = some (.int .i64 0) := (World.cell?_setCell_other _ _ _ _ (by intro e; have := congrArg Addr.block e; simp at this)).trans (World.cell?_setCell_same _ _ _ c0)
  have k1 : ((w2.setCell ⟨w.heap.size, 0, none⟩ (.int .i64 0)).setCell ⟨w.heap.size + 1, 0, none⟩ (.bool false)).cell? ⟨w.heap.size + 1, 0, none⟩ = some (.bool false) := World.cell?_setCell_same _ _ _ ((World.cell?_setCell_other _ _ _ _ (by intro e; have := congrArg Addr.block e; simp at this)).trans c1)
  have hfin : ∃ w0, X w0 ∧ (w2.setCell ⟨w.heap.size, 0, none⟩ (.int .i64 0)).setCell ⟨w.heap.size + 1, 0, none⟩ (.bool false) = (w0.setCell ⟨w.heap.size, 0, none⟩ (.int .i64 0)).setCell ⟨w.heap.size + 1, 0, none⟩ (.bool false) := ⟨w2, hX, rfl⟩
  generalize (w2.setCell ⟨w.heap.size, 0, none⟩ (.int .i64 0)).setCell ⟨w.heap.size + 1, 0, none⟩ (.bool false) = wz at *
  simp [Leaves, settle, results, Tryz.results74, go_sem, k0, k1]
  exact hfin
set_option maxRecDepth 4000 in
set_option maxHeartbeats 1000000 in
theorem sheetRead_yes (cap : Value) (s rest : ByteArray) (w : World) (X : World → Prop) (hs : s.size ≤ 281474976710656) (hr : rest.size ≤ s.size)
    (C : Calls Tryz.prog 75 #[.pointer (some ⟨w.heap.size + 2, 0, none⟩), cap] (W3 s w) fun e w' => e = .returned (.tuple #[]) ∧ Rdr w' (w.heap.size + 2) rest ∧ (∃ x, Cl w' w.heap.size (.int .i64 x)) ∧ (∃ x, Cl w' (w.heap.size + 1) (.bool x)) ∧ X w') :
    Calls Tryz.prog 74 #[.string s, .func (.func 75) #[] #[cap]] w fun e w' => e = .returned (.tuple #[.int .i64 ((s.size : Int) - (rest.size : Int)), .bool true]) ∧ ∃ w0, X w0 ∧ w' = (w0.setCell ⟨w.heap.size, 0, none⟩ (.int .i64 ((s.size : Int) - (rest.size : Int)))).setCell ⟨w.heap.size + 1, 0, none⟩ (.bool true) := by
  have hmf : ∀ (fn : Fn) (first cap : Array Value) (w : World), (Instr.makeFunc fn first cap).run Tryz.prog w = .ok (.func fn first cap) w := fun _ _ _ _ => rfl
  have hw : wrap64 ((s.size : Int) - (rest.size : Int)) = (s.size : Int) - (rest.size : Int) := by unfold wrap64; omega
  unfold W3 at C
  go_enter_defers Tryz.func74, Tryz.ntmps74
  go_wp2_with fail
  refine (sheetOn_any _ _).mono ?_
  rintro e w1 ⟨rfl, rfl⟩
  go_wp2_with fail
  refine C.mono ?_
  rintro e w2 ⟨rfl, R, ⟨x, c0, z0⟩, ⟨b, c1, z1⟩, hX⟩
  have cr := R.c
  go_wp2_with fail
  refine leaves_cons (f := 113) (args := #[.pointer (some ⟨w.heap.size, 0, none⟩), .pointer (some ⟨w.heap.size + 1, 0, none⟩)]) (by simp) (by simp [go_sem]) ?_
  refine (catch_idle _ _ _).mono ?_
  rintro e u' w3 ⟨rfl, rfl, rfl⟩
  generalize hv : (s.size : Int) - (rest.size : Int) = d at *
  have k0 : ((w2.setCell ⟨w.heap.size, 0, none⟩ (.int .i64 d)).setCell ⟨w.heap.size + 1, 0, none⟩ (.bool true)).cell? ⟨w.heap.size, 0, none⟩ = some (.int .i64 d) := (World.cell?_setCell_other _ _ _ _ (by intro e; have := congrArg Addr.block e; simp at this)).trans (World.cell?_setCell_same _ _ _ c0)
  have k1 : ((w2.setCell ⟨w.heap.size, 0, none⟩ (.int .i64 d)).setCell ⟨w.heap.size + 1, 0, none⟩ (.bool true)).cell? ⟨w.heap.size + 1, 0, none⟩ = some (.bool true) := World.cell?_setCell_same _ _ _ ((World.cell?_setCell_other _ _ _ _ (by intro e; have := congrArg Addr.block e; simp at this)).trans c1)
  have hfin : ∃ w0, X w0 ∧ (w2.setCell ⟨w.heap.size, 0, none⟩ (.int .i64 d)).setCell ⟨w.heap.size + 1, 0, none⟩ (.bool true) = (w0.setCell ⟨w.heap.size, 0, none⟩ (.int .i64 d)).setCell ⟨w.heap.size + 1, 0, none⟩ (.bool true) := ⟨w2, hX, rfl⟩
  generalize (w2.setCell ⟨w.heap.size, 0, none⟩ (.int .i64 d)).setCell ⟨w.heap.size + 1, 0, none⟩ (.bool true) = wz at *
  simp [Leaves, settle, results, Tryz.results74, go_sem, k0, k1]
  exact hfin
end Go.Proofs.YtbjbjbpgmojcbabGreat
namespace Go.Proofs.YtbjbjbpgmojcbabGreat
open Go.RowKit
set_option maxRecDepth 4000 in
set_option maxHeartbeats 1000000 in
theorem open1_none (s : ByteArray) (p c : Nat) (w : World) (h : Rdr w p s) (hs : s.size ≤ 281474976710656) (hr : Im.rArch s = none) :
    Calls Tryz.prog 75 #[.pointer (some ⟨p, 0, none⟩), .pointer (some ⟨c, 0, none⟩)] w fun e w' => e = .panicked PN ∧ On p w w' := by
  have C := readArchive_any s p w h hs
  unfold ArRd at C
  rw [hr] at C
  simp only at C
  clear h hr
  go_enter Tryz.func75, Tryz.ntmps75
  go_wp2_with fail
  refine C.mono ?_
  rintro e w1 ⟨G, rfl⟩
  go_wp2_with fail
  exact ⟨rfl, rfl, G⟩
set_option maxRecDepth 4000 in
set_option maxHeartbeats 1000000 in
theorem open1_some (s : ByteArray) (p c : Nat) (x y : Value) (a : Ar.A) (w : World) (h : Rdr w p s) (hs : s.size ≤ 281474976710656) (hr : Im.rArch s = some a) (hx : Bx w c x y) (hne : c ≠ p) :
    Calls Tryz.prog 75 #[.pointer (some ⟨p, 0, none⟩), .pointer (some ⟨c, 0, none⟩)] w fun e w' => e = .returned (.tuple #[]) ∧ ∃ v1 v2 w1, On p w w1 ∧ w' = (w1.setCell ⟨c, 0, none⟩ v1).setCell ⟨c, 1, none⟩ v2 ∧ Bx w' c v1 v2 ∧ ArOwn w.heap.size w' v1 v2 a ∧ Rdr w' p ⟨#[]⟩ := by
  have C := readArchive_any s p w h hs
  unfold ArRd at C
  rw [hr] at C
  simp only at C
  have HX : Hid (∀ w', On p w w' → Bx w' c x y) := fun w' h9 => hx.on h9 hne
  have hcl := hx.lt
  clear h hr hx
  go_enter Tryz.func75, Tryz.ntmps75
  go_wp2_with fail
  refine C.mono ?_
  rintro e w1 ⟨G, v1, v2, rfl, O, R⟩
  obtain ⟨xd, qd, xf, qf, rfl, rfl, _⟩ := O.slices
  have X1 := HX.out _ G
  have x0 := X1.c0
  have x1 := X1.c1
  have f0 := X1.f0
  have f1 := X1.f1
  go_wp2_with fail
  go_end0
  exact ⟨rfl, _, _, w1, G, rfl, X1.set, O.set2 hcl _ _, (R.low (by omega) 0 _).low (by omega) 1 _⟩
theorem openRead_no (s : ByteArray) (c : Nat) (u : World) (hs : s.size ≤ 281474976710656) (hr : Im.rArch s = none) :
    Calls Tryz.prog 74 #[.string s, .func (.func 75) #[] #[.pointer (some ⟨c, 0, none⟩)]] u fun e w' => e = .returned (.tuple #[.int .i64 0, .bool false]) ∧ Below u.heap.size u w' := by
  obtain ⟨R, K0, K1, G, hz⟩ := w3_rdr s u
  refine (sheetRead_no _ s u (fun w0 => On (u.heap.size + 2) (W3 s u) w0) ((open1_none s (u.heap.size + 2) c (W3 s u) R hs hr).mono ?_)).mono ?_
  · rintro e w' ⟨rfl, G1⟩
    exact ⟨rfl, ⟨_, K0.on G1 (by omega)⟩, ⟨_, K1.on G1 (by omega)⟩, G1⟩
  · rintro e w' ⟨rfl, w0, G1, rfl⟩
    exact ⟨rfl, ((G.trans (G1.under (by omega) (by omega))).setCell (p := ⟨u.heap.size, 0, none⟩) (Nat.le_refl _) _).setCell (p := ⟨u.heap.size + 1, 0, none⟩) (by simp) _⟩
theorem openRead_yes (s : ByteArray) (c : Nat) (x y : Value) (a : Ar.A) (u : World) (hs : s.size ≤ 281474976710656) (hr : Im.rArch s = some a) (hx : Bx u c x y) :
    Calls Tryz.prog 74 #[.string s, .func (.func 75) #[] #[.pointer (some ⟨c, 0, none⟩)]] u fun e w' => e = .returned (.tuple #[.int .i64 (s.size : Nat), .bool true]) ∧ ∃ v1 v2, ArOwn u.heap.size w' v1 v2 a ∧ Bx w' c v1 v2 ∧ On c u w' := by
  obtain ⟨R, K0, K1, G, hz⟩ := w3_rdr s u
  have hcl := hx.lt
  refine (sheetRead_yes _ s ⟨#[]⟩ u (fun w0 => ∃ v1 v2 w1, On (u.heap.size + 2) (W3 s u) w1 ∧ w0 = (w1.setCell ⟨c, 0, none⟩ v1).setCell ⟨c, 1, none⟩ v2 ∧ Bx w0 c v1 v2 ∧ ArOwn (u.heap.size + 3) w0 v1 v2 a) hs (show 0 ≤ s.size from Nat.zero_le _) ((open1_some s (u.heap.size + 2) c x y a (W3 s u) R hs hr (hx.next G) (by omega)).mono ?_)).mono ?_
  · rintro e w' ⟨rfl, v1, v2, w1, G1, rfl, X, O, R'⟩
    rw [hz] at O
    exact ⟨rfl, R', ⟨_, ((K0.on G1 (by omega)).other (by omega) 0 _).other (by omega) 1 _⟩, ⟨_, ((K1.on G1 (by omega)).other (by omega) 0 _).other (by omega) 1 _⟩, v1, v2, w1, G1, rfl, X, O⟩
  · rintro e w' ⟨rfl, w0, ⟨v1, v2, w1, G1, rfl, X, O⟩, rfl⟩
    refine ⟨by rw [show ((⟨#[]⟩ : ByteArray).size : Int) = 0 from rfl, Int.sub_zero], v1, v2, ((O.put1 (b := u.heap.size) (by omega) 0 _).put1 (b := u.heap.size + 1) (by omega) 0 _).low (by omega), (X.other (c := u.heap.size) (by omega) 0 _).other (c := u.heap.size + 1) (by omega) 0 _, ?_⟩
    have G2 := G.trans (G1.under (lo := u.heap.size) (by omega) (by omega))
    refine ⟨G2.os, G2.tape, G2.output, ?_, fun k hk hne => ?_⟩
    · have := G2.size
      simpa [World.setCell] using this
    · have hkc : k ≠ c := fun e => hne (by rw [e])
      rw [Below.heap_setCell _ _ _ _ (by simp; omega), Below.heap_setCell _ _ _ _ (by simp; omega), Below.heap_setCell _ _ _ _ (by simpa using hkc), Below.heap_setCell _ _ _ _ (by simpa using hkc)]
      exact G2.block k hk
end Go.Proofs.YtbjbjbpgmojcbabGreat
namespace Go.Proofs.YtbjbjbpgmojcbabGreat
open Go.RowKit
theorem OkA.sane {a : Ar.A} (h : Im.OkA a) : SaneA a := by
  refine ⟨by have := h.nd; omega, by have := h.nf; omega, fun i => ?_, fun i => ?_, fun i => ?_⟩
  · by_cases hi : i < a.dicts.length
    · rw [show Tr.xa a.dicts i = a.dicts[i] by simp [Tr.xa, hi]]
      have := h.ds _ (List.getElem_mem hi)
      omega
    · rw [show Tr.xa a.dicts i = ⟨#[]⟩ by simp [Tr.xa, hi]]
      exact Nat.zero_le _
  · by_cases hi : i < a.files.length
    · rw [show Ar.fa a.files i = a.files[i] by simp [Ar.fa, hi]]
      have := (h.fs _ (List.getElem_mem hi)).1
      omega
    · rw [show Ar.fa a.files i = Ar.fz by simp [Ar.fa, hi]]
      exact Nat.zero_le _
  · by_cases hi : i < a.files.length
    · rw [show Ar.fa a.files i = a.files[i] by simp [Ar.fa, hi]]
      have := (h.fs _ (List.getElem_mem hi)).2.2.2.2
      omega
    · rw [show Ar.fa a.files i = Ar.fz by simp [Ar.fa, hi]]
      exact Nat.zero_le _
set_option maxRecDepth 8000 in
set_option maxHeartbeats 2000000 in
theorem imgOpen_any (s : ByteArray) (w : World) (hs : s.size ≤ 281474976710656) :
    Calls Tryz.prog 33 #[.string s] w fun e w' => ArSaid w (Im.opnA s) (Im.opnE s) e w' := by
  have XB := Bx.new w (.slice none 0 0) (.slice none 0 0)
  have B1 := alloc_below w (.cells #[.slice none 0 0, .slice none 0 0] 25 (0, 0))
  by_cases hbig : 16384 < s.size
  · have e1 : Im.opnA s = Ar.az := if_pos hbig
    have e2 : Im.opnE s = 2 := if_pos hbig
    rw [e1, e2]
    have d1 : decide ((16384 : Int) < (s.size : Int)) = true := decide_eq_true (by omega)
    clear XB
    go_enter Tryz.func33, Tryz.ntmps33
    go_wp2_with fail
    exact bodyPost_ret (v := .tuple #[.agg #[.slice none 0 0, .slice none 0 0], .int .i64 2]) (by simp [results, Tryz.results33, go_sem]) rfl (said_nil B1)
  · have d1 : decide ((16384 : Int) < (s.size : Int)) = false := decide_eq_false (by omega)
    have XA := Bx.new (w.alloc (.cells #[.slice none 0 0, .slice none 0 0] 25 (0, 0))) (.slice none 0 0) (.slice none 0 0)
    have GA := alloc_below (w.alloc (.cells #[.slice none 0 0, .slice none 0 0] 25 (0, 0))) (.cells #[.slice none 0 0, .slice none 0 0] 25 (0, 0))
    have XB2 := XB.next GA
    have B2 := bch B1 GA (Nat.le_refl _)
    rw [show (w.alloc (.cells #[.slice none 0 0, .slice none 0 0] 25 (0, 0))).heap.size = w.heap.size + 1 by simp] at XA
    clear XB B1 GA
    cases hr : Im.rArch s with
    | none =>
      have ho : Im.opn s = none := by unfold Im.opn; rw [hr]
      have e1 : Im.opnA s = Ar.az := by unfold Im.opnA; rw [if_neg hbig, ho]
      have e2 : Im.opnE s = 1 := by unfold Im.opnE; rw [if_neg hbig, ho]
      rw [e1, e2]
      have C := openRead_no s (w.heap.size + 1) ((w.alloc (.cells #[.slice none 0 0, .slice none 0 0] 25 (0, 0))).alloc (.cells #[.slice none 0 0, .slice none 0 0] 25 (0, 0))) hs hr
      clear hr ho
      go_enter Tryz.func33, Tryz.ntmps33
      go_wp2_with fail
      generalize ((w.alloc (.cells #[.slice none 0 0, .slice none 0 0] 25 (0, 0))).alloc (.cells #[.slice none 0 0, .slice none 0 0] 25 (0, 0))) = w2 at *
      refine C.mono ?_
      rintro e w3 ⟨rfl, G⟩
      have X3 := XB2.next G
      have B3 := bch B2 G (Nat.le_refl _)
      clear XB2 XA B2 G C
      have X5 := X3.set (u := .slice none 0 0) (v := .slice none 0 0)
      have B5 := below_set2 B3 (b := w.heap.size) (Nat.le_refl _) (.slice none 0 0) (.slice none 0 0)
      have x0 := X3.c0
      have x1 := X3.c1
      have f0 := X3.f0
      have f1 := X3.f1
      go_wp2_with fail
      clear x0 x1 f0 f1
      have x0 := X5.c0
      have x1 := X5.c1
      generalize ((w3.setCell ⟨w.heap.size, 0, none⟩ (.slice none 0 0)).setCell ⟨w.heap.size, 1, none⟩ (.slice none 0 0)) = wz at *
      exact bodyPost_ret (v := .tuple #[.agg #[.slice none 0 0, .slice none 0 0], .int .i64 1]) (by simp [results, Tryz.results33, go_sem, x0, x1]) rfl (said_nil B5)
    | some a =>
      have hok := ((Im.rArch_is s a).1 hr).1
      have hsa := OkA.sane hok
      have C := openRead_yes s (w.heap.size + 1) _ _ a _ hs hr XA
      have hnd := hok.nd
      have hnf := hok.nf
      by_cases hk : Ar.chk a = 0
      · have ho : Im.opn s = some a := by unfold Im.opn; rw [hr]; exact if_pos hk
        have e1 : Im.opnA s = a := by unfold Im.opnA; rw [if_neg hbig, ho]
        have e2 : Im.opnE s = 0 := by unfold Im.opnE; rw [if_neg hbig, ho]
        rw [e1, e2]
        clear hr ho hok e1 e2
        go_enter Tryz.func33, Tryz.ntmps33
        go_wp2_with fail
        generalize ((w.alloc (.cells #[.slice none 0 0, .slice none 0 0] 25 (0, 0))).alloc (.cells #[.slice none 0 0, .slice none 0 0] 25 (0, 0))) = w2 at *
        refine C.mono ?_
        rintro e w3 ⟨rfl, v1, v2, O, XA3, G⟩
        have XB3 := XB2.on G (by omega)
        have hw2 := XA.lt
        have B3 := B2.trans (G.under (lo := w.heap.size) (by omega) (by omega))
        obtain ⟨xd, qd, xf, qf, rfl, rfl, hv⟩ := O.slices
        have CK := archCheck_any xd xf qd qf a w3 hv hsa
        rw [hk] at CK
        unfold av at CK
        have HO : Hid (∀ w', Below w3.heap.size w3 w' → ArOwn w2.heap.size w' (.slice xd a.dicts.length qd) (.slice xf a.files.length qf) a) := fun w' h9 => O.next h9
        generalize a.dicts.length = D at *
        generalize a.files.length = N at *
        have k0 := XA3.c0
        have k1 := XA3.c1
        clear C O XB2 XA
        go_wp2_with fail
        refine CK.mono ?_
        rintro e w4 ⟨rfl, G4⟩
        have XA4 := XA3.next G4
        have XB4 := XB3.next G4
        have B4 := bch B3 G4 (Nat.le_refl _)
        have O4 := (HO.out _ G4)
        clear k0 k1 CK HO
        have k0 := XA4.c0
        have k1 := XA4.c1
        have x0 := XB4.c0
        have x1 := XB4.c1
        have f0 := XB4.f0
        have f1 := XB4.f1
        have X5 := XB4.set (u := .slice xd D qd) (v := .slice xf N qf)
        have B5 := below_set2 B4 (b := w.heap.size) (Nat.le_refl _) (.slice xd D qd) (.slice xf N qf)
        have O5 := (O4.set2 (b := w.heap.size) (by omega) (.slice xd D qd) (.slice xf N qf)).low (lo' := w.heap.size) (by omega)
        have hfin : ArSaid w a 0 (.returned (.tuple #[.agg #[.slice xd D qd, .slice xf N qf], .int .i64 0])) _ := ⟨_, _, rfl, O5, B5⟩
        clear O4 O5 B4 B5 XA4 XA3 XB3 B3
        go_wp2_with fail
        clear k0 k1 x0 x1 f0 f1
        have x0 := X5.c0
        have x1 := X5.c1
        generalize ((w4.setCell ⟨w.heap.size, 0, none⟩ (.slice xd D qd)).setCell ⟨w.heap.size, 1, none⟩ (.slice xf N qf)) = wz at *
        exact bodyPost_ret (v := .tuple #[.agg #[.slice xd D qd, .slice xf N qf], .int .i64 0]) (by simp [results, Tryz.results33, go_sem, x0, x1]) rfl hfin
      · have ho : Im.opn s = none := by unfold Im.opn; rw [hr]; exact if_neg hk
        have e1 : Im.opnA s = Ar.az := by unfold Im.opnA; rw [if_neg hbig, ho]
        have e2 : Im.opnE s = 1 := by unfold Im.opnE; rw [if_neg hbig, ho]
        rw [e1, e2]
        have dk : (Ar.chk a == 0) = false := by simpa using hk
        clear hr ho hok e1 e2
        go_enter Tryz.func33, Tryz.ntmps33
        go_wp2_with fail
        generalize ((w.alloc (.cells #[.slice none 0 0, .slice none 0 0] 25 (0, 0))).alloc (.cells #[.slice none 0 0, .slice none 0 0] 25 (0, 0))) = w2 at *
        refine C.mono ?_
        rintro e w3 ⟨rfl, v1, v2, O, XA3, G⟩
        have XB3 := XB2.on G (by omega)
        have hw2 := XA.lt
        have B3 := B2.trans (G.under (lo := w.heap.size) (by omega) (by omega))
        obtain ⟨xd, qd, xf, qf, rfl, rfl, hv⟩ := O.slices
        have CK := archCheck_any xd xf qd qf a w3 hv hsa
        unfold av at CK
        generalize Ar.chk a = ck at *
        have HO : Hid (∀ w', Below w3.heap.size w3 w' → ArOwn w2.heap.size w' (.slice xd a.dicts.length qd) (.slice xf a.files.length qf) a) := fun w' h9 => O.next h9
        generalize a.dicts.length = D at *
        generalize a.files.length = N at *
        have k0 := XA3.c0
        have k1 := XA3.c1
        clear C O XB2 XA
        go_wp2_with fail
        refine CK.mono ?_
        rintro e w4 ⟨rfl, G4⟩
        have XA4 := XA3.next G4
        have XB4 := XB3.next G4
        have B4 := bch B3 G4 (Nat.le_refl _)
        have O4 := (HO.out _ G4)
        clear k0 k1 CK HO
        have X5 := XB4.set (u := .slice none 0 0) (v := .slice none 0 0)
        have B5 := below_set2 B4 (b := w.heap.size) (Nat.le_refl _) (.slice none 0 0) (.slice none 0 0)
        have x0 := XB4.c0
        have x1 := XB4.c1
        have f0 := XB4.f0
        have f1 := XB4.f1
        go_wp2_with fail
        clear x0 x1 f0 f1
        have x0 := X5.c0
        have x1 := X5.c1
        generalize ((w4.setCell ⟨w.heap.size, 0, none⟩ (.slice none 0 0)).setCell ⟨w.heap.size, 1, none⟩ (.slice none 0 0)) = wz at *
        exact bodyPost_ret (v := .tuple #[.agg #[.slice none 0 0, .slice none 0 0], .int .i64 1]) (by simp [results, Tryz.results33, go_sem, x0, x1]) rfl (said_nil B5)
end Go.Proofs.YtbjbjbpgmojcbabGreat
namespace Go.Proofs.YtbjbjbpgmojcbabGreat
open Go.RowKit
structure Ey (w : World) (p : Nat) (s : ByteArray) (b : Bool) : Prop where
  c0 : w.cell? ⟨p, 0, none⟩ = some (.string s)
  c1 : w.cell? ⟨p, 1, none⟩ = some (.bool b)
  f0 : w.frozen? ⟨p, 0, none⟩ = false
  f1 : w.frozen? ⟨p, 1, none⟩ = false
theorem Ey.lt {w : World} {p : Nat} {s : ByteArray} {b : Bool} (h : Ey w p s b) : p < w.heap.size := World.block_lt_of_cell? w _ h.c0
theorem Ey.lo {w w' : World} {p lo : Nat} {s : ByteArray} {b : Bool} (h : Ey w p s b) (G : Below lo w w') (hp : p < lo) : Ey w' p s b := ⟨(G.cell (p := ⟨p, 0, none⟩) hp).trans h.c0, (G.cell (p := ⟨p, 1, none⟩) hp).trans h.c1, (G.frozen (p := ⟨p, 0, none⟩) hp).trans h.f0, (G.frozen (p := ⟨p, 1, none⟩) hp).trans h.f1⟩
theorem Ey.below {w w' : World} {p : Nat} {s : ByteArray} {b : Bool} (h : Ey w p s b) (G : Below w.heap.size w w') : Ey w' p s b := h.lo G h.lt
theorem Ey.set0 {w : World} {p : Nat} {s : ByteArray} {b : Bool} (h : Ey w p s b) (t : ByteArray) : Ey (w.setCell ⟨p, 0, none⟩ (.string t)) p t b :=
  ⟨World.cell?_setCell_same _ _ _ h.c0, (World.cell?_setCell_other _ _ _ _ (by intro e; have := congrArg Addr.off e; simp at this)).trans h.c1, by rw [World.frozen?_setCell]; exact h.f0, by rw [World.frozen?_setCell]; exact h.f1⟩
theorem Ey.set1 {w : World} {p : Nat} {s : ByteArray} {b : Bool} (h : Ey w p s b) (c : Bool) : Ey (w.setCell ⟨p, 1, none⟩ (.bool c)) p s c :=
  ⟨(World.cell?_setCell_other _ _ _ _ (by intro e; have := congrArg Addr.off e; simp at this)).trans h.c0, World.cell?_setCell_same _ _ _ h.c1, by rw [World.frozen?_setCell]; exact h.f0, by rw [World.frozen?_setCell]; exact h.f1⟩
theorem Ey.low {w : World} {p q : Nat} {s : ByteArray} {b : Bool} (h : Ey w p s b) (hne : p ≠ q) (o : Nat) (v : Value) : Ey (w.setCell ⟨q, o, none⟩ v) p s b :=
  ⟨(World.cell?_setCell_other _ _ _ _ (by intro e; have := congrArg Addr.block e; simp at this; omega)).trans h.c0, (World.cell?_setCell_other _ _ _ _ (by intro e; have := congrArg Addr.block e; simp at this; omega)).trans h.c1, by rw [World.frozen?_setCell]; exact h.f0, by rw [World.frozen?_setCell]; exact h.f1⟩
theorem Ey.new (w : World) (T : TypeId) (s : ByteArray) (b : Bool) : Ey (w.alloc (.cells #[.string s, .bool b] T (0, 0))) w.heap.size s b :=
  ⟨World.cell?_alloc_new _ _ _ 0, World.cell?_alloc_new _ _ _ 1, World.frozen?_alloc_at _ _ _ _ rfl, World.frozen?_alloc_at _ _ _ _ rfl⟩
theorem On.put {p : Nat} {w w' : World} (h : On p w w') (o : Nat) (v : Value) : On p w (w'.setCell ⟨p, o, none⟩ v) := h.trans (setCell_grown w' ⟨p, o, none⟩ v)
set_option maxRecDepth 4000 in
set_option maxHeartbeats 1000000 in
theorem eyeNum_any (s : ByteArray) (b : Bool) (p : Nat) (w : World) (h : Ey w p s b) (hs : s.size ≤ 281474976710656) :
    Calls Tryz.prog 77 #[.pointer (some ⟨p, 0, none⟩)] w fun e w' => e = .returned (.int .i64 ((Im.eNum (s, b)).1 : Nat)) ∧ On p w w' ∧ Ey w' p (Im.eNum (s, b)).2.1 (Im.eNum (s, b)).2.2 := by
  have C1 := numFrom_any s w hs
  have c0 := h.c0
  have HB : Hid (∀ w', Below w.heap.size w w' → Ey w' p s b) := fun w' h9 => h.below h9
  unfold Im.eNum
  dsimp only
  generalize Nm.num s = n at *
  generalize Nm.rest s = r at *
  generalize Nm.is s = i at *
  clear h hs
  cases b <;> cases i
  all_goals
    simp only [Bool.not_true, Bool.not_false, Bool.or_true, Bool.or_false]
    go_enter Tryz.func77, Tryz.ntmps77
    go_wp2_with fail
    refine C1.mono ?_
    rintro e w1 ⟨rfl, G⟩
    have E1 := HB.out _ G
    have c1 := E1.c1
    have f1 := E1.f1
  · have E2 := E1.set1 true
    have k0 := E2.c0
    have z0 := E2.f0
    go_wp2_with fail
    go_ret
    exact ⟨rfl, ((On.of G).put _ _).put _ _, E2.set0 _⟩
  · have E2 := E1.set1 false
    have k0 := E2.c0
    have z0 := E2.f0
    go_wp2_with fail
    go_ret
    exact ⟨rfl, ((On.of G).put _ _).put _ _, E2.set0 _⟩
  · have E2 := E1.set1 true
    have k0 := E2.c0
    have z0 := E2.f0
    go_wp2_with fail
    go_ret
    exact ⟨rfl, ((On.of G).put _ _).put _ _, E2.set0 _⟩
  · have E2 := E1.set1 true
    have k0 := E2.c0
    have z0 := E2.f0
    go_wp2_with fail
    go_ret
    exact ⟨rfl, ((On.of G).put _ _).put _ _, E2.set0 _⟩
namespace Im
theorem eNum_le (s : ByteArray) (b : Bool) : (eNum (s, b)).1 ≤ 2147483647 ∧ (eNum (s, b)).2.1.size ≤ s.size := by
  cases h : rNum s with
  | none => rw [eNum_none h]; exact ⟨by omega, by show 0 ≤ _; omega⟩
  | some x =>
    obtain ⟨n, r⟩ := x
    rw [eNum_some h]
    exact ⟨((rNum_is s n r).1 h).1, rd_le rNum_is h⟩
theorem eTxt_le (s : ByteArray) (b : Bool) : (eTxt (s, b)).1.size ≤ s.size ∧ (eTxt (s, b)).2.1.size ≤ s.size := by
  have h := (eNum_le s b).2
  unfold eTxt
  split
  · exact ⟨by show 0 ≤ _; omega, h⟩
  · exact ⟨by simp; omega, by simp; omega⟩
end Im
set_option maxRecDepth 4000 in
set_option maxHeartbeats 1000000 in
theorem eyeText_any (s : ByteArray) (b : Bool) (p : Nat) (w : World) (h : Ey w p s b) (hs : s.size ≤ 281474976710656) :
    Calls Tryz.prog 78 #[.pointer (some ⟨p, 0, none⟩)] w fun e w' => e = .returned (.string (Im.eTxt (s, b)).1) ∧ On p w w' ∧ Ey w' p (Im.eTxt (s, b)).2.1 (Im.eTxt (s, b)).2.2 := by
  have C1 := eyeNum_any s b p w h hs
  obtain ⟨l1, l2⟩ := Im.eNum_le s b
  clear h
  by_cases hlt : (Im.eNum (s, b)).2.1.size < (Im.eNum (s, b)).1
  · have e1 : Im.eTxt (s, b) = (⟨#[]⟩, (Im.eNum (s, b)).2.1, true) := by unfold Im.eTxt; rw [if_pos hlt]
    rw [e1]
    clear e1
    dsimp only
    generalize (Im.eNum (s, b)).1 = n at *
    generalize (Im.eNum (s, b)).2.1 = r at *
    generalize (Im.eNum (s, b)).2.2 = c at *
    have d1 : decide ((n : Int) > (r.size : Int)) = true := decide_eq_true (by omega)
    have d1' : decide (r.size < n) = true := decide_eq_true hlt
    have d1'' : decide ((r.size : Int) < (n : Int)) = true := decide_eq_true (by omega)
    go_enter Tryz.func78, Tryz.ntmps78
    go_wp2_with fail
    refine C1.mono ?_
    rintro e w1 ⟨rfl, G, E1⟩
    have k0 := E1.c0
    have k1 := E1.c1
    have f1 := E1.f1
    go_wp2_with fail
    go_ret
    exact ⟨rfl, G.put _ _, E1.set1 _⟩
  · have e1 : Im.eTxt (s, b) = ((Im.eNum (s, b)).2.1.extract 0 (Im.eNum (s, b)).1, (Im.eNum (s, b)).2.1.extract (Im.eNum (s, b)).1 (Im.eNum (s, b)).2.1.size, (Im.eNum (s, b)).2.2) := by unfold Im.eTxt; rw [if_neg hlt]
    rw [e1]
    clear e1
    dsimp only
    generalize (Im.eNum (s, b)).1 = n at *
    generalize (Im.eNum (s, b)).2.1 = r at *
    generalize (Im.eNum (s, b)).2.2 = c at *
    have d1 : decide ((n : Int) > (r.size : Int)) = false := decide_eq_false (by omega)
    have d1' : decide (r.size < n) = false := decide_eq_false hlt
    have d1'' : decide ((r.size : Int) < (n : Int)) = false := decide_eq_false (by omega)
    have hle : n ≤ r.size := by omega
    have hli : (n : Int) ≤ (r.size : Int) := by omega
    go_enter Tryz.func78, Tryz.ntmps78
    go_wp2_with fail
    refine C1.mono ?_
    rintro e w1 ⟨rfl, G, E1⟩
    have k0 := E1.c0
    have f0 := E1.f0
    go_wp2_with fail
    go_ret
    exact ⟨rfl, G.put _ _, E1.set0 _⟩
end Go.Proofs.YtbjbjbpgmojcbabGreat
namespace Go.Proofs.YtbjbjbpgmojcbabGreat
namespace Im
theorem eMany_go {α : Type} {p : E → α × E} {m k : Nat} {e : E} {l : List α} {r : ByteArray} (h : eMany p m k e = (l, (r, false))) (hl : l.length ≤ m) : eMany p m (k + 1) e = (l ++ [(p (r, false)).1], (p (r, false)).2) := by
  rw [eMany, h, if_neg (by rintro (h9 | h9) <;> simp only at h9 <;> first | (cases h9; done) | omega)]
theorem eMany_fin {α : Type} {p : E → α × E} {m k n : Nat} {e : E} {l : List α} {r : ByteArray} {b : Bool} (h : eMany p m k e = (l, (r, b))) (hk : k ≤ n) (hs : k = n ∨ b = true ∨ m < l.length) : eMany p m n e = (l, (r, b)) := by
  rcases hs with rfl | hs
  · exact h
  · have h9 := eMany_idle (p := p) (m := m) (k := k) (e := e) (by rw [h]; exact hs) (n - k)
    rw [show k + (n - k) = n by omega] at h9
    rw [h9, h]
theorem eFile_at {r q1 q2 q3 q4 q5 nm bk : ByteArray} {b c1 c2 c3 c4 c5 : Bool} {d z u : Nat} (h0 : eTxt (r, b) = (nm, (q1, c1))) (h1 : eNum (q1, c1) = (d, (q2, c2))) (h2 : eNum (q2, c2) = (z, (q3, c3))) (h3 : eNum (q3, c3) = (u, (q4, c4))) (h4 : eTxt (q4, c4) = (bk, (q5, c5))) :
    eFile (r, b) = (⟨nm, (d : Nat), (z : Nat), (u : Nat), bk⟩, (q5, c5)) := by
  unfold eFile
  simp only [h0, h1, h2, h3, h4]
theorem eArch_at {s r1 r2 r3 r4 : ByteArray} {b1 b2 b3 b4 : Bool} {n m : Nat} {ds : List ByteArray} {fs : List Ar.F} (h0 : eNum (s.extract 5 s.size, false) = (n, (r1, b1))) (h1 : eMany eTxt 4 n (r1, b1) = (ds, (r2, b2))) (h2 : eNum (r2, b2) = (m, (r3, b3))) (h3 : eMany eFile 12 m (r3, b3) = (fs, (r4, b4))) :
    eArch s = (⟨ds, fs⟩, (r4, b4)) := by
  unfold eArch
  simp only [h0, h1, h2, h3]
def frmA (s : ByteArray) : Ar.A := match opn s with | none => Ar.az | some a => a
def frmB (s : ByteArray) : Bool := (opn s).isSome
theorem opn_is {s : ByteArray} {a : Ar.A} : opn s = some a ↔ (Ar.chk a = 0 ∧ img a = s) := by
  unfold opn
  constructor
  · intro h
    cases hr : rArch s with
    | none => rw [hr] at h; cases h
    | some x =>
      rw [hr] at h
      simp only at h
      split at h
      · simp only [Option.some.injEq] at h
        subst h
        obtain ⟨_, h2⟩ := (rArch_is s x).1 hr
        exact ⟨by assumption, Nm.ba_ext (by rw [img_list, h2])⟩
      · cases h
  · rintro ⟨h1, h2⟩
    rw [(rArch_is s a).2 ⟨(chk_ok h1).1, by rw [← h2, img_list]⟩]
    simp only [if_pos h1]
theorem img_mark (a : Ar.A) : (img a).data.toList.take 5 = mrk := by
  rw [img_list]
  rfl
theorem frm_none {s : ByteArray} (h : opn s = none) : frmA s = Ar.az ∧ frmB s = false := by
  unfold frmA frmB
  rw [h]
  exact ⟨rfl, rfl⟩
theorem frm_short {s : ByteArray} (h : s.data.toList.take 5 ≠ mrk) : frmA s = Ar.az ∧ frmB s = false := by
  apply frm_none
  cases ho : opn s with
  | none => rfl
  | some a =>
    obtain ⟨_, h2⟩ := opn_is.1 ho
    exact absurd (by rw [← h2]; exact img_mark a) h
theorem frm_bad {s r : ByteArray} {a : Ar.A} {b : Bool} (h : eArch s = (a, (r, b))) (hb : b = true ∨ Ar.chk a ≠ 0 ∨ img a ≠ s) : frmA s = Ar.az ∧ frmB s = false := by
  apply frm_none
  cases ho : opn s with
  | none => rfl
  | some x =>
    obtain ⟨h1, h2⟩ := opn_is.1 ho
    obtain ⟨k1, k2⟩ := eArch_some (s := s) (chk_ok h1).1 (by rw [← h2, img_list])
    rw [h] at k1 k2
    simp only at k1 k2
    subst k1
    rcases hb with hb | hb | hb
    · rw [k2] at hb; cases hb
    · exact absurd h1 hb
    · exact absurd h2 hb
theorem frm_good {s : ByteArray} {a : Ar.A} (h1 : Ar.chk a = 0) (h2 : img a = s) : frmA s = a ∧ frmB s = true := by
  unfold frmA frmB
  rw [opn_is.2 ⟨h1, h2⟩]
  exact ⟨rfl, rfl⟩
def Lt (k : Nat) (l : List ByteArray) : Prop := ∀ d ∈ l, d.size ≤ k
def Lf (k : Nat) (l : List Ar.F) : Prop := ∀ f ∈ l, f.name.size ≤ k ∧ f.blk.size ≤ k
theorem Lt.snoc {k : Nat} {l : List ByteArray} (h : Lt k l) {x : ByteArray} (hx : x.size ≤ k) : Lt k (l ++ [x]) := fun d hd => by
  rcases List.mem_append.1 hd with hd | hd
  · exact h d hd
  · rw [List.mem_singleton.1 hd]; exact hx
theorem Lf.snoc {k : Nat} {l : List Ar.F} (h : Lf k l) {x : Ar.F} (hx : x.name.size ≤ k ∧ x.blk.size ≤ k) : Lf k (l ++ [x]) := fun d hd => by
  rcases List.mem_append.1 hd with hd | hd
  · exact h d hd
  · rw [List.mem_singleton.1 hd]; exact hx
end Im
theorem sane_eye {k : Nat} {ds : List ByteArray} {fs : List Ar.F} (h1 : Im.Lt k ds) (h2 : Im.Lf k fs) (hk : k ≤ 140737488355328) (hd : ds.length ≤ 5) (hf : fs.length ≤ 13) : SaneA ⟨ds, fs⟩ :=
  sane_of (a := ⟨ds, fs⟩) (by show ds.length ≤ _; omega) (by show fs.length ≤ _; omega) (fun d hd => Nat.le_trans (h1 d hd) hk) (fun f hf => ⟨Nat.le_trans (h2 f hf).1 hk, Nat.le_trans (h2 f hf).2 hk⟩)
end Go.Proofs.YtbjbjbpgmojcbabGreat
namespace Go.Proofs.YtbjbjbpgmojcbabGreat
open Go.RowKit
set_option maxRecDepth 4000 in
set_option maxHeartbeats 2000000 in
theorem same_any (ad af ad' af' : Option Addr) (cd cf cd' cf' : Nat) (a : Ar.A) (w : World) (h : ArV w ad af a) (h' : ArV w ad' af' a) (hD : a.dicts.length ≤ 8796093022208) (hN : a.files.length ≤ 8796093022208) :
    Calls Tryz.prog 20 #[av ad cd af cf a, av ad' cd' af' cf' a] w fun e w' => e = .returned (.bool true) ∧ Below w.heap.size w w' := by
  have hb := fun o p => ((Below.refl w.heap.size w).alloc (Nat.le_refl _) o).alloc (by simp) p
  have HX : Hid (∀ w', Below w.heap.size w w' → ∀ k, k < a.dicts.length → ∃ b off, ad = some ⟨b, off, none⟩ ∧ b < w'.heap.size ∧ w'.cell? ⟨b, off + k, none⟩ = some (.string (Tr.xa a.dicts k))) := fun w' hb k hk => (h.ds.below hb).at hk
  have HX' : Hid (∀ w', Below w.heap.size w w' → ∀ k, k < a.dicts.length → ∃ b off, ad' = some ⟨b, off, none⟩ ∧ b < w'.heap.size ∧ w'.cell? ⟨b, off + k, none⟩ = some (.string (Tr.xa a.dicts k))) := fun w' hb k hk => (h'.ds.below hb).at hk
  have HF : Hid (∀ w', Below w.heap.size w w' → ∀ k, k < a.files.length → ∃ b off, af = some ⟨b, off, none⟩ ∧ b < w'.heap.size ∧ FlC w' b (off + k * 5) (Ar.fa a.files k)) := fun w' h9 k hk => (h.fs.below h9).at hk
  have HF' : Hid (∀ w', Below w.heap.size w w' → ∀ k, k < a.files.length → ∃ b off, af' = some ⟨b, off, none⟩ ∧ b < w'.heap.size ∧ FlC w' b (off + k * 5) (Ar.fa a.files k)) := fun w' h9 k hk => (h'.fs.below h9).at hk
  unfold av
  clear h h'
  generalize a.dicts.length = D at *
  generalize a.files.length = N at *
  have hDi : (D : Int) ≤ 8796093022208 := by omega
  have hNi : (N : Int) ≤ 8796093022208 := by omega
  go_enter Tryz.func20, Tryz.ntmps20
  go_wp2_with fail
  obtain ⟨k1, k2⟩ := box2 w #[.slice ad D cd, .slice af N cf] #[.slice ad' D cd', .slice af' N cf'] 25 25
  have B1 := hb (.cells #[.slice ad D cd, .slice af N cf] 25 (0, 0)) (.cells #[.slice ad' D cd', .slice af' N cf'] 25 (0, 0))
  generalize ((w.alloc (.cells #[.slice ad D cd, .slice af N cf] 25 (0, 0))).alloc (.cells #[.slice ad' D cd', .slice af' N cf'] 25 (0, 0))) = w1 at *
  have a0 : w1.cell? ⟨w.heap.size, 0, none⟩ = some (.slice ad D cd) := k1 0
  have a1 : w1.cell? ⟨w.heap.size, 1, none⟩ = some (.slice af N cf) := k1 1
  have b0 : w1.cell? ⟨w.heap.size + 1, 0, none⟩ = some (.slice ad' D cd') := k2 0
  have b1 : w1.cell? ⟨w.heap.size + 1, 1, none⟩ = some (.slice af' N cf') := k2 1
  clear k1 k2
  go_loopw [5] (fun i wr => ∃ k : Nat, k ≤ D ∧ i = .int .i64 k ∧ (∀ p, wr.cell? p = w1.cell? p) ∧ Below w.heap.size w wr) (fun i _ => D - (intOf i).toNat)
  case atStart => exact ⟨0, by omega, rfl, fun _ => rfl, B1⟩
  case round =>
    obtain ⟨k, hk2, rfl, hsame, B2⟩ := hrel
    have a0' := (hsame _).trans a0
    have b0' := (hsame _).trans b0
    have a1' := (hsame _).trans a1
    have b1' := (hsame _).trans b1
    by_cases hlt : k < D
    · have d1 : decide ((k : Int) < (D : Int)) = true := by simp; omega
      have d1' : decide (k < D) = true := by simp; omega
      have hki : (k : Int) < (D : Int) := by omega
      obtain ⟨b, off, rfl, hbl, hc⟩ := HX.out wr B2 k hlt
      obtain ⟨b', off', rfl, hbl', hc'⟩ := HX'.out wr B2 k hlt
      have HSm : Hid (∀ p, wr.cell? p = w1.cell? p) := hsame
      clear hsame
      generalize Tr.xa a.dicts k = X at *
      go_wp2_with fail
      go_region
      all_goals
        go_wp2_with fail
        go_roundw
        case rel => exact ⟨k + 1, by omega, by go_num, fun p => HSm.out p, B2.drew⟩
        case measure => simp [intOf]; omega
    · obtain rfl : k = D := by omega
      have d1 : decide ((k : Int) < (k : Int)) = false := by simp
      have HSm : Hid (∀ p, wr.cell? p = w1.cell? p) := hsame
      clear hsame
      go_wp2_with fail
      go_loopw [6] (fun i w2 => ∃ m : Nat, m ≤ N ∧ i = .int .i64 m ∧ (∀ p, w2.cell? p = w1.cell? p) ∧ Below w.heap.size w w2) (fun i _ => N - (intOf i).toNat)
      case atStart => exact ⟨0, by omega, rfl, HSm.out, B2⟩
      case round =>
        obtain ⟨m, hm2, rfl, hsame2, B3⟩ := hrel
        have a2 := (hsame2 _).trans a1
        have b2 := (hsame2 _).trans b1
        have HSm2 : Hid (∀ p, World.cell? _ p = w1.cell? p) := hsame2
        clear hsame2 a0' b0' a1' b1'
        by_cases hlt : m < N
        · have d2 : decide ((m : Int) < (N : Int)) = true := by simp; omega
          have d2' : decide (m < N) = true := by simp; omega
          have hmi : (m : Int) < (N : Int) := by omega
          obtain ⟨b, off, rfl, hbl, hcell⟩ := HF.out _ B3 m hlt
          obtain ⟨c0, c1, c2, c3, c4⟩ := hcell
          obtain ⟨b', off', rfl, hbl', hcell'⟩ := HF'.out _ B3 m hlt
          obtain ⟨e0, e1, e2, e3, e4⟩ := hcell'
          generalize (Ar.fa a.files m).name = f0 at *
          generalize (Ar.fa a.files m).dict = f1 at *
          generalize (Ar.fa a.files m).size = f2 at *
          generalize (Ar.fa a.files m).sum = f3 at *
          generalize (Ar.fa a.files m).blk = f4 at *
          go_wp2_with fail
          go_region
          all_goals
            go_wp2_with fail
            go_roundw
            case rel => exact ⟨m + 1, by omega, by go_num, fun p => HSm2.out p, B3.drew⟩
            case measure => simp [intOf]; omega
        · obtain rfl : m = N := by omega
          have d2 : decide ((m : Int) < (m : Int)) = false := by simp
          go_wp2_with fail
          go_ret
          exact ⟨rfl, B3⟩
end Go.Proofs.YtbjbjbpgmojcbabGreat
namespace Go.Proofs.YtbjbjbpgmojcbabGreat
open Go.RowKit
set_option maxRecDepth 4000 in
set_option maxHeartbeats 2000000 in
theorem imageBegun_from (A : Ar.A) (T : ByteArray) (w : World)
    (C0 : Hid (∀ w', Below w.heap.size w w' → Calls Tryz.prog 60 #[] w' fun e w2 => TwoSaid A w' e w2))
    (CS : Hid (∀ w' ad cd af cf, ArV w' ad af A → Calls Tryz.prog 31 #[av ad cd af cf A] w' fun e w2 => e = .returned (.tuple #[.string T, .int .i64 0]) ∧ Below w'.heap.size w' w2))
    (CO : Hid (∀ w', Calls Tryz.prog 33 #[.string T] w' fun e w2 => ArSaid w' A 0 e w2))
    (CP : Hid (∀ w', Calls Tryz.prog 33 #[.string ⟨#[112, 114, 101, 115, 115]⟩] w' fun e w2 => ArSaid w' Ar.az 1 e w2))
    (CE : Hid (∀ w' x y p q x' y' p' q', ArV w' x y A → ArV w' x' y' A → Calls Tryz.prog 20 #[av x p y q A, av x' p' y' q' A] w' fun e w2 => e = .returned (.bool true) ∧ Below w'.heap.size w' w2)) :
    Calls Tryz.prog 34 #[] w fun e w' => e = .returned (.bool true) ∧ Below w.heap.size w w' := by
  have HT : Hid (∀ (w : World) (e : Ending) (w' : World), TwoSaid A w e w' → ∃ ad cd af cf, e = .returned (.agg #[.slice ad A.dicts.length cd, .slice af A.files.length cf]) ∧ ArV w' ad af A ∧ Below w.heap.size w w') := fun _ _ _ h => h
  have O1 : Hid (∀ (w : World) (e : Ending) (w' : World), ArSaid w A 0 e w' → ∃ ad cd af cf, e = .returned (.tuple #[.agg #[.slice ad A.dicts.length cd, .slice af A.files.length cf], .int .i64 0]) ∧ ArV w' ad af A ∧ Below w.heap.size w w') := fun _ _ _ h => h.open
  have O2 : Hid (∀ (w : World) (e : Ending) (w' : World), ArSaid w Ar.az 1 e w' → ∃ ad cd af cf, e = .returned (.tuple #[.agg #[.slice ad 0 cd, .slice af 0 cf], .int .i64 1]) ∧ ArV w' ad af Ar.az ∧ Below w.heap.size w w') := fun _ _ _ h => h.open
  unfold av at CS CE
  generalize A.dicts.length = D at *
  generalize A.files.length = N at *
  go_enter Tryz.func34, Tryz.ntmps34
  go_wp2_with fail
  refine (C0.out _ (Below.refl _ _)).mono ?_
  intro e w1 h1
  obtain ⟨ad, cd, af, cf, rfl, V1, B1⟩ := HT.out _ _ _ h1
  clear h1
  go_wp2_with fail
  refine (CS.out _ _ _ _ _ V1).mono ?_
  rintro e w2 ⟨rfl, G⟩
  have B2 := bch B1 G (Nat.le_refl _)
  clear G B1 V1 CS
  go_wp2_with fail
  refine (CO.out _).mono ?_
  intro e w3 h1
  obtain ⟨xA, pA, yA, qA, rfl, V3, G⟩ := O1.out _ _ _ h1
  have GA := alloc_below w3 (.cells #[.slice xA D pA, .slice yA N qA] 25 (0, 0))
  have X3 := Bx.new w3 (.slice xA D pA) (.slice yA N qA)
  have V4 := V3.below GA
  have B3 := bch (bch B2 G (Nat.le_refl _)) GA (Nat.le_refl _)
  clear h1 G B2 V3 CO GA
  go_wp2_with fail
  generalize (w3.alloc (.cells #[.slice xA D pA, .slice yA N qA] 25 (0, 0))) = u3 at *
  generalize w3.heap.size = bA at *
  refine (CP.out _).mono ?_
  intro e w4 h1
  obtain ⟨xP, pP, yP, qP, rfl, _, G⟩ := O2.out _ _ _ h1
  have GA := alloc_below w4 (.cells #[.slice xP 0 pP, .slice yP 0 qP] 25 (0, 0))
  have X4 := (X3.next G).next GA
  have V5 := (V4.below G).below GA
  have B4 := bch (bch B3 G (Nat.le_refl _)) GA (Nat.le_refl _)
  clear h1 G B3 V4 CP GA X3
  go_wp2_with fail
  generalize (w4.alloc (.cells #[.slice xP 0 pP, .slice yP 0 qP] 25 (0, 0))) = u4 at *
  have HS : Hid (∀ w', Below u4.heap.size u4 w' → w'.cell? ⟨bA, 0, none⟩ = some (.slice xA D pA) ∧ w'.cell? ⟨bA, 1, none⟩ = some (.slice yA N qA)) := fun w' h9 => ⟨(X4.next h9).c0, (X4.next h9).c1⟩
  have D0 : Hid (∀ w', Below u4.heap.size u4 w' → Calls Tryz.prog 60 #[] w' fun e w2 => TwoSaid A w' e w2) := fun w' h9 => C0.out w' (bch B4 h9 (Nat.le_refl _))
  have D1 : Hid (∀ w' x y p q, Below u4.heap.size u4 w' → ArV w' x y A → Calls Tryz.prog 20 #[.agg #[.slice xA D pA, .slice yA N qA], .agg #[.slice x D p, .slice y N q]] w' fun e w2 => e = .returned (.bool true) ∧ Below w'.heap.size w' w2) := fun w' x y p q h9 hv => CE.out w' _ _ _ _ _ _ _ _ (V5.below h9) hv
  clear X4 V5 C0 CE
  go_region_held3 (fun w' => w'.cell? ⟨bA, 0, none⟩ = some (.slice xA D pA) ∧ w'.cell? ⟨bA, 1, none⟩ = some (.slice yA N qA))
    (first | (exact HS.out _ ((Below.refl _ _).drew)) | (exact HS.out _ E1) | (exact HS.out _ E2))
    (first
      | (go_at_call 60; refine (D0.out _ ((Below.refl _ _).drew)).mono ?_; intro e t1 h1; obtain ⟨x9, p9, y9, q9, rfl, V9, G1⟩ := HT.out _ _ _ h1; have E1 : Below u4.heap.size u4 t1 := bch ((Below.refl _ _).drew) G1 (Nat.le_refl _))
      | (go_at_call 20; refine (D1.out _ _ _ _ _ E1 V9).mono ?_; rintro e t2 ⟨rfl, G2⟩; have E2 : Below u4.heap.size u4 t2 := bch E1 G2 (Nat.le_refl _)))
  all_goals
    have B9 := bch B4 E2 (Nat.le_refl _)
    go_wp2_with fail
    go_ret
    exact ⟨rfl, B9⟩
namespace Im
theorem img3 : decide (16384 < (img Ar.A3).size) = false := by kernel_rfl
theorem opnE_press : opnE ⟨#[112, 114, 101, 115, 115]⟩ = 1 := by kernel_rfl
theorem opnA_press : opnA ⟨#[112, 114, 101, 115, 115]⟩ = Ar.az := by kernel_rfl
theorem opn_img {a : Ar.A} (h1 : Ar.chk a = 0) (h2 : ¬ 16384 < (img a).size) : opnE (img a) = 0 ∧ opnA (img a) = a := by
  unfold opnE opnA
  rw [if_neg h2, if_neg h2, opn_is.2 ⟨h1, rfl⟩]
  exact ⟨rfl, rfl⟩
theorem sav_ok {a : Ar.A} (h1 : Ar.chk a = 0) (h2 : ¬ 16384 < (img a).size) : savE a = 0 ∧ savT a = img a := by
  have e : savE a = 0 := by unfold savE; rw [if_neg (by simpa using h1), if_neg h2]
  exact ⟨e, by unfold savT; rw [if_pos e]⟩
end Im
theorem sane3 : SaneA Ar.A3 := ((sane_az.put (by decide) : SaneA Ar.A1).put (by decide) : SaneA Ar.A2).ret 32
theorem imageBegun_any (w : World) (hM : Mx w) : Calls Tryz.prog 34 #[] w fun e w' => e = .returned (.bool true) ∧ Below w.heap.size w w' := by
  have hz := of_decide_eq_false Im.img3
  obtain ⟨s1, s2⟩ := Im.sav_ok Ar.c3 hz
  obtain ⟨o1, o2⟩ := Im.opn_img Ar.c3 hz
  refine imageBegun_from Ar.A3 (Im.img Ar.A3) w (fun w' h9 => two_any w' (hM.below h9)) (fun w' ad cd af cf hv => ?_) (fun w' => ?_) (fun w' => ?_) (fun w' x y p q x' y' p' q' hv hv' => same_any x y x' y' p q p' q' _ w' hv hv' sane3.nd sane3.nf)
  · have h9 := imgSave_any ad af cd cf Ar.A3 w' hv sane3
    rw [s1, s2] at h9
    exact h9
  · have h9 := imgOpen_any (Im.img Ar.A3) w' (by omega)
    rw [o1, o2] at h9
    exact h9
  · have h9 := imgOpen_any ⟨#[112, 114, 101, 115, 115]⟩ w' (by decide)
    rw [Im.opnE_press, Im.opnA_press] at h9
    exact h9
end Go.Proofs.YtbjbjbpgmojcbabGreat
namespace Go.Proofs.YtbjbjbpgmojcbabGreat
open Go.RowKit
theorem Ey.grown {w w' : World} {p : Nat} {x : Option Nat} {s : ByteArray} {b : Bool} (h : Ey w p s b) (g : w.grownBy w' x) (hne : some p ≠ x) : Ey w' p s b := by
  have hb := g.block p h.lt hne
  exact ⟨(World.cell?_of_block (w := w) (a := ⟨p, 0, none⟩) hb).trans h.c0, (World.cell?_of_block (w := w) (a := ⟨p, 1, none⟩) hb).trans h.c1, (World.frozen?_of_block (w := w) (a := ⟨p, 0, none⟩) hb).trans h.f0, (World.frozen?_of_block (w := w) (a := ⟨p, 1, none⟩) hb).trans h.f1⟩
theorem Bx.grown {w w' : World} {b : Nat} {x : Option Nat} {u v : Value} (h : Bx w b u v) (g : w.grownBy w' x) (hne : some b ≠ x) : Bx w' b u v := by
  have hb := g.block b h.lt hne
  exact ⟨(World.cell?_of_block (w := w) (a := ⟨b, 0, none⟩) hb).trans h.c0, (World.cell?_of_block (w := w) (a := ⟨b, 1, none⟩) hb).trans h.c1, (World.frozen?_of_block (w := w) (a := ⟨b, 0, none⟩) hb).trans h.f0, (World.frozen?_of_block (w := w) (a := ⟨b, 1, none⟩) hb).trans h.f1, Nat.lt_of_lt_of_le h.lt g.size⟩
theorem CpS.grown {w0 wr w' : World} {C lo : Nat} {x : Option Nat} {v1 v2 : Value} {n1 n2 : Nat} {xs1 xs2 : List Value} (h : CpS w0 wr C lo v1 v2 n1 n2 xs1 xs2) (g : wr.grownBy w' x) (hC : some C ≠ x) (e1 : v1.ownBlock ≠ x ∨ v1.ownBlock = none) (e2 : v2.ownBlock ≠ x ∨ v2.ownBlock = none) : CpS w' w' C lo v1 v2 n1 n2 xs1 xs2 := by
  have hb := g.block C h.hb hC
  exact ⟨(World.cell?_of_block (w := wr) (a := ⟨C, 0, none⟩) hb).trans h.c0, (World.cell?_of_block (w := wr) (a := ⟨C, 1, none⟩) hb).trans h.c1, (World.frozen?_of_block (w := wr) (a := ⟨C, 0, none⟩) hb).trans h.f0, (World.frozen?_of_block (w := wr) (a := ⟨C, 1, none⟩) hb).trans h.f1, h.o1.kept g e1.symm, h.o2.kept g e2.symm, h.ne, h.a1, h.a2, h.hC, Nat.lt_of_lt_of_le h.hb g.size, Below.refl _ _⟩
theorem below_row {B : Nat} {w wr w' : World} {q : Nat} (h : Below B w wr) (g : wr.grownBy w' (some q)) (hB : B ≤ w.heap.size) (hq : B ≤ q) : Below B w w' :=
  ⟨g.os.trans h.os, g.tape.trans h.tape, g.output.trans h.output, Nat.le_trans h.size g.size, fun k hk => (g.block k (by have := h.size; omega) (by simp; omega)).trans (h.block k hk)⟩
structure ES (w wr : World) (v1 v2 : Value) (n1 n2 : Nat) (xs1 xs2 : List Value) (s : ByteArray) (b : Bool) : Prop where
  cp : CpS wr wr (w.heap.size + 1) (w.heap.size + 1) v1 v2 n1 n2 xs1 xs2
  g : Below w.heap.size w wr
  e : Ey wr (w.heap.size + 2) s b
  x : Bx wr w.heap.size (.slice none 0 0) (.slice none 0 0)
  m1 : v1.ownBlock ≠ some (w.heap.size + 2)
  m2 : v2.ownBlock ≠ some (w.heap.size + 2)
theorem ES.on {w wr w' : World} {v1 v2 : Value} {n1 n2 : Nat} {xs1 xs2 : List Value} {s s' : ByteArray} {b b' : Bool} (h : ES w wr v1 v2 n1 n2 xs1 xs2 s b) (g : On (w.heap.size + 2) wr w') (he : Ey w' (w.heap.size + 2) s' b') : ES w w' v1 v2 n1 n2 xs1 xs2 s' b' :=
  ⟨h.cp.grown g (by simp) (.inl h.m1) (.inl h.m2), below_row h.g g (Nat.le_refl _) (by omega), he, h.x.grown g (by simp), h.m1, h.m2⟩
theorem ES.below {w wr w' : World} {v1 v2 : Value} {n1 n2 : Nat} {xs1 xs2 : List Value} {s : ByteArray} {b : Bool} (h : ES w wr v1 v2 n1 n2 xs1 xs2 s b) (G : Below wr.heap.size wr w') : ES w w' v1 v2 n1 n2 xs1 xs2 s b := by
  have c := h.cp.below G
  exact ⟨⟨c.c0, c.c1, c.f0, c.f1, c.o1, c.o2, c.ne, c.a1, c.a2, c.hC, c.hb, Below.refl _ _⟩, bch h.g G (Nat.le_refl _), h.e.below G, h.x.next G, h.m1, h.m2⟩
theorem ES.far {w wr : World} {v1 v2 : Value} {n1 n2 : Nat} {xs1 xs2 : List Value} {s : ByteArray} {b : Bool} (h : ES w wr v1 v2 n1 n2 xs1 xs2 s b) {q : Nat} (hq : w.heap.size + 2 < q) (e1 : v1.ownBlock ≠ some q) (e2 : v2.ownBlock ≠ some q) (o : Nat) (v : Value) : ES w (wr.setCell ⟨q, o, none⟩ v) v1 v2 n1 n2 xs1 xs2 s b := by
  have g : wr.grownBy (wr.setCell ⟨q, o, none⟩ v) (some q) := setCell_grown wr ⟨q, o, none⟩ v
  exact ⟨h.cp.grown g (by simp; omega) (.inl e1) (.inl e2), below_row h.g g (Nat.le_refl _) (by omega), h.e.grown g (by simp; omega), h.x.grown g (by simp; omega), h.m1, h.m2⟩
theorem ES.new1 {w wr : World} {v1 v2 : Value} {n1 n2 : Nat} {xs1 xs2 : List Value} {s : ByteArray} {b : Bool} (h : ES w wr v1 v2 n1 n2 xs1 xs2 s b) : v1.ownBlock ≠ some wr.heap.size ∧ v2.ownBlock ≠ some wr.heap.size :=
  ⟨fun e => by have := (h.cp.o1.lt _ e).2; omega, fun e => by have := (h.cp.o2.lt _ e).2; omega⟩
theorem Bx.lo {w w' : World} {b lo : Nat} {x y : Value} (h : Bx w b x y) (G : Below lo w w') (hb : b < lo) : Bx w' b x y :=
  ⟨(G.cell (p := ⟨b, 0, none⟩) hb).trans h.c0, (G.cell (p := ⟨b, 1, none⟩) hb).trans h.c1, (G.frozen (p := ⟨b, 0, none⟩) hb).trans h.f0, (G.frozen (p := ⟨b, 1, none⟩) hb).trans h.f1, Nat.lt_of_lt_of_le h.lt G.size⟩
theorem ES.put1 {w wr w2 : World} {g cap n1 m n2 : Nat} {v1 v2 : Value} {xs1 ys xs2 : List Value} {o : Obj} {s : ByteArray} {b : Bool} (h : ES w wr v1 v2 n1 n2 xs1 xs2 s b) (hg : (wr.alloc o).grownBy w2 v1.ownBlock)
    (ho : w2.ownsRow (w.heap.size + 1) 9 1 (.slice (some ⟨g, 0, none⟩) m cap) m ys) (hl : v1.ownBlock = some g ∨ g = (wr.alloc o).heap.size) :
    (w2.cell? ⟨w.heap.size + 1, 0, none⟩ = some v1 ∧ w2.frozen? ⟨w.heap.size + 1, 0, none⟩ = false) ∧ ES w (w2.setCell ⟨w.heap.size + 1, 0, none⟩ (.slice (some ⟨g, 0, none⟩) m cap)) (.slice (some ⟨g, 0, none⟩) m cap) v2 m n2 ys xs2 s b := by
  obtain ⟨q, S⟩ := (h.cp.put1 hg ho hl).1
  have hlt := h.e.lt
  have hne : g ≠ w.heap.size + 2 := by
    rcases hl with hl | hl
    · rintro rfl; exact h.m1 hl
    · simp at hl; omega
  have E2 : Ey w2 (w.heap.size + 2) s b := (h.e.below (alloc_below wr o)).grown hg (fun e => h.m1 e.symm)
  exact ⟨q, ⟨S.c0, S.c1, S.f0, S.f1, S.o1, S.o2, S.ne, S.a1, S.a2, S.hC, S.hb, Below.refl _ _⟩, h.g.trans (S.bel.mono (by omega)), E2.low (by omega) _ _, h.x.lo S.bel (by omega), fun e => hne (by simpa [Value.ownBlock] using e), h.m2⟩
theorem ES.put2 {w wr w2 : World} {g cap n1 m n2 : Nat} {v1 v2 : Value} {xs1 ys xs2 : List Value} {o : Obj} {s : ByteArray} {b : Bool} (h : ES w wr v1 v2 n1 n2 xs1 xs2 s b) (hg : (wr.alloc o).grownBy w2 v2.ownBlock)
    (ho : w2.ownsRow (w.heap.size + 1) 46 5 (.slice (some ⟨g, 0, none⟩) m cap) m ys) (hl : v2.ownBlock = some g ∨ g = (wr.alloc o).heap.size) :
    (w2.cell? ⟨w.heap.size + 1, 1, none⟩ = some v2 ∧ w2.frozen? ⟨w.heap.size + 1, 1, none⟩ = false) ∧ ES w (w2.setCell ⟨w.heap.size + 1, 1, none⟩ (.slice (some ⟨g, 0, none⟩) m cap)) v1 (.slice (some ⟨g, 0, none⟩) m cap) n1 m xs1 ys s b := by
  obtain ⟨q, S⟩ := h.cp.put2 hg ho hl
  have hlt := h.e.lt
  have hne : g ≠ w.heap.size + 2 := by
    rcases hl with hl | hl
    · rintro rfl; exact h.m2 hl
    · simp at hl; omega
  have E2 : Ey w2 (w.heap.size + 2) s b := (h.e.below (alloc_below wr o)).grown hg (fun e => h.m2 e.symm)
  exact ⟨q, ⟨S.c0, S.c1, S.f0, S.f1, S.o1, S.o2, S.ne, S.a1, S.a2, S.hC, S.hb, Below.refl _ _⟩, h.g.trans (S.bel.mono (by omega)), E2.low (by omega) _ _, h.x.lo S.bel (by omega), h.m1, fun e => hne (by simpa [Value.ownBlock] using e)⟩
end Go.Proofs.YtbjbjbpgmojcbabGreat
