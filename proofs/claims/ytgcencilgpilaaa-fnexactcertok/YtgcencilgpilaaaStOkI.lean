/-
  Own text: what impl.CertOk and what it calls do.
-/
import Derived.Test.YtgcencilgpilaaaEntOkI
import Derived.Test.YtgcencilgpilaaaBoxOkI
import Derived.Test.YtgcencilgpilaaaExecOkI
import Derived.Test.YtgcencilgpilaaaBase4
namespace Go.Proofs.Ytgcencilgpilaaa.Own
open Go.RowKit
set_option linter.unusedVariables false
set_option linter.unusedSimpArgs false

/-- The end of a request is right: its code, and what it says. -/
def codeOk (c v : Int) : Bool := if c = 0 then numOk v else if c = 1 ∨ c = 2 then v == 0 else false
def doneOk (d : Q4) : Bool := reqOk d.1 d.2.1 && codeOk d.2.2.1 d.2.2.2
/-- The least node that may come behind the first i. -/
def leastD (ds : List Q4) (i : Nat) : Int := if i = 0 then 0 else (ds.getD (i - 1) q0).1 + 1
def doneAt (ds : List Q4) (i : Nat) : Bool := doneOk (ds.getD i q0) && !decide ((ds.getD i q0).1 < leastD ds i)
def donesOkD (ds : List Q4) : Bool := (List.range ds.length).all (doneAt ds)
theorem donesOkD_iff {ds : List Q4} : donesOkD ds = true ↔ ∀ i, i < ds.length → doneAt ds i = true := by
  simp [donesOkD, List.all_eq_true]
theorem donesOkD_false {ds : List Q4} {i : Nat} (hi : i < ds.length) (h : doneAt ds i = false) : donesOkD ds = false := by
  rw [Bool.eq_false_iff]
  intro e
  rw [donesOkD_iff.1 e i hi] at h
  cases h
/-- What there is is right. -/
def stOk (z : Int) (bs : List P2) (ds : List Q4) : Bool := decide (0 ≤ z) && decide (z ≤ 40) && boxOk bs && donesOkD ds

set_option maxRecDepth 100000 in
set_option maxHeartbeats 1000000 in
theorem implDoneOk (a b c d : Int) (w : World) : Calls Try.prog 135 #[.agg #[.int .i64 a, .int .i64 b, .int .i64 c, .int .i64 d]] w fun e w' => e = .returned (.bool (doneOk (a, b, c, d))) ∧ Below w.heap.size w w' := by
  have E : Hid (doneOk (a, b, c, d) = (reqOk a b && codeOk c d)) := rfl
  generalize doneOk (a, b, c, d) = T at E ⊢
  have C : Hid (codeOk c d = if c = 0 then numOk d else if c = 1 ∨ c = 2 then d == 0 else false) := rfl
  obtain ⟨W, hW⟩ : ∃ W, W = w.alloc (.cells #[.int .i64 a, .int .i64 b, .int .i64 c, .int .i64 d] 137) := ⟨_, rfl⟩
  have BW : Hid (Below w.heap.size w W) := by show Below _ _ _; rw [hW]; exact (Below.refl _ _).alloc (Nat.le_refl _) _
  have G0 : Hid (Blk W w.heap.size #[.int .i64 a, .int .i64 b, .int .i64 c, .int .i64 d] 137) := by show Blk _ _ _ _; rw [hW]; exact Blk.new _ _ _
  have HW : Hid (W = _) := hW
  clear hW
  go_enter Try.func135, Try.ntmps135
  go_wp2_with fail
  rw [← HW.out]
  refine (implReqOk a b W).mono ?_
  rintro e w1 ⟨rfl, b1⟩
  have B1 : Hid (Below w.heap.size w w1) := BW.out.trans (b1.mono BW.out.size)
  obtain ⟨q0, q1, q2, q3⟩ := (G0.out.keep b1).cells4
  clear b1
  generalize reqOk a b = r at E ⊢
  cases r with
  | false =>
    have F : Hid (T = false) := by show _ = _; rw [E.out]; rfl
    go_wp2_with fail
    go_ret
    exact ⟨ret_bool F.out.symm, B1.out⟩
  | true =>
    have E2 : Hid (T = codeOk c d) := by show _ = _; rw [E.out]; rfl
    by_cases c0 : c = 0
    · have F : Hid (T = numOk d) := by show _ = _; rw [E2.out, C.out, if_pos c0]
      have k0 : (c == 0) = true := by simpa using c0
      clear E E2 C
      go_wp2_with fail
      refine (isNumberC d w1).mono ?_
      rintro e w2 ⟨rfl, rfl⟩
      generalize numOk d = x at F ⊢
      go_wp2_with fail
      go_ret
      exact ⟨ret_bool F.out.symm, B1.out⟩
    · have k0 : (c == 0) = false := by simpa using c0
      by_cases c1 : c = 1
      · have F : Hid (T = (d == 0)) := by show _ = _; rw [E2.out, C.out, if_neg c0, if_pos (.inl c1)]
        have k1 : (c == 1) = true := by simpa using c1
        clear E E2 C c0
        go_wp2_with fail
        go_ret
        exact ⟨ret_bool F.out.symm, B1.out⟩
      · have k1 : (c == 1) = false := by simpa using c1
        by_cases c2 : c = 2
        · have F : Hid (T = (d == 0)) := by show _ = _; rw [E2.out, C.out, if_neg c0, if_pos (.inr c2)]
          have k2 : (c == 2) = true := by simpa using c2
          clear E E2 C c0 c1
          go_wp2_with fail
          go_ret
          exact ⟨ret_bool F.out.symm, B1.out⟩
        · have F : Hid (T = false) := by show _ = _; rw [E2.out, C.out, if_neg c0, if_neg (by omega)]
          have k2 : (c == 2) = false := by simpa using c2
          clear E E2 C c0 c1
          go_wp2_with fail
          go_ret
          exact ⟨ret_bool F.out.symm, B1.out⟩

theorem doneOk_who {d : Q4} (h : doneOk d = true) : 0 ≤ d.1 ∧ d.1 < 3 := by
  simp only [doneOk, reqOk, Bool.and_eq_true, decide_eq_true_eq] at h
  exact ⟨h.1.1.1.1, h.1.1.1.2⟩

set_option maxRecDepth 100000 in
set_option maxHeartbeats 1000000 in
theorem implDonesOk (a : Option Addr) (c : Nat) (ds : List Q4) (w : World) (h : Sl4 w a ds) (hn : ds.length ≤ 2 ^ 40) :
    Calls Try.prog 106 #[.slice a ds.length c] w fun e w' => e = .returned (.bool (donesOkD ds)) ∧ Below w.heap.size w w' := by
  have H1 : Hid (Sl4 w a ds) := h
  clear h
  go_enter Try.func106, Try.ntmps106
  go_wp2
  go_loopw [3, 8] (fun l i wr => ∃ k : Nat, k ≤ ds.length ∧ i = .int .i64 k ∧ l = .int .i64 (leastD ds k) ∧ Hid (∀ i, i < k → doneAt ds i = true) ∧ Below w.heap.size w wr) (fun _ i _ => ds.length - (intOf i).toNat)
  case atStart => exact ⟨0, Nat.zero_le _, rfl, rfl, fun i hi => by omega, Below.refl _ _⟩
  case round =>
    obtain ⟨k, hk, rfl, rfl, hA, hB⟩ := hrel
    by_cases hlt : k < ds.length
    · rcases H1.out with h | ⟨b1, o1, rfl, h1⟩
      · subst h; simp at hlt
      obtain ⟨p, hp⟩ : ∃ p, p = ds.getD k q0 := ⟨_, rfl⟩
      obtain ⟨ca, cb, cc, cd⟩ := h1.2 k hlt
      rw [← hB.cell h1.1, ← hp] at ca cb cc cd
      have DA : Hid (doneAt ds k = (doneOk p && !decide (p.1 < leastD ds k))) := by show _ = _; rw [hp]; rfl
      have LS : Hid (leastD ds (k + 1) = p.1 + 1) := by show _ = _; rw [hp]; simp [leastD]
      have DF : Hid (doneAt ds k = false → donesOkD ds = false) := donesOkD_false hlt
      clear hp h1
      obtain ⟨p1, p2, p3, p4⟩ := p
      generalize leastD ds k = l at DA ⊢
      obtain ⟨X, hX⟩ : ∃ X, X = wr.alloc (.cells #[.int .i64 p1, .int .i64 p2, .int .i64 p3, .int .i64 p4] 137) := ⟨_, rfl⟩
      have BX : Hid (Below w.heap.size w X) := by show Below _ _ _; rw [hX]; exact hB.alloc hB.size _
      have GX : Hid (Blk X wr.heap.size #[.int .i64 p1, .int .i64 p2, .int .i64 p3, .int .i64 p4] 137) := by show Blk _ _ _ _; rw [hX]; exact Blk.new _ _ _
      have HX : Hid (X = _) := hX
      clear hX hB
      go_wp2_with fail
      rw [← HX.out]
      refine (implDoneOk p1 p2 p3 p4 X).mono ?_
      rintro e w1 ⟨rfl, b1'⟩
      have B1 : Hid (Below w.heap.size w w1) := BX.out.trans (b1'.mono BX.out.size)
      obtain ⟨r0, r1, r2, r3⟩ := (GX.out.keep b1').cells4
      clear b1' ca cb cc cd
      have WB := doneOk_who (d := (p1, p2, p3, p4))
      generalize doneOk (p1, p2, p3, p4) = ok at DA WB ⊢
      cases ok with
      | false =>
        have F : Hid (donesOkD ds = false) := DF.out (by rw [DA.out]; rfl)
        clear WB
        go_wp2_with fail
        go_ret
        exact ⟨ret_bool F.out.symm, B1.out⟩
      | true =>
        obtain ⟨w0, w3⟩ := WB rfl
        simp only at w0 w3
        by_cases hl : p1 < l
        · have F : Hid (donesOkD ds = false) := DF.out (by rw [DA.out]; simp [hl])
          go_wp2_with fail
          go_ret
          exact ⟨ret_bool F.out.symm, B1.out⟩
        · have N : Hid (∀ i, i < k + 1 → doneAt ds i = true) := fun i hi => by
            by_cases e : i = k
            · subst e; rw [DA.out]; simp; omega
            · exact hA.out i (by omega)
          go_wp2_with fail
          go_roundw
          case rel => exact ⟨k + 1, by omega, by go_num, by rw [LS.out], N, B1.out⟩
          case measure => simp [intOf]; omega
    · have F : Hid (donesOkD ds = true) := donesOkD_iff.2 fun i hi => hA.out i (by omega)
      go_wp2_with fail
      go_ret
      exact ⟨ret_bool F.out.symm, hB⟩

set_option maxRecDepth 100000 in
set_option maxHeartbeats 1000000 in
theorem implCertOk (z : Int) (a1 a2 : Option Addr) (c1 c2 : Nat) (bs : List P2) (ds : List Q4) (w : World) (h1 : Sl w a1 bs) (h2 : Sl4 w a2 ds) (hc1 : bs.length ≤ c1) (n2 : ds.length ≤ 2 ^ 40) :
    Calls Try.prog 52 #[.agg #[.int .i64 z, .slice a1 bs.length c1, .slice a2 ds.length c2]] w fun e w' => e = .returned (.bool (stOk z bs ds)) ∧ Below w.heap.size w w' := by
  have H1 : Hid (Sl w a1 bs) := h1
  have H2 : Hid (Sl4 w a2 ds) := h2
  clear h1 h2
  have E : Hid (stOk z bs ds = (decide (0 ≤ z) && decide (z ≤ 40) && boxOk bs && donesOkD ds)) := rfl
  generalize stOk z bs ds = T at E ⊢
  obtain ⟨W, hW⟩ : ∃ W, W = w.alloc (.cells #[.int .i64 z, .slice a1 bs.length c1, .slice a2 ds.length c2] 70) := ⟨_, rfl⟩
  have BW : Hid (Below w.heap.size w W) := by show Below _ _ _; rw [hW]; exact (Below.refl _ _).alloc (Nat.le_refl _) _
  have G0 : Hid (Blk W w.heap.size #[.int .i64 z, .slice a1 bs.length c1, .slice a2 ds.length c2] 70) := by show Blk _ _ _ _; rw [hW]; exact Blk.new _ _ _
  have HW : Hid (W = _) := hW
  clear hW
  cases z0 : decide (0 ≤ z) with
  | false =>
    have F : Hid (T = false) := by show _ = _; rw [E.out, z0]; rfl
    go_enter Try.func52, Try.ntmps52
    go_wp2_with fail
    go_ret
    exact ⟨ret_bool F.out.symm, by rw [← HW.out]; exact BW.out⟩
  | true =>
    cases z1 : decide (z ≤ 40) with
    | false =>
      have F : Hid (T = false) := by show _ = _; rw [E.out, z0, z1]; rfl
      go_enter Try.func52, Try.ntmps52
      go_wp2_with fail
      go_ret
      exact ⟨ret_bool F.out.symm, by rw [← HW.out]; exact BW.out⟩
    | true =>
      have E2 : Hid (T = (boxOk bs && donesOkD ds)) := by show _ = _; rw [E.out, z0, z1]; rfl
      go_enter Try.func52, Try.ntmps52
      go_wp2_with fail
      rw [← HW.out]
      refine (implOk a1 c1 bs W (H1.out.below BW.out) hc1).mono ?_
      rintro e w1 ⟨rfl, b1'⟩
      have B1 : Hid (Below w.heap.size w w1) := BW.out.trans (b1'.mono BW.out.size)
      obtain ⟨q0, q1, q2⟩ := (G0.out.keep b1').cells3
      clear b1'
      generalize boxOk bs = x at E2 ⊢
      cases x with
      | false =>
        have F : Hid (T = false) := by show _ = _; rw [E2.out]; rfl
        go_wp2_with fail
        go_ret
        exact ⟨ret_bool F.out.symm, B1.out⟩
      | true =>
        have F : Hid (T = donesOkD ds) := by show _ = _; rw [E2.out]; rfl
        go_wp2_with fail
        refine (implDonesOk a2 c2 ds w1 (H2.out.below B1.out) n2).mono ?_
        rintro e w2 ⟨rfl, b2'⟩
        have B2 : Hid (Below w.heap.size w w2) := B1.out.trans (b2'.mono B1.out.size)
        clear b2'
        generalize donesOkD ds = y at F ⊢
        go_wp2_with fail
        go_ret
        exact ⟨ret_bool F.out.symm, B2.out⟩
end Go.Proofs.Ytgcencilgpilaaa.Own
