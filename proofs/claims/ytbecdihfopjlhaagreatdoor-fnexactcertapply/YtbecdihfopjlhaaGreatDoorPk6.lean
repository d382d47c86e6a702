/-
  Own texts, bundled: EntOkI, BoxOkI, StOkI.
-/
import Derived.Test.YtbecdihfopjlhaaGreatDoorPk4
import Derived.Test.YtbecdihfopjlhaaGreatDoorPk5
import Derived.Test.YtbecdihfopjlhaaGreatDoorPk3
import Derived.Test.YtbecdihfopjlhaaGreatDoorPk2
namespace Go.Proofs.YtbecdihfopjlhaaGreatDoor.Own
open Go.RowKit
set_option linter.unusedVariables false
set_option linter.unusedSimpArgs false

/-- A request is right. -/
def reqOk (p q : Int) : Bool := decide (0 ≤ p) && decide (p < 3) && decide (1 ≤ q) && decide (q ≤ 1000)
/-- An entry is right. -/
def entOk (n : Bool) (p q : Int) (xs ys : List P2) (v k : Int) : Bool := if n then likeE n true (p, q) (0, 0) xs ys [] [] v k 0 0 else reqOk p q && execOk xs ys v k && k != 3

theorem implReqOk (p q : Int) (w : World) : Calls Tryz.prog 139 #[.agg #[.int .i64 p, .int .i64 q]] w fun e w' => e = .returned (.bool (reqOk p q)) ∧ Below w.heap.size w w' := by
  have R : Hid (reqOk p q = (decide (0 ≤ p) && decide (p < 3) && decide (1 ≤ q) && decide (q ≤ 1000))) := rfl
  have B0 : ∀ o, Hid (Below w.heap.size w (w.alloc o)) := fun o => (Below.refl _ _).alloc (Nat.le_refl _) _
  cases h1 : decide (0 ≤ p) with
  | false =>
    go_enter Tryz.func139, Tryz.ntmps139
    go_wp2
    go_ret
    exact ⟨ret_bool (by rw [R.out, h1]; rfl), (B0 _).out⟩
  | true =>
    cases h2 : decide (p < 3) with
    | false =>
      go_enter Tryz.func139, Tryz.ntmps139
      go_wp2
      go_ret
      exact ⟨ret_bool (by rw [R.out, h1, h2]; rfl), (B0 _).out⟩
    | true =>
      cases h3 : decide (1 ≤ q) with
      | false =>
        go_enter Tryz.func139, Tryz.ntmps139
        go_wp2
        go_ret
        exact ⟨ret_bool (by rw [R.out, h1, h2, h3]; rfl), (B0 _).out⟩
      | true =>
        go_enter Tryz.func139, Tryz.ntmps139
        go_wp2
        go_ret
        exact ⟨ret_bool (by rw [R.out, h1, h2, h3]; rfl), (B0 _).out⟩

theorem implEntryOf (n : Bool) (p q : Value) (s1 s2 v k : Value) (w : World) : Calls Tryz.prog 80 #[.agg #[.bool n, p, q, s1, s2, v, k]] w fun e w' => e = .returned (.iface (if n then 191 else 192) (.agg #[.bool n, p, q, s1, s2, v, k])) ∧ Below w.heap.size w w' := by
  cases n with
  | false =>
    go_enter Tryz.func80, Tryz.ntmps80
    go_wp2
    go_ret
    exact ⟨rfl, (Below.refl _ _).alloc (Nat.le_refl _) _⟩
  | true =>
    go_enter Tryz.func80, Tryz.ntmps80
    go_wp2
    go_ret
    exact ⟨rfl, (Below.refl _ _).alloc (Nat.le_refl _) _⟩

set_option maxRecDepth 100000 in
set_option maxHeartbeats 1000000 in
theorem implEmptyRight (n : Bool) (p q : Int) (a1 a2 : Option Addr) (c1 c2 : Nat) (xs ys : List P2) (v k : Int) (w : World) (h1 : Sl w a1 xs) (h2 : Sl w a2 ys) (n1 : xs.length ≤ 2 ^ 40) (n2 : ys.length ≤ 2 ^ 40) :
    Calls Tryz.prog 174 #[.agg #[.bool n, .int .i64 p, .int .i64 q, .slice a1 xs.length c1, .slice a2 ys.length c2, .int .i64 v, .int .i64 k]] w fun e w' => e = .returned (.bool (likeE n true (p, q) (0, 0) xs ys [] [] v k 0 0)) ∧ Below w.heap.size w w' := by
  have H1 : Hid (Sl w a1 xs) := h1
  have H2 : Hid (Sl w a2 ys) := h2
  clear h1 h2
  obtain ⟨W, hW⟩ : ∃ W, W = w.alloc (.cells #[.bool n, .int .i64 p, .int .i64 q, .slice a1 xs.length c1, .slice a2 ys.length c2, .int .i64 v, .int .i64 k] 191) := ⟨_, rfl⟩
  have BW : Hid (Below w.heap.size w W) := by show Below _ _ _; rw [hW]; exact (Below.refl _ _).alloc (Nat.le_refl _) _
  have HW : Hid (W = _) := hW
  clear hW
  go_enter Tryz.func174, Tryz.ntmps174
  go_wp2_with fail
  rw [← HW.out]
  refine (implCertLike n true p q 0 0 a1 a2 none none c1 c2 0 0 xs ys [] [] v k 0 0 W (H1.out.below BW.out) (H2.out.below BW.out) (.inl rfl) (.inl rfl) n1 n2 (by simp) (by simp)).mono ?_
  rintro e w1 ⟨rfl, b1⟩
  have B1 : Hid (Below w.heap.size w w1) := BW.out.trans (b1.mono BW.out.size)
  clear b1
  generalize hr : likeE n true (p, q) (0, 0) xs ys [] [] v k 0 0 = r
  have HR : Hid (_ = r) := hr
  clear hr
  go_wp2_with fail
  go_ret
  exact ⟨ret_bool HR.out.symm, B1.out⟩

set_option maxRecDepth 100000 in
set_option maxHeartbeats 1000000 in
theorem implRunRight (n : Bool) (p q : Int) (a1 a2 : Option Addr) (c1 c2 : Nat) (xs ys : List P2) (v k : Int) (w : World) (h1 : Sl w a1 xs) (h2 : Sl w a2 ys) (n1 : xs.length ≤ 2 ^ 40) (n2 : ys.length ≤ 2 ^ 40) :
    Calls Tryz.prog 180 #[.agg #[.bool n, .int .i64 p, .int .i64 q, .slice a1 xs.length c1, .slice a2 ys.length c2, .int .i64 v, .int .i64 k]] w fun e w' => e = .returned (.bool (reqOk p q && execOk xs ys v k && k != 3)) ∧ Below w.heap.size w w' := by
  have H1 : Hid (Sl w a1 xs) := h1
  have H2 : Hid (Sl w a2 ys) := h2
  clear h1 h2
  obtain ⟨W, hW⟩ : ∃ W, W = w.alloc (.cells #[.bool n, .int .i64 p, .int .i64 q, .slice a1 xs.length c1, .slice a2 ys.length c2, .int .i64 v, .int .i64 k] 192) := ⟨_, rfl⟩
  have BW : Hid (Below w.heap.size w W) := by show Below _ _ _; rw [hW]; exact (Below.refl _ _).alloc (Nat.le_refl _) _
  have G0 : Hid (Blk W w.heap.size #[.bool n, .int .i64 p, .int .i64 q, .slice a1 xs.length c1, .slice a2 ys.length c2, .int .i64 v, .int .i64 k] 192) := by show Blk _ _ _ _; rw [hW]; exact Blk.new _ _ _
  have HW : Hid (W = _) := hW
  clear hW
  obtain ⟨T, hT⟩ : ∃ T, T = (reqOk p q && execOk xs ys v k && k != 3) := ⟨_, rfl⟩
  have HT : Hid (T = (reqOk p q && execOk xs ys v k && k != 3)) := hT
  rw [← hT]
  clear hT
  go_enter Tryz.func180, Tryz.ntmps180
  go_wp2_with fail
  rw [← HW.out]
  refine (implReqOk p q W).mono ?_
  rintro e w1 ⟨rfl, b1⟩
  have B1 : Hid (Below w.heap.size w w1) := BW.out.trans (b1.mono BW.out.size)
  have D0 : Hid (Blk w1 w.heap.size _ _) := G0.out.keep b1
  obtain ⟨q0, q1, q2, q3, q4, q5, q6⟩ := D0.out.cells7
  clear b1
  generalize reqOk p q = r1 at HT ⊢
  cases r1 with
  | false =>
    have F : Hid (T = false) := by show _ = _; rw [HT.out]; rfl
    go_wp2_with fail
    go_ret
    exact ⟨ret_bool F.out.symm, B1.out⟩
  | true =>
    go_wp2_with fail
    refine (implExecOk a1 a2 c1 c2 xs ys v k w1 (H1.out.below B1.out) (H2.out.below B1.out) n1 n2).mono ?_
    rintro e w2 ⟨rfl, b2⟩
    have B2 : Hid (Below w.heap.size w w2) := B1.out.trans (b2.mono B1.out.size)
    obtain ⟨r0, r1, r2, r3, r4, r5, r6⟩ := (D0.out.keep b2).cells7
    clear b2 q0 q1 q2 q3 q4 q5 q6
    generalize execOk xs ys v k = r2' at HT ⊢
    cases r2' with
    | false =>
      have F : Hid (T = false) := by show _ = _; rw [HT.out]; rfl
      go_wp2_with fail
      go_ret
      exact ⟨ret_bool F.out.symm, B2.out⟩
    | true =>
      have F : Hid (T = (k != 3)) := by show _ = _; rw [HT.out]; rfl
      go_wp2_with fail
      go_ret
      exact ⟨ret_bool F.out.symm, B2.out⟩
end Go.Proofs.YtbecdihfopjlhaaGreatDoor.Own

namespace Go.Proofs.YtbecdihfopjlhaaGreatDoor.Own
open Go.RowKit

theorem four {xs : List (Int × Int)} (h : xs.length = 4) : [((fromD xs 0 0).1, (fromD xs 0 0).2), ((fromD xs 0 1).1, (fromD xs 0 1).2), ((fromD xs 0 2).1, (fromD xs 0 2).2), ((fromD xs 0 3).1, (fromD xs 0 3).2)] = xs := by
  match xs, h with
  | [a, b, c, d], _ => rfl

set_option maxHeartbeats 1000000 in
theorem implOk (a : Option Addr) (c : Nat) (xs : List (Int × Int)) (w : World) (h : Sl w a xs) (hc : xs.length ≤ c) :
    Calls Tryz.prog 43 #[.slice a xs.length c] w fun e w' => e = .returned (.bool (boxOk xs)) ∧ Below w.heap.size w w' := by
  have E : Hid (boxOk xs = (xs.length == 4 && xs.all boxOk1)) := rfl
  by_cases hl : xs.length = 4
  · have hl' : ((xs.length : Int) == 4) = true := by simp [hl]
    have HL : Hid (xs.length = 4) := hl
    clear hl
    go_enter Tryz.func43, Tryz.ntmps43
    go_wp2_with fail
    refine (boxesFrom a c xs 0 w h hc (Nat.zero_le _)).mono ?_
    rintro e w1 ⟨rfl, hb1⟩
    go_wp2_with fail
    refine (arrOk _ _ _ _ _ _ _ _ _).mono ?_
    rintro e w2 ⟨rfl, hb2⟩
    rw [four HL.out]
    have B2 : Hid (Below w.heap.size w w2) := hb1.trans (hb2.mono hb1.size)
    clear hb1 hb2
    go_wp2
    go_ret
    refine ⟨ret_bool ?_, B2.out⟩
    rw [E.out, HL.out]; rfl
  · have hl' : ((xs.length : Int) == 4) = false := by simp; omega
    go_enter Tryz.func43, Tryz.ntmps43
    go_wp2
    go_ret
    refine ⟨ret_bool ?_, Below.refl _ _⟩
    rw [E.out]; simp [hl]
end Go.Proofs.YtbecdihfopjlhaaGreatDoor.Own

namespace Go.Proofs.YtbecdihfopjlhaaGreatDoor.Own
open Go.RowKit
set_option linter.unusedVariables false
set_option linter.unusedSimpArgs false

/-- The end of a request is right: its code, and what it says. -/
def codeOk (c v : Int) : Bool := if c = 0 then numOk v else if c = 1 ∨ c = 2 then v == 0 else false
def doneOk (d : Q4) : Bool := reqOk d.1 d.2.1 && codeOk d.2.2.1 d.2.2.2
/-- The least node that may come behind the first i. -/
def leastD (ds : List Q4) (i : Nat) : Int := if i = 0 then 0 else (ds.getD (i - 1) q0).1 + 1
def doneAt (ds : List Q4) (i : Nat) : Bool := doneOk (ds.getD i q0) && !decide ((ds.getD i q0).1 < leastD ds i)
def donesOkD (ds : List Q4) : Bool := (List.range ds.length).all (doneAt ds)
theorem donesOkD_iff {ds : List Q4} : donesOkD ds = true ↔ ∀ i, i < ds.length → doneAt ds i = true := by
  simp [donesOkD, List.all_eq_true]
theorem donesOkD_false {ds : List Q4} {i : Nat} (hi : i < ds.length) (h : doneAt ds i = false) : donesOkD ds = false := by
  rw [Bool.eq_false_iff]
  intro e
  rw [donesOkD_iff.1 e i hi] at h
  cases h
/-- What there is is right. -/
def stOk (z : Int) (bs : List P2) (ds : List Q4) : Bool := decide (0 ≤ z) && decide (z ≤ 40) && boxOk bs && donesOkD ds

set_option maxRecDepth 100000 in
set_option maxHeartbeats 1000000 in
theorem implDoneOk (a b c d : Int) (w : World) : Calls Tryz.prog 126 #[.agg #[.int .i64 a, .int .i64 b, .int .i64 c, .int .i64 d]] w fun e w' => e = .returned (.bool (doneOk (a, b, c, d))) ∧ Below w.heap.size w w' := by
  have E : Hid (doneOk (a, b, c, d) = (reqOk a b && codeOk c d)) := rfl
  generalize doneOk (a, b, c, d) = T at E ⊢
  have C : Hid (codeOk c d = if c = 0 then numOk d else if c = 1 ∨ c = 2 then d == 0 else false) := rfl
  obtain ⟨W, hW⟩ : ∃ W, W = w.alloc (.cells #[.int .i64 a, .int .i64 b, .int .i64 c, .int .i64 d] 94) := ⟨_, rfl⟩
  have BW : Hid (Below w.heap.size w W) := by show Below _ _ _; rw [hW]; exact (Below.refl _ _).alloc (Nat.le_refl _) _
  have G0 : Hid (Blk W w.heap.size #[.int .i64 a, .int .i64 b, .int .i64 c, .int .i64 d] 94) := by show Blk _ _ _ _; rw [hW]; exact Blk.new _ _ _
  have HW : Hid (W = _) := hW
  clear hW
  go_enter Tryz.func126, Tryz.ntmps126
  go_wp2_with fail
  rw [← HW.out]
  refine (implReqOk a b W).mono ?_
  rintro e w1 ⟨rfl, b1⟩
  have B1 : Hid (Below w.heap.size w w1) := BW.out.trans (b1.mono BW.out.size)
  obtain ⟨q0, q1, q2, q3⟩ := (G0.out.keep b1).cells4
  clear b1
  generalize reqOk a b = r at E ⊢
  cases r with
  | false =>
    have F : Hid (T = false) := by show _ = _; rw [E.out]; rfl
    go_wp2_with fail
    go_ret
    exact ⟨ret_bool F.out.symm, B1.out⟩
  | true =>
    have E2 : Hid (T = codeOk c d) := by show _ = _; rw [E.out]; rfl
    by_cases c0 : c = 0
    · have F : Hid (T = numOk d) := by show _ = _; rw [E2.out, C.out, if_pos c0]
      have k0 : (c == 0) = true := by simpa using c0
      clear E E2 C
      go_wp2_with fail
      refine (isNumberC d w1).mono ?_
      rintro e w2 ⟨rfl, rfl⟩
      generalize numOk d = x at F ⊢
      go_wp2_with fail
      go_ret
      exact ⟨ret_bool F.out.symm, B1.out⟩
    · have k0 : (c == 0) = false := by simpa using c0
      by_cases c1 : c = 1
      · have F : Hid (T = (d == 0)) := by show _ = _; rw [E2.out, C.out, if_neg c0, if_pos (.inl c1)]
        have k1 : (c == 1) = true := by simpa using c1
        clear E E2 C c0
        go_wp2_with fail
        go_ret
        exact ⟨ret_bool F.out.symm, B1.out⟩
      · have k1 : (c == 1) = false := by simpa using c1
        by_cases c2 : c = 2
        · have F : Hid (T = (d == 0)) := by show _ = _; rw [E2.out, C.out, if_neg c0, if_pos (.inr c2)]
          have k2 : (c == 2) = true := by simpa using c2
          clear E E2 C c0 c1
          go_wp2_with fail
          go_ret
          exact ⟨ret_bool F.out.symm, B1.out⟩
        · have F : Hid (T = false) := by show _ = _; rw [E2.out, C.out, if_neg c0, if_neg (by omega)]
          have k2 : (c == 2) = false := by simpa using c2
          clear E E2 C c0 c1
          go_wp2_with fail
          go_ret
          exact ⟨ret_bool F.out.symm, B1.out⟩

theorem doneOk_who {d : Q4} (h : doneOk d = true) : 0 ≤ d.1 ∧ d.1 < 3 := by
  simp only [doneOk, reqOk, Bool.and_eq_true, decide_eq_true_eq] at h
  exact ⟨h.1.1.1.1, h.1.1.1.2⟩

set_option maxRecDepth 100000 in
set_option maxHeartbeats 1000000 in
theorem implDonesOk (a : Option Addr) (c : Nat) (ds : List Q4) (w : World) (h : Sl4 w a ds) (hn : ds.length ≤ 2 ^ 40) :
    Calls Tryz.prog 96 #[.slice a ds.length c] w fun e w' => e = .returned (.bool (donesOkD ds)) ∧ Below w.heap.size w w' := by
  have H1 : Hid (Sl4 w a ds) := h
  clear h
  go_enter Tryz.func96, Tryz.ntmps96
  go_wp2
  go_loopw [3, 8] (fun l i wr => ∃ k : Nat, k ≤ ds.length ∧ i = .int .i64 k ∧ l = .int .i64 (leastD ds k) ∧ Hid (∀ i, i < k → doneAt ds i = true) ∧ Below w.heap.size w wr) (fun _ i _ => ds.length - (intOf i).toNat)
  case atStart => exact ⟨0, Nat.zero_le _, rfl, rfl, fun i hi => by omega, Below.refl _ _⟩
  case round =>
    obtain ⟨k, hk, rfl, rfl, hA, hB⟩ := hrel
    by_cases hlt : k < ds.length
    · rcases H1.out with h | ⟨b1, o1, rfl, h1⟩
      · subst h; simp at hlt
      obtain ⟨p, hp⟩ : ∃ p, p = ds.getD k q0 := ⟨_, rfl⟩
      obtain ⟨ca, cb, cc, cd⟩ := h1.2 k hlt
      rw [← hB.cell h1.1, ← hp] at ca cb cc cd
      have DA : Hid (doneAt ds k = (doneOk p && !decide (p.1 < leastD ds k))) := by show _ = _; rw [hp]; rfl
      have LS : Hid (leastD ds (k + 1) = p.1 + 1) := by show _ = _; rw [hp]; simp [leastD]
      have DF : Hid (doneAt ds k = false → donesOkD ds = false) := donesOkD_false hlt
      clear hp h1
      obtain ⟨p1, p2, p3, p4⟩ := p
      generalize leastD ds k = l at DA ⊢
      obtain ⟨X, hX⟩ : ∃ X, X = wr.alloc (.cells #[.int .i64 p1, .int .i64 p2, .int .i64 p3, .int .i64 p4] 94) := ⟨_, rfl⟩
      have BX : Hid (Below w.heap.size w X) := by show Below _ _ _; rw [hX]; exact hB.alloc hB.size _
      have GX : Hid (Blk X wr.heap.size #[.int .i64 p1, .int .i64 p2, .int .i64 p3, .int .i64 p4] 94) := by show Blk _ _ _ _; rw [hX]; exact Blk.new _ _ _
      have HX : Hid (X = _) := hX
      clear hX hB
      go_wp2_with fail
      rw [← HX.out]
      refine (implDoneOk p1 p2 p3 p4 X).mono ?_
      rintro e w1 ⟨rfl, b1'⟩
      have B1 : Hid (Below w.heap.size w w1) := BX.out.trans (b1'.mono BX.out.size)
      obtain ⟨r0, r1, r2, r3⟩ := (GX.out.keep b1').cells4
      clear b1' ca cb cc cd
      have WB := doneOk_who (d := (p1, p2, p3, p4))
      generalize doneOk (p1, p2, p3, p4) = ok at DA WB ⊢
      cases ok with
      | false =>
        have F : Hid (donesOkD ds = false) := DF.out (by rw [DA.out]; rfl)
        clear WB
        go_wp2_with fail
        go_ret
        exact ⟨ret_bool F.out.symm, B1.out⟩
      | true =>
        obtain ⟨w0, w3⟩ := WB rfl
        simp only at w0 w3
        by_cases hl : p1 < l
        · have F : Hid (donesOkD ds = false) := DF.out (by rw [DA.out]; simp [hl])
          go_wp2_with fail
          go_ret
          exact ⟨ret_bool F.out.symm, B1.out⟩
        · have N : Hid (∀ i, i < k + 1 → doneAt ds i = true) := fun i hi => by
            by_cases e : i = k
            · subst e; rw [DA.out]; simp; omega
            · exact hA.out i (by omega)
          go_wp2_with fail
          go_roundw
          case rel => exact ⟨k + 1, by omega, by go_num, by rw [LS.out], N, B1.out⟩
          case measure => simp [intOf]; omega
    · have F : Hid (donesOkD ds = true) := donesOkD_iff.2 fun i hi => hA.out i (by omega)
      go_wp2_with fail
      go_ret
      exact ⟨ret_bool F.out.symm, hB⟩

set_option maxRecDepth 100000 in
set_option maxHeartbeats 1000000 in
theorem implCertOk (z : Int) (a1 a2 : Option Addr) (c1 c2 : Nat) (bs : List P2) (ds : List Q4) (w : World) (h1 : Sl w a1 bs) (h2 : Sl4 w a2 ds) (hc1 : bs.length ≤ c1) (n2 : ds.length ≤ 2 ^ 40) :
    Calls Tryz.prog 50 #[.agg #[.int .i64 z, .slice a1 bs.length c1, .slice a2 ds.length c2]] w fun e w' => e = .returned (.bool (stOk z bs ds)) ∧ Below w.heap.size w w' := by
  have H1 : Hid (Sl w a1 bs) := h1
  have H2 : Hid (Sl4 w a2 ds) := h2
  clear h1 h2
  have E : Hid (stOk z bs ds = (decide (0 ≤ z) && decide (z ≤ 40) && boxOk bs && donesOkD ds)) := rfl
  generalize stOk z bs ds = T at E ⊢
  obtain ⟨W, hW⟩ : ∃ W, W = w.alloc (.cells #[.int .i64 z, .slice a1 bs.length c1, .slice a2 ds.length c2] 28) := ⟨_, rfl⟩
  have BW : Hid (Below w.heap.size w W) := by show Below _ _ _; rw [hW]; exact (Below.refl _ _).alloc (Nat.le_refl _) _
  have G0 : Hid (Blk W w.heap.size #[.int .i64 z, .slice a1 bs.length c1, .slice a2 ds.length c2] 28) := by show Blk _ _ _ _; rw [hW]; exact Blk.new _ _ _
  have HW : Hid (W = _) := hW
  clear hW
  cases z0 : decide (0 ≤ z) with
  | false =>
    have F : Hid (T = false) := by show _ = _; rw [E.out, z0]; rfl
    go_enter Tryz.func50, Tryz.ntmps50
    go_wp2_with fail
    go_ret
    exact ⟨ret_bool F.out.symm, by rw [← HW.out]; exact BW.out⟩
  | true =>
    cases z1 : decide (z ≤ 40) with
    | false =>
      have F : Hid (T = false) := by show _ = _; rw [E.out, z0, z1]; rfl
      go_enter Tryz.func50, Tryz.ntmps50
      go_wp2_with fail
      go_ret
      exact ⟨ret_bool F.out.symm, by rw [← HW.out]; exact BW.out⟩
    | true =>
      have E2 : Hid (T = (boxOk bs && donesOkD ds)) := by show _ = _; rw [E.out, z0, z1]; rfl
      go_enter Tryz.func50, Tryz.ntmps50
      go_wp2_with fail
      rw [← HW.out]
      refine (implOk a1 c1 bs W (H1.out.below BW.out) hc1).mono ?_
      rintro e w1 ⟨rfl, b1'⟩
      have B1 : Hid (Below w.heap.size w w1) := BW.out.trans (b1'.mono BW.out.size)
      obtain ⟨q0, q1, q2⟩ := (G0.out.keep b1').cells3
      clear b1'
      generalize boxOk bs = x at E2 ⊢
      cases x with
      | false =>
        have F : Hid (T = false) := by show _ = _; rw [E2.out]; rfl
        go_wp2_with fail
        go_ret
        exact ⟨ret_bool F.out.symm, B1.out⟩
      | true =>
        have F : Hid (T = donesOkD ds) := by show _ = _; rw [E2.out]; rfl
        go_wp2_with fail
        refine (implDonesOk a2 c2 ds w1 (H2.out.below B1.out) n2).mono ?_
        rintro e w2 ⟨rfl, b2'⟩
        have B2 : Hid (Below w.heap.size w w2) := B1.out.trans (b2'.mono B1.out.size)
        clear b2'
        generalize donesOkD ds = y at F ⊢
        go_wp2_with fail
        go_ret
        exact ⟨ret_bool F.out.symm, B2.out⟩
end Go.Proofs.YtbecdihfopjlhaaGreatDoor.Own
