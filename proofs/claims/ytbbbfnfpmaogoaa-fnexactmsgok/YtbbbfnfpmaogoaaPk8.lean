/-
  Own texts, bundled: EntOkI, BalB, AccMath, MsgMath, InsOkS.
-/
import Derived.Test.YtbbbfnfpmaogoaaPk7
import Derived.Test.YtbbbfnfpmaogoaaPk1
import Derived.Test.YtbbbfnfpmaogoaaPk4
import Derived.Test.YtbbbfnfpmaogoaaPk6
import Derived.Test.YtbbbfnfpmaogoaaPk2
namespace Go.Proofs.Ytbbbfnfpmaogoaa.Own
open Go.RowKit
set_option linter.unusedVariables false
set_option linter.unusedSimpArgs false

/-- A request is right. -/
def reqOk (p q : Int) : Bool := decide (0 ≤ p) && decide (p < 3) && decide (1 ≤ q) && decide (q ≤ 1000)
/-- An entry is right. -/
def entOk (n : Bool) (p q : Int) (xs ys : List P2) (v k : Int) : Bool := if n then likeE n true (p, q) (0, 0) xs ys [] [] v k 0 0 else reqOk p q && execOk xs ys v k && k != 3

theorem implReqOk (p q : Int) (w : World) : Calls Try.prog 171 #[.agg #[.int .i64 p, .int .i64 q]] w fun e w' => e = .returned (.bool (reqOk p q)) ∧ Below w.heap.size w w' := by
  have R : Hid (reqOk p q = (decide (0 ≤ p) && decide (p < 3) && decide (1 ≤ q) && decide (q ≤ 1000))) := rfl
  have B0 : ∀ o, Hid (Below w.heap.size w (w.alloc o)) := fun o => (Below.refl _ _).alloc (Nat.le_refl _) _
  cases h1 : decide (0 ≤ p) with
  | false =>
    go_enter Try.func171, Try.ntmps171
    go_wp2
    go_ret
    exact ⟨ret_bool (by rw [R.out, h1]; rfl), (B0 _).out⟩
  | true =>
    cases h2 : decide (p < 3) with
    | false =>
      go_enter Try.func171, Try.ntmps171
      go_wp2
      go_ret
      exact ⟨ret_bool (by rw [R.out, h1, h2]; rfl), (B0 _).out⟩
    | true =>
      cases h3 : decide (1 ≤ q) with
      | false =>
        go_enter Try.func171, Try.ntmps171
        go_wp2
        go_ret
        exact ⟨ret_bool (by rw [R.out, h1, h2, h3]; rfl), (B0 _).out⟩
      | true =>
        go_enter Try.func171, Try.ntmps171
        go_wp2
        go_ret
        exact ⟨ret_bool (by rw [R.out, h1, h2, h3]; rfl), (B0 _).out⟩

theorem implEntryOf (n : Bool) (p q : Value) (s1 s2 v k : Value) (w : World) : Calls Try.prog 141 #[.agg #[.bool n, p, q, s1, s2, v, k]] w fun e w' => e = .returned (.iface (if n then 186 else 187) (.agg #[.bool n, p, q, s1, s2, v, k])) ∧ Below w.heap.size w w' := by
  cases n with
  | false =>
    go_enter Try.func141, Try.ntmps141
    go_wp2
    go_ret
    exact ⟨rfl, (Below.refl _ _).alloc (Nat.le_refl _) _⟩
  | true =>
    go_enter Try.func141, Try.ntmps141
    go_wp2
    go_ret
    exact ⟨rfl, (Below.refl _ _).alloc (Nat.le_refl _) _⟩

set_option maxRecDepth 100000 in
set_option maxHeartbeats 1000000 in
theorem implEmptyRight (n : Bool) (p q : Int) (a1 a2 : Option Addr) (c1 c2 : Nat) (xs ys : List P2) (v k : Int) (w : World) (h1 : Sl w a1 xs) (h2 : Sl w a2 ys) (n1 : xs.length ≤ 2 ^ 40) (n2 : ys.length ≤ 2 ^ 40) :
    Calls Try.prog 179 #[.agg #[.bool n, .int .i64 p, .int .i64 q, .slice a1 xs.length c1, .slice a2 ys.length c2, .int .i64 v, .int .i64 k]] w fun e w' => e = .returned (.bool (likeE n true (p, q) (0, 0) xs ys [] [] v k 0 0)) ∧ Below w.heap.size w w' := by
  have H1 : Hid (Sl w a1 xs) := h1
  have H2 : Hid (Sl w a2 ys) := h2
  clear h1 h2
  obtain ⟨W, hW⟩ : ∃ W, W = w.alloc (.cells #[.bool n, .int .i64 p, .int .i64 q, .slice a1 xs.length c1, .slice a2 ys.length c2, .int .i64 v, .int .i64 k] 186) := ⟨_, rfl⟩
  have BW : Hid (Below w.heap.size w W) := by show Below _ _ _; rw [hW]; exact (Below.refl _ _).alloc (Nat.le_refl _) _
  have HW : Hid (W = _) := hW
  clear hW
  go_enter Try.func179, Try.ntmps179
  go_wp2_with fail
  rw [← HW.out]
  refine (implCertLike n true p q 0 0 a1 a2 none none c1 c2 0 0 xs ys [] [] v k 0 0 W (H1.out.below BW.out) (H2.out.below BW.out) (.inl rfl) (.inl rfl) n1 n2 (by simp) (by simp)).mono ?_
  rintro e w1 ⟨rfl, b1⟩
  have B1 : Hid (Below w.heap.size w w1) := BW.out.trans (b1.mono BW.out.size)
  clear b1
  generalize hr : likeE n true (p, q) (0, 0) xs ys [] [] v k 0 0 = r
  have HR : Hid (_ = r) := hr
  clear hr
  go_wp2_with fail
  go_ret
  exact ⟨ret_bool HR.out.symm, B1.out⟩

set_option maxRecDepth 100000 in
set_option maxHeartbeats 1000000 in
theorem implRunRight (n : Bool) (p q : Int) (a1 a2 : Option Addr) (c1 c2 : Nat) (xs ys : List P2) (v k : Int) (w : World) (h1 : Sl w a1 xs) (h2 : Sl w a2 ys) (n1 : xs.length ≤ 2 ^ 40) (n2 : ys.length ≤ 2 ^ 40) :
    Calls Try.prog 181 #[.agg #[.bool n, .int .i64 p, .int .i64 q, .slice a1 xs.length c1, .slice a2 ys.length c2, .int .i64 v, .int .i64 k]] w fun e w' => e = .returned (.bool (reqOk p q && execOk xs ys v k && k != 3)) ∧ Below w.heap.size w w' := by
  have H1 : Hid (Sl w a1 xs) := h1
  have H2 : Hid (Sl w a2 ys) := h2
  clear h1 h2
  obtain ⟨W, hW⟩ : ∃ W, W = w.alloc (.cells #[.bool n, .int .i64 p, .int .i64 q, .slice a1 xs.length c1, .slice a2 ys.length c2, .int .i64 v, .int .i64 k] 187) := ⟨_, rfl⟩
  have BW : Hid (Below w.heap.size w W) := by show Below _ _ _; rw [hW]; exact (Below.refl _ _).alloc (Nat.le_refl _) _
  have G0 : Hid (Blk W w.heap.size #[.bool n, .int .i64 p, .int .i64 q, .slice a1 xs.length c1, .slice a2 ys.length c2, .int .i64 v, .int .i64 k] 187) := by show Blk _ _ _ _; rw [hW]; exact Blk.new _ _ _
  have HW : Hid (W = _) := hW
  clear hW
  obtain ⟨T, hT⟩ : ∃ T, T = (reqOk p q && execOk xs ys v k && k != 3) := ⟨_, rfl⟩
  have HT : Hid (T = (reqOk p q && execOk xs ys v k && k != 3)) := hT
  rw [← hT]
  clear hT
  go_enter Try.func181, Try.ntmps181
  go_wp2_with fail
  rw [← HW.out]
  refine (implReqOk p q W).mono ?_
  rintro e w1 ⟨rfl, b1⟩
  have B1 : Hid (Below w.heap.size w w1) := BW.out.trans (b1.mono BW.out.size)
  have D0 : Hid (Blk w1 w.heap.size _ _) := G0.out.keep b1
  obtain ⟨q0, q1, q2, q3, q4, q5, q6⟩ := D0.out.cells7
  clear b1
  generalize reqOk p q = r1 at HT ⊢
  cases r1 with
  | false =>
    have F : Hid (T = false) := by show _ = _; rw [HT.out]; rfl
    go_wp2_with fail
    go_ret
    exact ⟨ret_bool F.out.symm, B1.out⟩
  | true =>
    go_wp2_with fail
    refine (implExecOk a1 a2 c1 c2 xs ys v k w1 (H1.out.below B1.out) (H2.out.below B1.out) n1 n2).mono ?_
    rintro e w2 ⟨rfl, b2⟩
    have B2 : Hid (Below w.heap.size w w2) := B1.out.trans (b2.mono B1.out.size)
    obtain ⟨r0, r1, r2, r3, r4, r5, r6⟩ := (D0.out.keep b2).cells7
    clear b2 q0 q1 q2 q3 q4 q5 q6
    generalize execOk xs ys v k = r2' at HT ⊢
    cases r2' with
    | false =>
      have F : Hid (T = false) := by show _ = _; rw [HT.out]; rfl
      go_wp2_with fail
      go_ret
      exact ⟨ret_bool F.out.symm, B2.out⟩
    | true =>
      have F : Hid (T = (k != 3)) := by show _ = _; rw [HT.out]; rfl
      go_wp2_with fail
      go_ret
      exact ⟨ret_bool F.out.symm, B2.out⟩
end Go.Proofs.Ytbbbfnfpmaogoaa.Own

namespace Go.Proofs.Ytbbbfnfpmaogoaa.Own
open Go.RowKit
set_option linter.unusedVariables false

/-- A ballot is 1 to 3000. -/
def isBal (n : Int) : Bool := decide (1 ≤ n) && decide (n ≤ 3000)
theorem isBal_iff {n : Int} : isBal n = true ↔ 1 ≤ n ∧ n ≤ 3000 := by simp [isBal]
theorem isBal_not {n : Int} : isBal n = false ↔ (n < 1 ∨ 3000 < n) := by
  rw [← Bool.not_eq_true, isBal_iff]; omega
set_option maxRecDepth 100000 in
set_option maxHeartbeats 1000000 in
theorem implIsBallot (n : Int) (w : World) : Calls Try.prog 109 #[.int .i64 n] w fun e w' => e = .returned (.bool (isBal n)) ∧ w' = w := by
  by_cases h1 : 1 ≤ n
  · by_cases h2 : n ≤ 3000
    · have e : isBal n = true := isBal_iff.2 ⟨h1, h2⟩
      rw [e]
      go_enter Try.func109, Try.ntmps109
      go_wp2
      go_ret
      first | exact ⟨rfl, rfl⟩ | (refine ⟨?_, rfl⟩; simp [h1, h2])
    · have e : isBal n = false := isBal_not.2 (by omega)
      rw [e]
      go_enter Try.func109, Try.ntmps109
      go_wp2
      go_ret
      first | exact ⟨rfl, rfl⟩ | (refine ⟨?_, rfl⟩; simp [h1, h2])
  · have e : isBal n = false := isBal_not.2 (by omega)
    rw [e]
    go_enter Try.func109, Try.ntmps109
    go_wp2
    go_ret
    first | exact ⟨rfl, rfl⟩ | (refine ⟨?_, rfl⟩; simp [h1])

set_option maxRecDepth 100000 in
set_option maxHeartbeats 1000000 in
theorem specBal (n : Int) (w : World) : Calls Try.prog 97 #[.int .i64 n] w fun e w' => e = .returned (.bool (isBal n)) ∧ w' = w := by
  by_cases h1 : 1 ≤ n
  · by_cases h2 : n ≤ 3000
    · have e : isBal n = true := isBal_iff.2 ⟨h1, h2⟩
      rw [e]
      go_enter Try.func97, Try.ntmps97
      go_wp2
      go_ret
      first | exact ⟨rfl, rfl⟩ | (refine ⟨?_, rfl⟩; simp [h1, h2])
    · have e : isBal n = false := isBal_not.2 (by omega)
      rw [e]
      go_enter Try.func97, Try.ntmps97
      go_wp2
      go_ret
      first | exact ⟨rfl, rfl⟩ | (refine ⟨?_, rfl⟩; simp [h1, h2])
  · have e : isBal n = false := isBal_not.2 (by omega)
    rw [e]
    go_enter Try.func97, Try.ntmps97
    go_wp2
    go_ret
    first | exact ⟨rfl, rfl⟩ | (refine ⟨?_, rfl⟩; simp [h1])
end Go.Proofs.Ytbbbfnfpmaogoaa.Own

namespace Go.Proofs.Ytbbbfnfpmaogoaa.Own
open Go.RowKit
set_option linter.unusedVariables false

/-- An entry that is not there. -/
def noneE (e : EB) : Bool := likeE e.n false (e.p, e.q) (0, 0) e.xs e.ys [] [] e.v e.k 0 0
/-- An entry that is right. -/
def rightE (e : EB) : Bool := entOk e.n e.p e.q e.xs e.ys e.v e.k
/-- A vote that is right, or none. -/
def voteOk (x : V) : Bool := if x.1 = 0 then noneE x.2 else isBal x.1 && rightE x.2
def votesOk (bs : List V) : Bool := decide (bs.length ≤ 40) && bs.all voteOk
/-- A vote that nobody can have whose last ballot is m. -/
def barsV (m : Int) (x : V) : Bool := if x.1 == 0 && noneE x.2 then false else !isBal x.1 || decide (m < x.1) || !rightE x.2
def votesUpto (m : Int) (bs : List V) : Bool := decide (bs.length ≤ 40) && !bs.any (barsV m)
def accOk (m : Int) (bs : List V) : Bool := decide (0 ≤ m) && decide (m ≤ 3000) && votesOk bs && bs.all fun x => decide (x.1 ≤ m)
theorem bars_eq {m : Int} (hm : 0 ≤ m) (x : V) : barsV m x = !(voteOk x && decide (x.1 ≤ m)) := by
  obtain ⟨b, e⟩ := x
  unfold barsV voteOk
  by_cases h : b = 0
  · subst h
    have hb : isBal 0 = false := by decide
    simp [hb, hm]
  · have hb : (b == 0) = false := by simpa using h
    simp only [hb, h, if_false, Bool.false_and, Bool.not_and, Bool.false_eq_true]
    by_cases hl : m < b
    · have : ¬ b ≤ m := by omega
      simp [hl, this]
    · have : b ≤ m := by omega
      simp [hl, this]
theorem bars_top (x : V) : barsV 3000 x = !voteOk x := by
  rw [bars_eq (by omega)]
  congr 1
  obtain ⟨b, e⟩ := x
  unfold voteOk
  by_cases h : b = 0
  · subst h; simp
  · simp only [h, if_false]
    cases hb : isBal b with
    | false => simp
    | true =>
      have := (isBal_iff.1 hb).2
      simp [this]
theorem votesUpto_top (bs : List V) : votesUpto 3000 bs = votesOk bs := by
  unfold votesUpto votesOk
  congr 1
  rw [show barsV 3000 = fun x => !voteOk x from funext bars_top]
  induction bs with
  | nil => rfl
  | cons x xs ih => simp [ih]
theorem votesUpto_acc {m : Int} (hm : 0 ≤ m) (bs : List V) : votesUpto m bs = (votesOk bs && bs.all fun x => decide (x.1 ≤ m)) := by
  unfold votesUpto votesOk
  rw [show barsV m = fun x => !(voteOk x && decide (x.1 ≤ m)) from funext (bars_eq hm), Bool.and_assoc]
  congr 1
  induction bs with
  | nil => rfl
  | cons x xs ih =>
    simp only [List.any_cons, List.all_cons, Bool.not_or, Bool.not_not, ih]
    cases voteOk x <;> cases decide (x.1 ≤ m) <;> simp
theorem accOk_upto (m : Int) (bs : List V) : accOk m bs = (decide (0 ≤ m) && decide (m ≤ 3000) && votesUpto m bs) := by
  unfold accOk
  by_cases h : 0 ≤ m
  · rw [votesUpto_acc h]; simp only [Bool.and_assoc]
  · simp [h]
theorem accOk_iff {m : Int} {bs : List V} (h : accOk m bs = true) : 0 ≤ m ∧ m ≤ 3000 ∧ votesOk bs = true ∧ ∀ x, x ∈ bs → x.1 ≤ m := by
  simp [accOk] at h
  exact ⟨h.1.1.1, h.1.1.2, h.1.2, fun x hx => h.2 x.1 x.2 hx⟩

/-- Two votes are one. -/
def sameV (x y : V) : Bool := x.1 == y.1 && likeE x.2.n y.2.n (x.2.p, x.2.q) (y.2.p, y.2.q) x.2.xs x.2.ys y.2.xs y.2.ys x.2.v x.2.k y.2.v y.2.k
def sameVs (xs ys : List V) : Bool := decide (xs.length = ys.length) && (List.range xs.length).all fun i => sameV (xs.getD i (0, e0)) (ys.getD i (0, e0))
theorem sameVs_len {xs ys : List V} (h : xs.length ≠ ys.length) : sameVs xs ys = false := by simp [sameVs, h]
theorem sameVs_not {xs ys : List V} {i : Nat} (hi : i < xs.length) (h : sameV (xs.getD i (0, e0)) (ys.getD i (0, e0)) = false) : sameVs xs ys = false := by
  unfold sameVs
  have : ((List.range xs.length).all fun i => sameV (xs.getD i (0, e0)) (ys.getD i (0, e0))) = false := by
    rw [Bool.eq_false_iff]
    intro e
    rw [List.all_eq_true] at e
    have := e i (List.mem_range.2 hi)
    rw [h] at this
    cases this
  rw [this, Bool.and_false]
theorem sameVs_all {xs ys : List V} (hl : xs.length = ys.length) (h : ∀ i, i < xs.length → sameV (xs.getD i (0, e0)) (ys.getD i (0, e0)) = true) : sameVs xs ys = true := by
  unfold sameVs
  rw [Bool.and_eq_true]
  refine ⟨by simpa using hl, ?_⟩
  rw [List.all_eq_true]
  exact fun i hi => h i (List.mem_range.1 hi)
theorem allV_at {α : Type} {p : α → Bool} {l : List α} (d : α) (h : ∀ i, i < l.length → p (l.getD i d) = true) : l.all p = true := by
  rw [List.all_eq_true]
  intro x hx
  obtain ⟨i, hi, rfl⟩ := List.getElem_of_mem hx
  have := h i hi
  simpa [List.getD, hi] using this
theorem allV_not {α : Type} {p : α → Bool} {l : List α} (d : α) {i : Nat} (hi : i < l.length) (h : p (l.getD i d) = false) : l.all p = false := by
  rw [Bool.eq_false_iff]
  intro e
  rw [List.all_eq_true] at e
  have := e (l.getD i d) (by simp [List.getD, hi])
  rw [h] at this
  cases this
theorem anyV_at {α : Type} {p : α → Bool} {l : List α} (d : α) (h : ∀ i, i < l.length → p (l.getD i d) = false) : l.any p = false := by
  rw [Bool.eq_false_iff]
  intro e
  rw [List.any_eq_true] at e
  obtain ⟨x, hx, e⟩ := e
  obtain ⟨i, hi, rfl⟩ := List.getElem_of_mem hx
  have := h i hi
  simp [List.getD, hi] at this
  rw [this] at e
  cases e
theorem anyV_hit {α : Type} {p : α → Bool} {l : List α} (d : α) {i : Nat} (hi : i < l.length) (h : p (l.getD i d) = true) : l.any p = true := by
  rw [List.any_eq_true]
  exact ⟨l.getD i d, by simp [List.getD, hi], h⟩
end Go.Proofs.Ytbbbfnfpmaogoaa.Own

namespace Go.Proofs.Ytbbbfnfpmaogoaa.Own
open Go.RowKit
set_option linter.unusedVariables false

def nodeId (n : Int) : Bool := decide (0 ≤ n) && decide (n < 3)
def inSpan (a b n : Int) : Bool := decide (a ≤ n) && decide (n ≤ b)
/-- What the messages of a kind have. -/
def formOk (kind bal slot : Int) (b : EB) (bs : List V) : Bool :=
  if kind = 1 then isBal bal && inSpan 0 40 slot && noneE b && decide (bs.length = 0)
  else if kind = 2 then isBal bal && inSpan 0 40 slot && noneE b && (votesOk bs && decide (slot + bs.length ≤ 40))
  else if kind = 3 then isBal bal && inSpan 0 39 slot && rightE b && decide (bs.length = 0)
  else if kind = 4 then isBal bal && inSpan 0 40 slot && noneE b && decide (bs.length = 0)
  else if kind = 5 then inSpan 0 0 bal && inSpan 0 39 slot && rightE b && decide (bs.length = 0)
  else if kind = 6 then isBal bal && inSpan 0 0 slot && noneE b && decide (bs.length = 0)
  else if kind = 7 then inSpan 0 0 bal && inSpan 0 0 slot && (rightE b && !b.n) && decide (bs.length = 0)
  else if kind = 8 then inSpan 0 0 bal && inSpan 0 40 slot && noneE b && decide (bs.length = 0)
  else false
def msgOk (x : MM) : Bool := nodeId x.src && nodeId x.dst && x.src != x.dst && formOk x.kind x.bal x.slot x.b (bodies x.vs)
theorem msgOk_cp (x : MM) (g : GM) : msgOk (cpM g x) = msgOk x := by simp only [msgOk, cpM, vmsOf_bodies]
theorem isBal_span (n : Int) : isBal n = inSpan 1 3000 n := rfl
theorem span_at {a n : Int} : inSpan a a n = (n == a) := by
  unfold inSpan
  by_cases h : n = a
  · subst h; simp
  · have : (n == a) = false := by simpa using h
    rw [this]
    by_cases h1 : a ≤ n
    · have : ¬ n ≤ a := by omega
      simp [this]
    · simp [h1]
theorem form_slot {kind bal slot : Int} {b : EB} {bs : List V} (h : slot < 0 ∨ 40 < slot) : formOk kind bal slot b bs = false := by
  have a : inSpan 0 40 slot = false := by unfold inSpan; rcases h with h | h <;> simp <;> omega
  have c : inSpan 0 39 slot = false := by unfold inSpan; rcases h with h | h <;> simp <;> omega
  have d : inSpan 0 0 slot = false := by unfold inSpan; rcases h with h | h <;> simp <;> omega
  unfold formOk
  simp only [a, c, d, Bool.and_false, Bool.false_and]
  simp
theorem form_votes {kind bal slot : Int} {b : EB} {bs : List V} (hk : kind ≠ 2) (h : 0 < bs.length) : formOk kind bal slot b bs = false := by
  have a : decide (bs.length = 0) = false := decide_eq_false (by omega)
  unfold formOk
  simp only [a, hk, Bool.and_false, if_false]
  simp
end Go.Proofs.Ytbbbfnfpmaogoaa.Own

namespace Go.Proofs.Ytbbbfnfpmaogoaa.Own
open Go.RowKit
set_option linter.unusedVariables false
set_option linter.unusedSimpArgs false

set_option maxHeartbeats 400000 in
theorem l2Reg (n : Int) (w : World) : Calls Try.prog 155 #[.int .i64 n] w fun e w' => e = .returned (.bool (regOk n)) ∧ w' = w := by
  have e : Hid (regOk n = (decide (0 ≤ n) && decide (n ≤ 3))) := rfl
  generalize regOk n = r at e ⊢
  by_cases h1 : 0 ≤ n
  · by_cases h2 : n < 4
    all_goals
      go_enter Try.func155, Try.ntmps155
      go_wp2
      go_ret
      exact ⟨ret_bool (by rw [e.out]; simp [h1]; omega), rfl⟩
  · have h1' : n < 0 := by omega
    go_enter Try.func155, Try.ntmps155
    go_wp2
    go_ret
    exact ⟨ret_bool (by rw [e.out]; simp; omega), rfl⟩

set_option maxHeartbeats 400000 in
theorem l2Box (n : Int) (w : World) : Calls Try.prog 145 #[.int .i64 n] w fun e w' => e = .returned (.bool (regOk n)) ∧ w' = w := by
  have e : Hid (regOk n = (decide (0 ≤ n) && decide (n ≤ 3))) := rfl
  generalize regOk n = r at e ⊢
  by_cases h1 : 0 ≤ n
  · by_cases h2 : n < 4
    all_goals
      go_enter Try.func145, Try.ntmps145
      go_wp2
      go_ret
      exact ⟨ret_bool (by rw [e.out]; simp [h1]; omega), rfl⟩
  · have h1' : n < 0 := by omega
    go_enter Try.func145, Try.ntmps145
    go_wp2
    go_ret
    exact ⟨ret_bool (by rw [e.out]; simp; omega), rfl⟩

set_option maxHeartbeats 400000 in
theorem l1Num2 (n : Int) (w : World) : Calls Try.prog 144 #[.int .i64 n] w fun e w' => e = .returned (.bool (numOk2 n)) ∧ w' = w := by
  have e : Hid (numOk2 n = (decide (-1000000 ≤ n) && decide (n ≤ 1000000))) := rfl
  generalize numOk2 n = r at e ⊢
  by_cases h1 : -1000000 ≤ n
  · by_cases h2 : n ≤ 1000000
    all_goals
      go_enter Try.func144, Try.ntmps144
      go_wp2
      go_ret
      exact ⟨ret_bool (by rw [e.out]; simp [h1, h2]), rfl⟩
  · have h1' : n < -1000000 := by omega
    go_enter Try.func144, Try.ntmps144
    go_wp2
    go_ret
    exact ⟨ret_bool (by rw [e.out]; simp; omega), rfl⟩

set_option maxRecDepth 100000 in
set_option maxHeartbeats 2000000 in
theorem l2Ins1 (a b n : Int) (w : World) : Calls Try.prog 152 #[.agg #[.int .i64 1, .int .i64 a, .int .i64 b, .int .i64 n]] w fun e w' => e = .returned (.bool (regOk a && regOk b && (n == 0))) ∧ Below w.heap.size w w' := by
  cases ha : regOk a with
  | false =>
    go_enter Try.func152, Try.ntmps152
    go_wp2_with (first | (go_at_call 155; refine (l2Reg _ _).mono ?_; rintro e w' ⟨rfl, rfl⟩) | (go_at_call 145; refine (l2Box _ _).mono ?_; rintro e w' ⟨rfl, rfl⟩) | (go_at_call 144; refine (l1Num2 _ _).mono ?_; rintro e w' ⟨rfl, rfl⟩))
    go_ret
    exact ⟨ret_bool (by simp), (Below.refl _ _).alloc (Nat.le_refl _) _⟩
  | true =>
    cases hb : regOk b with
    | false =>
      go_enter Try.func152, Try.ntmps152
      go_wp2_with (first | (go_at_call 155; refine (l2Reg _ _).mono ?_; rintro e w' ⟨rfl, rfl⟩) | (go_at_call 145; refine (l2Box _ _).mono ?_; rintro e w' ⟨rfl, rfl⟩) | (go_at_call 144; refine (l1Num2 _ _).mono ?_; rintro e w' ⟨rfl, rfl⟩))
      go_ret
      exact ⟨ret_bool (by simp), (Below.refl _ _).alloc (Nat.le_refl _) _⟩
    | true =>
      cases hn : (n == 0) with
      | false =>
        go_enter Try.func152, Try.ntmps152
        go_wp2_with (first | (go_at_call 155; refine (l2Reg _ _).mono ?_; rintro e w' ⟨rfl, rfl⟩) | (go_at_call 145; refine (l2Box _ _).mono ?_; rintro e w' ⟨rfl, rfl⟩) | (go_at_call 144; refine (l1Num2 _ _).mono ?_; rintro e w' ⟨rfl, rfl⟩))
        go_ret
        exact ⟨ret_bool (by simp), (Below.refl _ _).alloc (Nat.le_refl _) _⟩
      | true =>
        go_enter Try.func152, Try.ntmps152
        go_wp2_with (first | (go_at_call 155; refine (l2Reg _ _).mono ?_; rintro e w' ⟨rfl, rfl⟩) | (go_at_call 145; refine (l2Box _ _).mono ?_; rintro e w' ⟨rfl, rfl⟩) | (go_at_call 144; refine (l1Num2 _ _).mono ?_; rintro e w' ⟨rfl, rfl⟩))
        go_ret
        exact ⟨ret_bool (by simp), (Below.refl _ _).alloc (Nat.le_refl _) _⟩

set_option maxRecDepth 100000 in
set_option maxHeartbeats 2000000 in
theorem l2Ins2 (a b n : Int) (w : World) : Calls Try.prog 152 #[.agg #[.int .i64 2, .int .i64 a, .int .i64 b, .int .i64 n]] w fun e w' => e = .returned (.bool (regOk a && regOk b && (n == 0))) ∧ Below w.heap.size w w' := by
  cases ha : regOk a with
  | false =>
    go_enter Try.func152, Try.ntmps152
    go_wp2_with (first | (go_at_call 155; refine (l2Reg _ _).mono ?_; rintro e w' ⟨rfl, rfl⟩) | (go_at_call 145; refine (l2Box _ _).mono ?_; rintro e w' ⟨rfl, rfl⟩) | (go_at_call 144; refine (l1Num2 _ _).mono ?_; rintro e w' ⟨rfl, rfl⟩))
    go_ret
    exact ⟨ret_bool (by simp), (Below.refl _ _).alloc (Nat.le_refl _) _⟩
  | true =>
    cases hb : regOk b with
    | false =>
      go_enter Try.func152, Try.ntmps152
      go_wp2_with (first | (go_at_call 155; refine (l2Reg _ _).mono ?_; rintro e w' ⟨rfl, rfl⟩) | (go_at_call 145; refine (l2Box _ _).mono ?_; rintro e w' ⟨rfl, rfl⟩) | (go_at_call 144; refine (l1Num2 _ _).mono ?_; rintro e w' ⟨rfl, rfl⟩))
      go_ret
      exact ⟨ret_bool (by simp), (Below.refl _ _).alloc (Nat.le_refl _) _⟩
    | true =>
      cases hn : (n == 0) with
      | false =>
        go_enter Try.func152, Try.ntmps152
        go_wp2_with (first | (go_at_call 155; refine (l2Reg _ _).mono ?_; rintro e w' ⟨rfl, rfl⟩) | (go_at_call 145; refine (l2Box _ _).mono ?_; rintro e w' ⟨rfl, rfl⟩) | (go_at_call 144; refine (l1Num2 _ _).mono ?_; rintro e w' ⟨rfl, rfl⟩))
        go_ret
        exact ⟨ret_bool (by simp), (Below.refl _ _).alloc (Nat.le_refl _) _⟩
      | true =>
        go_enter Try.func152, Try.ntmps152
        go_wp2_with (first | (go_at_call 155; refine (l2Reg _ _).mono ?_; rintro e w' ⟨rfl, rfl⟩) | (go_at_call 145; refine (l2Box _ _).mono ?_; rintro e w' ⟨rfl, rfl⟩) | (go_at_call 144; refine (l1Num2 _ _).mono ?_; rintro e w' ⟨rfl, rfl⟩))
        go_ret
        exact ⟨ret_bool (by simp), (Below.refl _ _).alloc (Nat.le_refl _) _⟩

set_option maxRecDepth 100000 in
set_option maxHeartbeats 2000000 in
theorem l2Ins3 (a b n : Int) (w : World) : Calls Try.prog 152 #[.agg #[.int .i64 3, .int .i64 a, .int .i64 b, .int .i64 n]] w fun e w' => e = .returned (.bool (regOk a && (b == 0) && numOk2 n)) ∧ Below w.heap.size w w' := by
  cases ha : regOk a with
  | false =>
    go_enter Try.func152, Try.ntmps152
    go_wp2_with (first | (go_at_call 155; refine (l2Reg _ _).mono ?_; rintro e w' ⟨rfl, rfl⟩) | (go_at_call 145; refine (l2Box _ _).mono ?_; rintro e w' ⟨rfl, rfl⟩) | (go_at_call 144; refine (l1Num2 _ _).mono ?_; rintro e w' ⟨rfl, rfl⟩))
    go_ret
    exact ⟨ret_bool (by simp), (Below.refl _ _).alloc (Nat.le_refl _) _⟩
  | true =>
    cases hb : (b == 0) with
    | false =>
      go_enter Try.func152, Try.ntmps152
      go_wp2_with (first | (go_at_call 155; refine (l2Reg _ _).mono ?_; rintro e w' ⟨rfl, rfl⟩) | (go_at_call 145; refine (l2Box _ _).mono ?_; rintro e w' ⟨rfl, rfl⟩) | (go_at_call 144; refine (l1Num2 _ _).mono ?_; rintro e w' ⟨rfl, rfl⟩))
      go_ret
      exact ⟨ret_bool (by simp), (Below.refl _ _).alloc (Nat.le_refl _) _⟩
    | true =>
      cases hn : numOk2 n with
      | false =>
        go_enter Try.func152, Try.ntmps152
        go_wp2_with (first | (go_at_call 155; refine (l2Reg _ _).mono ?_; rintro e w' ⟨rfl, rfl⟩) | (go_at_call 145; refine (l2Box _ _).mono ?_; rintro e w' ⟨rfl, rfl⟩) | (go_at_call 144; refine (l1Num2 _ _).mono ?_; rintro e w' ⟨rfl, rfl⟩))
        go_ret
        exact ⟨ret_bool (by simp), (Below.refl _ _).alloc (Nat.le_refl _) _⟩
      | true =>
        go_enter Try.func152, Try.ntmps152
        go_wp2_with (first | (go_at_call 155; refine (l2Reg _ _).mono ?_; rintro e w' ⟨rfl, rfl⟩) | (go_at_call 145; refine (l2Box _ _).mono ?_; rintro e w' ⟨rfl, rfl⟩) | (go_at_call 144; refine (l1Num2 _ _).mono ?_; rintro e w' ⟨rfl, rfl⟩))
        go_ret
        exact ⟨ret_bool (by simp), (Below.refl _ _).alloc (Nat.le_refl _) _⟩

set_option maxRecDepth 100000 in
set_option maxHeartbeats 2000000 in
theorem l2Ins4 (a b n : Int) (w : World) : Calls Try.prog 152 #[.agg #[.int .i64 4, .int .i64 a, .int .i64 b, .int .i64 n]] w fun e w' => e = .returned (.bool (regOk a && regOk b && (n == 0))) ∧ Below w.heap.size w w' := by
  cases ha : regOk a with
  | false =>
    go_enter Try.func152, Try.ntmps152
    go_wp2_with (first | (go_at_call 155; refine (l2Reg _ _).mono ?_; rintro e w' ⟨rfl, rfl⟩) | (go_at_call 145; refine (l2Box _ _).mono ?_; rintro e w' ⟨rfl, rfl⟩) | (go_at_call 144; refine (l1Num2 _ _).mono ?_; rintro e w' ⟨rfl, rfl⟩))
    go_ret
    exact ⟨ret_bool (by simp), (Below.refl _ _).alloc (Nat.le_refl _) _⟩
  | true =>
    cases hb : regOk b with
    | false =>
      go_enter Try.func152, Try.ntmps152
      go_wp2_with (first | (go_at_call 155; refine (l2Reg _ _).mono ?_; rintro e w' ⟨rfl, rfl⟩) | (go_at_call 145; refine (l2Box _ _).mono ?_; rintro e w' ⟨rfl, rfl⟩) | (go_at_call 144; refine (l1Num2 _ _).mono ?_; rintro e w' ⟨rfl, rfl⟩))
      go_ret
      exact ⟨ret_bool (by simp), (Below.refl _ _).alloc (Nat.le_refl _) _⟩
    | true =>
      cases hn : (n == 0) with
      | false =>
        go_enter Try.func152, Try.ntmps152
        go_wp2_with (first | (go_at_call 155; refine (l2Reg _ _).mono ?_; rintro e w' ⟨rfl, rfl⟩) | (go_at_call 145; refine (l2Box _ _).mono ?_; rintro e w' ⟨rfl, rfl⟩) | (go_at_call 144; refine (l1Num2 _ _).mono ?_; rintro e w' ⟨rfl, rfl⟩))
        go_ret
        exact ⟨ret_bool (by simp), (Below.refl _ _).alloc (Nat.le_refl _) _⟩
      | true =>
        go_enter Try.func152, Try.ntmps152
        go_wp2_with (first | (go_at_call 155; refine (l2Reg _ _).mono ?_; rintro e w' ⟨rfl, rfl⟩) | (go_at_call 145; refine (l2Box _ _).mono ?_; rintro e w' ⟨rfl, rfl⟩) | (go_at_call 144; refine (l1Num2 _ _).mono ?_; rintro e w' ⟨rfl, rfl⟩))
        go_ret
        exact ⟨ret_bool (by simp), (Below.refl _ _).alloc (Nat.le_refl _) _⟩

set_option maxRecDepth 100000 in
set_option maxHeartbeats 2000000 in
theorem l2Ins5 (a b n : Int) (w : World) : Calls Try.prog 152 #[.agg #[.int .i64 5, .int .i64 a, .int .i64 b, .int .i64 n]] w fun e w' => e = .returned (.bool (regOk a && regOk b && (n == 0))) ∧ Below w.heap.size w w' := by
  cases ha : regOk a with
  | false =>
    go_enter Try.func152, Try.ntmps152
    go_wp2_with (first | (go_at_call 155; refine (l2Reg _ _).mono ?_; rintro e w' ⟨rfl, rfl⟩) | (go_at_call 145; refine (l2Box _ _).mono ?_; rintro e w' ⟨rfl, rfl⟩) | (go_at_call 144; refine (l1Num2 _ _).mono ?_; rintro e w' ⟨rfl, rfl⟩))
    go_ret
    exact ⟨ret_bool (by simp), (Below.refl _ _).alloc (Nat.le_refl _) _⟩
  | true =>
    cases hb : regOk b with
    | false =>
      go_enter Try.func152, Try.ntmps152
      go_wp2_with (first | (go_at_call 155; refine (l2Reg _ _).mono ?_; rintro e w' ⟨rfl, rfl⟩) | (go_at_call 145; refine (l2Box _ _).mono ?_; rintro e w' ⟨rfl, rfl⟩) | (go_at_call 144; refine (l1Num2 _ _).mono ?_; rintro e w' ⟨rfl, rfl⟩))
      go_ret
      exact ⟨ret_bool (by simp), (Below.refl _ _).alloc (Nat.le_refl _) _⟩
    | true =>
      cases hn : (n == 0) with
      | false =>
        go_enter Try.func152, Try.ntmps152
        go_wp2_with (first | (go_at_call 155; refine (l2Reg _ _).mono ?_; rintro e w' ⟨rfl, rfl⟩) | (go_at_call 145; refine (l2Box _ _).mono ?_; rintro e w' ⟨rfl, rfl⟩) | (go_at_call 144; refine (l1Num2 _ _).mono ?_; rintro e w' ⟨rfl, rfl⟩))
        go_ret
        exact ⟨ret_bool (by simp), (Below.refl _ _).alloc (Nat.le_refl _) _⟩
      | true =>
        go_enter Try.func152, Try.ntmps152
        go_wp2_with (first | (go_at_call 155; refine (l2Reg _ _).mono ?_; rintro e w' ⟨rfl, rfl⟩) | (go_at_call 145; refine (l2Box _ _).mono ?_; rintro e w' ⟨rfl, rfl⟩) | (go_at_call 144; refine (l1Num2 _ _).mono ?_; rintro e w' ⟨rfl, rfl⟩))
        go_ret
        exact ⟨ret_bool (by simp), (Below.refl _ _).alloc (Nat.le_refl _) _⟩

set_option maxRecDepth 100000 in
set_option maxHeartbeats 2000000 in
theorem l2Ins7 (a b n : Int) (w : World) : Calls Try.prog 152 #[.agg #[.int .i64 7, .int .i64 a, .int .i64 b, .int .i64 n]] w fun e w' => e = .returned (.bool ((a == 0) && (b == 0) && (n == 0))) ∧ Below w.heap.size w w' := by
  cases ha : (a == 0) with
  | false =>
    go_enter Try.func152, Try.ntmps152
    go_wp2_with (first | (go_at_call 155; refine (l2Reg _ _).mono ?_; rintro e w' ⟨rfl, rfl⟩) | (go_at_call 145; refine (l2Box _ _).mono ?_; rintro e w' ⟨rfl, rfl⟩) | (go_at_call 144; refine (l1Num2 _ _).mono ?_; rintro e w' ⟨rfl, rfl⟩))
    go_ret
    exact ⟨ret_bool (by simp), (Below.refl _ _).alloc (Nat.le_refl _) _⟩
  | true =>
    cases hb : (b == 0) with
    | false =>
      go_enter Try.func152, Try.ntmps152
      go_wp2_with (first | (go_at_call 155; refine (l2Reg _ _).mono ?_; rintro e w' ⟨rfl, rfl⟩) | (go_at_call 145; refine (l2Box _ _).mono ?_; rintro e w' ⟨rfl, rfl⟩) | (go_at_call 144; refine (l1Num2 _ _).mono ?_; rintro e w' ⟨rfl, rfl⟩))
      go_ret
      exact ⟨ret_bool (by simp), (Below.refl _ _).alloc (Nat.le_refl _) _⟩
    | true =>
      cases hn : (n == 0) with
      | false =>
        go_enter Try.func152, Try.ntmps152
        go_wp2_with (first | (go_at_call 155; refine (l2Reg _ _).mono ?_; rintro e w' ⟨rfl, rfl⟩) | (go_at_call 145; refine (l2Box _ _).mono ?_; rintro e w' ⟨rfl, rfl⟩) | (go_at_call 144; refine (l1Num2 _ _).mono ?_; rintro e w' ⟨rfl, rfl⟩))
        go_ret
        exact ⟨ret_bool (by simp), (Below.refl _ _).alloc (Nat.le_refl _) _⟩
      | true =>
        go_enter Try.func152, Try.ntmps152
        go_wp2_with (first | (go_at_call 155; refine (l2Reg _ _).mono ?_; rintro e w' ⟨rfl, rfl⟩) | (go_at_call 145; refine (l2Box _ _).mono ?_; rintro e w' ⟨rfl, rfl⟩) | (go_at_call 144; refine (l1Num2 _ _).mono ?_; rintro e w' ⟨rfl, rfl⟩))
        go_ret
        exact ⟨ret_bool (by simp), (Below.refl _ _).alloc (Nat.le_refl _) _⟩

set_option maxRecDepth 100000 in
set_option maxHeartbeats 2000000 in
theorem l2Ins6 (a b n : Int) (w : World) : Calls Try.prog 152 #[.agg #[.int .i64 6, .int .i64 a, .int .i64 b, .int .i64 n]] w fun e w' => e = .returned (.bool (regOk a && regOk b && lessOk n)) ∧ Below w.heap.size w w' := by
  cases ha : regOk a with
  | false =>
    go_enter Try.func152, Try.ntmps152
    go_wp2_with (first | (go_at_call 155; refine (l2Reg _ _).mono ?_; rintro e w' ⟨rfl, rfl⟩) | (go_at_call 145; refine (l2Box _ _).mono ?_; rintro e w' ⟨rfl, rfl⟩) | (go_at_call 144; refine (l1Num2 _ _).mono ?_; rintro e w' ⟨rfl, rfl⟩))
    go_ret
    exact ⟨ret_bool (by simp), (Below.refl _ _).alloc (Nat.le_refl _) _⟩
  | true =>
    cases hb : regOk b with
    | false =>
      go_enter Try.func152, Try.ntmps152
      go_wp2_with (first | (go_at_call 155; refine (l2Reg _ _).mono ?_; rintro e w' ⟨rfl, rfl⟩) | (go_at_call 145; refine (l2Box _ _).mono ?_; rintro e w' ⟨rfl, rfl⟩) | (go_at_call 144; refine (l1Num2 _ _).mono ?_; rintro e w' ⟨rfl, rfl⟩))
      go_ret
      exact ⟨ret_bool (by simp), (Below.refl _ _).alloc (Nat.le_refl _) _⟩
    | true =>
      have e : Hid (lessOk n = (decide (1 ≤ n) && decide (n ≤ 10))) := rfl
      generalize lessOk n = r at e ⊢
      by_cases h1 : 1 ≤ n
      · by_cases h2 : n ≤ 10
        all_goals
          go_enter Try.func152, Try.ntmps152
          go_wp2_with (first | (go_at_call 155; refine (l2Reg _ _).mono ?_; rintro e w' ⟨rfl, rfl⟩) | (go_at_call 145; refine (l2Box _ _).mono ?_; rintro e w' ⟨rfl, rfl⟩) | (go_at_call 144; refine (l1Num2 _ _).mono ?_; rintro e w' ⟨rfl, rfl⟩))
          go_ret
          exact ⟨ret_bool (by rw [e.out]; simp [h1, h2]), (Below.refl _ _).alloc (Nat.le_refl _) _⟩
      · have h1' : n < 1 := by omega
        have h1'' : decide (1 ≤ n) = false := by simpa using h1
        go_enter Try.func152, Try.ntmps152
        go_wp2_with (first | (go_at_call 155; refine (l2Reg _ _).mono ?_; rintro e w' ⟨rfl, rfl⟩) | (go_at_call 145; refine (l2Box _ _).mono ?_; rintro e w' ⟨rfl, rfl⟩) | (go_at_call 144; refine (l1Num2 _ _).mono ?_; rintro e w' ⟨rfl, rfl⟩))
        go_ret
        exact ⟨ret_bool (by rw [e.out, h1'']; rfl), (Below.refl _ _).alloc (Nat.le_refl _) _⟩

/-- A kind that there is not. -/
def NoKindS (k : Int) : Prop := (k == 1) = false ∧ (k == 2) = false ∧ (k == 3) = false ∧ (k == 4) = false ∧ (k == 5) = false ∧ (k == 6) = false ∧ (k == 7) = false
theorem noKindS_of {k : Int} (h1 : k ≠ 1) (h2 : k ≠ 2) (h3 : k ≠ 3) (h4 : k ≠ 4) (h5 : k ≠ 5) (h6 : k ≠ 6) (h7 : k ≠ 7) : NoKindS k := by
  simp [NoKindS, h1, h2, h3, h4, h5, h6, h7]

set_option maxRecDepth 100000 in
set_option maxHeartbeats 2000000 in
theorem l2InsNo (k a b n : Int) (w : World) (h : NoKindS k) : Calls Try.prog 152 #[.agg #[.int .i64 k, .int .i64 a, .int .i64 b, .int .i64 n]] w fun e w' => e = .returned (.bool false) ∧ Below w.heap.size w w' := by
  obtain ⟨h1, h2, h3, h4, h5, h6, h7⟩ := h
  go_enter Try.func152, Try.ntmps152
  go_wp2
  go_ret
  exact ⟨rfl, (Below.refl _ _).alloc (Nat.le_refl _) _⟩

theorem l2Ins (p : Q4) (w : World) : Calls Try.prog 152 #[.agg #[.int .i64 p.1, .int .i64 p.2.1, .int .i64 p.2.2.1, .int .i64 p.2.2.2]] w fun e w' => e = .returned (.bool (insOk p)) ∧ Below w.heap.size w w' := by
  obtain ⟨k, a, b, n⟩ := p
  by_cases h1 : k = 1
  · subst h1; rw [insOk_1]; exact l2Ins1 a b n w
  by_cases h2 : k = 2
  · subst h2; rw [insOk_2]; exact l2Ins2 a b n w
  by_cases h3 : k = 3
  · subst h3; rw [insOk_3]; exact l2Ins3 a b n w
  by_cases h4 : k = 4
  · subst h4; rw [insOk_4]; exact l2Ins4 a b n w
  by_cases h5 : k = 5
  · subst h5; rw [insOk_5]; exact l2Ins5 a b n w
  by_cases h6 : k = 6
  · subst h6; rw [insOk_6]; exact l2Ins6 a b n w
  by_cases h7 : k = 7
  · subst h7; rw [insOk_7]; exact l2Ins7 a b n w
  · rw [insOk_no a b n ⟨h1, h2, h3, h4, h5, h6, h7⟩]
    exact l2InsNo k a b n w (noKindS_of h1 h2 h3 h4 h5 h6 h7)
end Go.Proofs.Ytbbbfnfpmaogoaa.Own
