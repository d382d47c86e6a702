/-
  Own text: programs one behind the other: plain mathematics. Nothing of the program.
-/
import Derived.Test.YtiibonnchmphcaaPk3
namespace Go.Proofs.Ytiibonnchmphcaa.Own
open Go.RowKit
set_option linter.unusedVariables false

theorem doPuts_cons (bs : List P2) (y : P2) (ys : List P2) : doPuts bs (y :: ys) = doPuts (put1 bs y) ys := rfl
theorem doPuts_okM {bs ys : List P2} (h : boxOk bs = true) (hy : ∀ p, p ∈ ys → ∃ j : Nat, j < 4 ∧ p.1 = (j : Int) ∧ numOk p.2 = true) : boxOk (doPuts bs ys) = true := by
  induction ys generalizing bs with
  | nil => exact h
  | cons y r ih =>
    obtain ⟨j, hj, e, hv⟩ := hy y (by simp)
    rw [doPuts_cons]
    exact ih (put1_ok h j hj e hv) (fun p hp => hy p (by simp [hp]))
theorem put1_other {bs : List P2} {p : P2} {i : Nat} (h : p.1.toNat ≠ i) : (put1 bs p).getD i (0, 0) = bs.getD i (0, 0) := by
  unfold put1
  simp only [List.getD_eq_getElem?_getD, List.getElem?_set]
  rw [if_neg h]
theorem doPuts_other {bs ys : List P2} {i : Nat} (h : ∀ p, p ∈ ys → p.1.toNat ≠ i) : (doPuts bs ys).getD i (0, 0) = bs.getD i (0, 0) := by
  induction ys generalizing bs with
  | nil => rfl
  | cons y r ih => rw [doPuts_cons, ih (fun p hp => h p (by simp [hp])), put1_other (h y (by simp))]
theorem put1_comm {bs : List P2} {p q : P2} (h : p.1.toNat ≠ q.1.toNat) : put1 (put1 bs p) q = put1 (put1 bs q) p := by
  have h1 := put1_other (bs := bs) h
  have h2 := put1_other (bs := bs) (Ne.symm h)
  have e : ∀ (cs : List P2) (r : P2), put1 cs r = cs.set r.1.toNat (min 1000000 ((cs.getD r.1.toNat (0, 0)).1 + 1), r.2) := fun _ _ => rfl
  rw [e (put1 bs p) q, h1, e (put1 bs q) p, h2, e bs p, e bs q]
  exact List.set_comm _ _ h
theorem doPuts_put1 {bs ys : List P2} {p : P2} (h : ∀ q, q ∈ ys → q.1.toNat ≠ p.1.toNat) : doPuts (put1 bs p) ys = put1 (doPuts bs ys) p := by
  induction ys generalizing bs with
  | nil => rfl
  | cons y r ih =>
    rw [doPuts_cons, doPuts_cons, ← put1_comm (h y (by simp)), ih (fun q hq => h q (by simp [hq]))]
theorem doPuts_comm {bs ps qs : List P2} (h : ∀ p, p ∈ ps → ∀ q, q ∈ qs → p.1.toNat ≠ q.1.toNat) : doPuts (doPuts bs ps) qs = doPuts (doPuts bs qs) ps := by
  induction ps generalizing bs with
  | nil => rfl
  | cons p r ih =>
    rw [doPuts_cons, doPuts_cons, ih (fun p' hp' => h p' (by simp [hp'])), doPuts_put1 (fun q hq => (h p (by simp) q hq).symm)]

/-- What runs put is of boxes, and right, and the program can put there. -/
theorem execRun_puts (bs : List P2) (xs : List Q4) : ∀ p, p ∈ (execRun bs xs).puts → ∃ j : Nat, j < 4 ∧ p.1 = (j : Int) ∧ numOk p.2 = true ∧ (j : Int) ∈ boxesTo putsQ xs 4 := by
  intro p hp
  cases h : boxOk bs && progOk xs with
  | false => rw [execRun_form h] at hp; simp at hp
  | true =>
    simp only [Bool.and_eq_true] at h
    rw [execRun_is h.1 h.2, outR_puts] at hp
    split at hp
    · obtain ⟨j, hj, e, hv, ha⟩ := (inv_of (bs := bs) h.2).pt p hp
      exact ⟨j, hj, e, hv, mem_boxesTo.2 ⟨hj, ha⟩⟩
    · simp at hp
theorem execRun_code {bs : List P2} {xs : List Q4} : (execRun bs xs).code = 3 ↔ (boxOk bs && progOk xs) = false := by
  cases h : boxOk bs && progOk xs with
  | false => rw [execRun_form h]; simp
  | true =>
    simp only [Bool.and_eq_true] at h
    rw [execRun_is h.1 h.2, outR_code]
    have := (inv_of (bs := bs) h.2).code
    simp; omega
theorem execDo_run {bs : List P2} {xs : List Q4} (hb : boxOk bs = true) : execDo bs (execRun bs xs).reads (execRun bs xs).puts (execRun bs xs).val (execRun bs xs).code = doPuts bs (execRun bs xs).puts := by
  simp [execDo, hb, execRun_ok]
theorem doRun_ok {bs : List P2} {xs : List Q4} (hb : boxOk bs = true) (cs : List P2) : boxOk (doPuts bs (execRun cs xs).puts) = true :=
  doPuts_okM hb (fun p hp => by obtain ⟨j, h1, h2, h3, _⟩ := execRun_puts cs xs p hp; exact ⟨j, h1, h2, h3⟩)

/-- A program that runs alone. -/
def serialOne (bs : List P2) (xs : List Q4) : List P2 := if (execRun bs xs).code = 3 then [] else doPuts bs (execRun bs xs).puts

def allStep (s : List P2 × List Int) (p : List Q4) : List P2 × List Int := (doPuts s.1 (execRun s.1 p).puts, s.2 ++ [(execRun s.1 p).val])
/-- Programs that run one behind the other. -/
def runAll (bs : List P2) (ps : List (List Q4)) : List P2 × List Int := ps.foldl allStep (bs, [])
def allOk (bs : List P2) (ps : List (List Q4)) : Bool := boxOk bs && decide (ps.length ≤ 100) && ps.all progOk
def serialAll (bs : List P2) (ps : List (List Q4)) : List P2 × List Int := if allOk bs ps then runAll bs ps else ([], [])

theorem all_from (s : List P2 × List Int) (ps : List (List Q4)) : ps.foldl allStep s = ((runAll s.1 ps).1, s.2 ++ (runAll s.1 ps).2) := by
  unfold runAll
  induction ps generalizing s with
  | nil => simp
  | cons p r ih =>
    rw [List.foldl_cons, List.foldl_cons, ih, ih (allStep (s.1, []) p)]
    simp [allStep, List.append_assoc]
theorem runAll_append (bs : List P2) (ps qs : List (List Q4)) : runAll bs (ps ++ qs) = ((runAll (runAll bs ps).1 qs).1, (runAll bs ps).2 ++ (runAll (runAll bs ps).1 qs).2) := by
  conv => lhs; unfold runAll
  rw [List.foldl_append]
  exact all_from _ _
theorem runAll_snoc (bs : List P2) (ps : List (List Q4)) (p : List Q4) : runAll bs (ps ++ [p]) = allStep (runAll bs ps) p := by
  unfold runAll; rw [List.foldl_append]; rfl
theorem runAll_ok {bs : List P2} (ps : List (List Q4)) (hb : boxOk bs = true) : boxOk (runAll bs ps).1 = true := by
  unfold runAll
  suffices ∀ s : List P2 × List Int, boxOk s.1 = true → boxOk (ps.foldl allStep s).1 = true from this _ hb
  induction ps with
  | nil => exact fun s h => h
  | cons p r ih => exact fun s h => ih _ (doRun_ok h _)
theorem runAll_len (bs : List P2) (ps : List (List Q4)) : (runAll bs ps).2.length = ps.length := by
  unfold runAll
  suffices ∀ s : List P2 × List Int, (ps.foldl allStep s).2.length = s.2.length + ps.length by simpa using this (bs, [])
  induction ps with
  | nil => exact fun s => rfl
  | cons p r ih => exact fun s => by rw [List.foldl_cons, ih]; simp [allStep]; omega

def meetI (a b : List Int) : Bool := a.any fun x => b.any fun y => x == y
theorem meetI_no {a b : List Int} (h : meetI a b = false) {x : Int} (ha : x ∈ a) (hb : x ∈ b) : False := by
  have : meetI a b = true := by
    simp only [meetI, List.any_eq_true]
    exact ⟨x, ha, x, hb, by simp⟩
  rw [h] at this; cases this
theorem meetI_iff {a b : List Int} : meetI a b = true ↔ ∃ x, x ∈ a ∧ x ∈ b := by
  simp only [meetI, List.any_eq_true, beq_iff_eq]
  constructor
  · rintro ⟨x, hx, y, hy, rfl⟩; exact ⟨x, hx, hy⟩
  · rintro ⟨x, hx, hy⟩; exact ⟨x, hx, x, hy, rfl⟩
theorem meetI_comm (a b : List Int) : meetI a b = meetI b a := by
  rw [Bool.eq_iff_iff, meetI_iff, meetI_iff]
  constructor <;> (rintro ⟨x, h1, h2⟩; exact ⟨x, h2, h1⟩)
/-- Two programs can not meet. -/
def serialFree (xs ys : List Q4) : Bool := progOk xs && progOk ys && !meetI (boxesTo putsQ xs 4) (boxesTo putsQ ys 4) && !meetI (boxesTo putsQ xs 4) (boxesTo loadsQ ys 4) && !meetI (boxesTo loadsQ xs 4) (boxesTo putsQ ys 4)
theorem serialFree_comm (xs ys : List Q4) : serialFree xs ys = serialFree ys xs := by
  unfold serialFree
  rw [meetI_comm (boxesTo putsQ xs 4) (boxesTo putsQ ys 4), meetI_comm (boxesTo putsQ xs 4) (boxesTo loadsQ ys 4), meetI_comm (boxesTo loadsQ xs 4) (boxesTo putsQ ys 4)]
  cases progOk xs <;> cases progOk ys <;> cases meetI (boxesTo putsQ ys 4) (boxesTo putsQ xs 4) <;> cases meetI (boxesTo loadsQ ys 4) (boxesTo putsQ xs 4) <;> cases meetI (boxesTo putsQ ys 4) (boxesTo loadsQ xs 4) <;> rfl

/-- Behind a program that puts nothing where another one looks that one does the same. -/
theorem run_behind {bs : List P2} {xs ys : List Q4} (hb : boxOk bs = true) (h : meetI (boxesTo putsQ xs 4) (boxesTo loadsQ ys 4) = false) :
    (execRun (doPuts bs (execRun bs xs).puts) ys).puts = (execRun bs ys).puts ∧ (execRun (doPuts bs (execRun bs xs).puts) ys).val = (execRun bs ys).val ∧ (execRun (doPuts bs (execRun bs xs).puts) ys).code = (execRun bs ys).code := by
  refine execRun_alike (doRun_ok hb _) hb (fun j hj hm => ?_)
  rw [doPuts_other (fun p hp e => ?_)]
  obtain ⟨i, hi, e', _, hm'⟩ := execRun_puts bs xs p hp
  have : i = j := by omega
  subst this
  exact meetI_no h hm' hm

theorem free_parts {xs ys : List Q4} (h : serialFree xs ys = true) : progOk xs = true ∧ progOk ys = true ∧ meetI (boxesTo putsQ xs 4) (boxesTo putsQ ys 4) = false ∧ meetI (boxesTo putsQ xs 4) (boxesTo loadsQ ys 4) = false ∧ meetI (boxesTo loadsQ xs 4) (boxesTo putsQ ys 4) = false := by
  simp only [serialFree, Bool.and_eq_true, Bool.not_eq_true'] at h
  exact ⟨h.1.1.1.1, h.1.1.1.2, h.1.1.2, h.1.2, h.2⟩

/-- Programs that can not meet do the same in either order. -/
theorem free_either {bs : List P2} {xs ys : List Q4} (hb : boxOk bs = true) (h : serialFree xs ys = true) :
    (runAll bs [xs, ys]).1 = (runAll bs [ys, xs]).1 ∧ (runAll bs [xs, ys]).2.getD 0 0 = (runAll bs [ys, xs]).2.getD 1 0 ∧ (runAll bs [xs, ys]).2.getD 1 0 = (runAll bs [ys, xs]).2.getD 0 0 := by
  obtain ⟨_, _, h1, h2, h3⟩ := free_parts h
  rw [meetI_comm] at h3
  have a := run_behind (bs := bs) hb h2
  have b := run_behind (bs := bs) hb h3
  simp only [runAll, List.foldl_cons, List.foldl_nil, allStep, List.nil_append]
  rw [a.1, b.1, a.2.1, b.2.1]
  refine ⟨doPuts_comm (fun p hp q hq e => ?_), rfl, rfl⟩
  obtain ⟨i, hi, e1, _, m1⟩ := execRun_puts bs xs p hp
  obtain ⟨j, hj, e2, _, m2⟩ := execRun_puts bs ys q hq
  have : i = j := by omega
  subst this
  exact meetI_no h1 m1 m2

theorem allOk_two {bs : List P2} {xs ys : List Q4} (hb : boxOk bs = true) (h : serialFree xs ys = true) : allOk bs [xs, ys] = true := by
  obtain ⟨h1, h2, _⟩ := free_parts h
  simp [allOk, hb, h1, h2]
end Go.Proofs.Ytiibonnchmphcaa.Own
