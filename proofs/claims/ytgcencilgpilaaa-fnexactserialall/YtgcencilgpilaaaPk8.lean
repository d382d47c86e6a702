/-
  Own texts, bundled: SerialMath, ExecDoI, ExecDoS3, SerOne, SerOneS, ExecDoS4, SameI, ArgBytes, Pair2, EqualR, EqualP, ExecSameI, ExecSameS.
-/
import Derived.Test.YtgcencilgpilaaaPk4
import Derived.Test.YtgcencilgpilaaaPk3
import Derived.Test.YtgcencilgpilaaaPk7
import Derived.Deep.RegionHeld
import Derived.Test.YtgcencilgpilaaaPk2
import Derived.ChangeKeysEq
import Derived.BigQuiet
import Derived.Deep.QuietTactic
import Derived.Test.YtgcencilgpilaaaPk1
import Derived.ProofKit
import Derived.Deep.Cut
import Derived.Deep.CutRange
namespace Go.Proofs.Ytgcencilgpilaaa.Own
open Go.RowKit
set_option linter.unusedVariables false

theorem doPuts_cons (bs : List P2) (y : P2) (ys : List P2) : doPuts bs (y :: ys) = doPuts (put1 bs y) ys := rfl
theorem doPuts_okM {bs ys : List P2} (h : boxOk bs = true) (hy : ∀ p, p ∈ ys → ∃ j : Nat, j < 4 ∧ p.1 = (j : Int) ∧ numOk p.2 = true) : boxOk (doPuts bs ys) = true := by
  induction ys generalizing bs with
  | nil => exact h
  | cons y r ih =>
    obtain ⟨j, hj, e, hv⟩ := hy y (by simp)
    rw [doPuts_cons]
    exact ih (put1_ok h j hj e hv) (fun p hp => hy p (by simp [hp]))
theorem put1_other {bs : List P2} {p : P2} {i : Nat} (h : p.1.toNat ≠ i) : (put1 bs p).getD i (0, 0) = bs.getD i (0, 0) := by
  unfold put1
  simp only [List.getD_eq_getElem?_getD, List.getElem?_set]
  rw [if_neg h]
theorem doPuts_other {bs ys : List P2} {i : Nat} (h : ∀ p, p ∈ ys → p.1.toNat ≠ i) : (doPuts bs ys).getD i (0, 0) = bs.getD i (0, 0) := by
  induction ys generalizing bs with
  | nil => rfl
  | cons y r ih => rw [doPuts_cons, ih (fun p hp => h p (by simp [hp])), put1_other (h y (by simp))]
theorem put1_comm {bs : List P2} {p q : P2} (h : p.1.toNat ≠ q.1.toNat) : put1 (put1 bs p) q = put1 (put1 bs q) p := by
  have h1 := put1_other (bs := bs) h
  have h2 := put1_other (bs := bs) (Ne.symm h)
  have e : ∀ (cs : List P2) (r : P2), put1 cs r = cs.set r.1.toNat (min 1000000 ((cs.getD r.1.toNat (0, 0)).1 + 1), r.2) := fun _ _ => rfl
  rw [e (put1 bs p) q, h1, e (put1 bs q) p, h2, e bs p, e bs q]
  exact List.set_comm _ _ h
theorem doPuts_put1 {bs ys : List P2} {p : P2} (h : ∀ q, q ∈ ys → q.1.toNat ≠ p.1.toNat) : doPuts (put1 bs p) ys = put1 (doPuts bs ys) p := by
  induction ys generalizing bs with
  | nil => rfl
  | cons y r ih =>
    rw [doPuts_cons, doPuts_cons, ← put1_comm (h y (by simp)), ih (fun q hq => h q (by simp [hq]))]
theorem doPuts_comm {bs ps qs : List P2} (h : ∀ p, p ∈ ps → ∀ q, q ∈ qs → p.1.toNat ≠ q.1.toNat) : doPuts (doPuts bs ps) qs = doPuts (doPuts bs qs) ps := by
  induction ps generalizing bs with
  | nil => rfl
  | cons p r ih =>
    rw [doPuts_cons, doPuts_cons, ih (fun p' hp' => h p' (by simp [hp'])), doPuts_put1 (fun q hq => (h p (by simp) q hq).symm)]

/-- What runs put is of boxes, and right, and the program can put there. -/
theorem execRun_puts (bs : List P2) (xs : List Q4) : ∀ p, p ∈ (execRun bs xs).puts → ∃ j : Nat, j < 4 ∧ p.1 = (j : Int) ∧ numOk p.2 = true ∧ (j : Int) ∈ boxesTo putsQ xs 4 := by
  intro p hp
  cases h : boxOk bs && progOk xs with
  | false => rw [execRun_form h] at hp; simp at hp
  | true =>
    simp only [Bool.and_eq_true] at h
    rw [execRun_is h.1 h.2, outR_puts] at hp
    split at hp
    · obtain ⟨j, hj, e, hv, ha⟩ := (inv_of (bs := bs) h.2).pt p hp
      exact ⟨j, hj, e, hv, mem_boxesTo.2 ⟨hj, ha⟩⟩
    · simp at hp
theorem execRun_code {bs : List P2} {xs : List Q4} : (execRun bs xs).code = 3 ↔ (boxOk bs && progOk xs) = false := by
  cases h : boxOk bs && progOk xs with
  | false => rw [execRun_form h]; simp
  | true =>
    simp only [Bool.and_eq_true] at h
    rw [execRun_is h.1 h.2, outR_code]
    have := (inv_of (bs := bs) h.2).code
    simp; omega
theorem execDo_run {bs : List P2} {xs : List Q4} (hb : boxOk bs = true) : execDo bs (execRun bs xs).reads (execRun bs xs).puts (execRun bs xs).val (execRun bs xs).code = doPuts bs (execRun bs xs).puts := by
  simp [execDo, hb, execRun_ok]
theorem doRun_ok {bs : List P2} {xs : List Q4} (hb : boxOk bs = true) (cs : List P2) : boxOk (doPuts bs (execRun cs xs).puts) = true :=
  doPuts_okM hb (fun p hp => by obtain ⟨j, h1, h2, h3, _⟩ := execRun_puts cs xs p hp; exact ⟨j, h1, h2, h3⟩)

/-- A program that runs alone. -/
def serialOne (bs : List P2) (xs : List Q4) : List P2 := if (execRun bs xs).code = 3 then [] else doPuts bs (execRun bs xs).puts

def allStep (s : List P2 × List Int) (p : List Q4) : List P2 × List Int := (doPuts s.1 (execRun s.1 p).puts, s.2 ++ [(execRun s.1 p).val])
/-- Programs that run one behind the other. -/
def runAll (bs : List P2) (ps : List (List Q4)) : List P2 × List Int := ps.foldl allStep (bs, [])
def allOk (bs : List P2) (ps : List (List Q4)) : Bool := boxOk bs && decide (ps.length ≤ 100) && ps.all progOk
def serialAll (bs : List P2) (ps : List (List Q4)) : List P2 × List Int := if allOk bs ps then runAll bs ps else ([], [])

theorem all_from (s : List P2 × List Int) (ps : List (List Q4)) : ps.foldl allStep s = ((runAll s.1 ps).1, s.2 ++ (runAll s.1 ps).2) := by
  unfold runAll
  induction ps generalizing s with
  | nil => simp
  | cons p r ih =>
    rw [List.foldl_cons, List.foldl_cons, ih, ih (allStep (s.1, []) p)]
    simp [allStep, List.append_assoc]
theorem runAll_append (bs : List P2) (ps qs : List (List Q4)) : runAll bs (ps ++ qs) = ((runAll (runAll bs ps).1 qs).1, (runAll bs ps).2 ++ (runAll (runAll bs ps).1 qs).2) := by
  conv => lhs; unfold runAll
  rw [List.foldl_append]
  exact all_from _ _
theorem runAll_snoc (bs : List P2) (ps : List (List Q4)) (p : List Q4) : runAll bs (ps ++ [p]) = allStep (runAll bs ps) p := by
  unfold runAll; rw [List.foldl_append]; rfl
theorem runAll_ok {bs : List P2} (ps : List (List Q4)) (hb : boxOk bs = true) : boxOk (runAll bs ps).1 = true := by
  unfold runAll
  suffices ∀ s : List P2 × List Int, boxOk s.1 = true → boxOk (ps.foldl allStep s).1 = true from this _ hb
  induction ps with
  | nil => exact fun s h => h
  | cons p r ih => exact fun s h => ih _ (doRun_ok h _)
theorem runAll_len (bs : List P2) (ps : List (List Q4)) : (runAll bs ps).2.length = ps.length := by
  unfold runAll
  suffices ∀ s : List P2 × List Int, (ps.foldl allStep s).2.length = s.2.length + ps.length by simpa using this (bs, [])
  induction ps with
  | nil => exact fun s => rfl
  | cons p r ih => exact fun s => by rw [List.foldl_cons, ih]; simp [allStep]; omega

def meetI (a b : List Int) : Bool := a.any fun x => b.any fun y => x == y
theorem meetI_no {a b : List Int} (h : meetI a b = false) {x : Int} (ha : x ∈ a) (hb : x ∈ b) : False := by
  have : meetI a b = true := by
    simp only [meetI, List.any_eq_true]
    exact ⟨x, ha, x, hb, by simp⟩
  rw [h] at this; cases this
theorem meetI_iff {a b : List Int} : meetI a b = true ↔ ∃ x, x ∈ a ∧ x ∈ b := by
  simp only [meetI, List.any_eq_true, beq_iff_eq]
  constructor
  · rintro ⟨x, hx, y, hy, rfl⟩; exact ⟨x, hx, hy⟩
  · rintro ⟨x, hx, hy⟩; exact ⟨x, hx, x, hy, rfl⟩
theorem meetI_comm (a b : List Int) : meetI a b = meetI b a := by
  rw [Bool.eq_iff_iff, meetI_iff, meetI_iff]
  constructor <;> (rintro ⟨x, h1, h2⟩; exact ⟨x, h2, h1⟩)
/-- Two programs can not meet. -/
def serialFree (xs ys : List Q4) : Bool := progOk xs && progOk ys && !meetI (boxesTo putsQ xs 4) (boxesTo putsQ ys 4) && !meetI (boxesTo putsQ xs 4) (boxesTo loadsQ ys 4) && !meetI (boxesTo loadsQ xs 4) (boxesTo putsQ ys 4)
theorem serialFree_comm (xs ys : List Q4) : serialFree xs ys = serialFree ys xs := by
  unfold serialFree
  rw [meetI_comm (boxesTo putsQ xs 4) (boxesTo putsQ ys 4), meetI_comm (boxesTo putsQ xs 4) (boxesTo loadsQ ys 4), meetI_comm (boxesTo loadsQ xs 4) (boxesTo putsQ ys 4)]
  cases progOk xs <;> cases progOk ys <;> cases meetI (boxesTo putsQ ys 4) (boxesTo putsQ xs 4) <;> cases meetI (boxesTo loadsQ ys 4) (boxesTo putsQ xs 4) <;> cases meetI (boxesTo putsQ ys 4) (boxesTo loadsQ xs 4) <;> rfl

/-- Behind a program that puts nothing where another one looks that one does the same. -/
theorem run_behind {bs : List P2} {xs ys : List Q4} (hb : boxOk bs = true) (h : meetI (boxesTo putsQ xs 4) (boxesTo loadsQ ys 4) = false) :
    (execRun (doPuts bs (execRun bs xs).puts) ys).puts = (execRun bs ys).puts ∧ (execRun (doPuts bs (execRun bs xs).puts) ys).val = (execRun bs ys).val ∧ (execRun (doPuts bs (execRun bs xs).puts) ys).code = (execRun bs ys).code := by
  refine execRun_alike (doRun_ok hb _) hb (fun j hj hm => ?_)
  rw [doPuts_other (fun p hp e => ?_)]
  obtain ⟨i, hi, e', _, hm'⟩ := execRun_puts bs xs p hp
  have : i = j := by omega
  subst this
  exact meetI_no h hm' hm

theorem free_parts {xs ys : List Q4} (h : serialFree xs ys = true) : progOk xs = true ∧ progOk ys = true ∧ meetI (boxesTo putsQ xs 4) (boxesTo putsQ ys 4) = false ∧ meetI (boxesTo putsQ xs 4) (boxesTo loadsQ ys 4) = false ∧ meetI (boxesTo loadsQ xs 4) (boxesTo putsQ ys 4) = false := by
  simp only [serialFree, Bool.and_eq_true, Bool.not_eq_true'] at h
  exact ⟨h.1.1.1.1, h.1.1.1.2, h.1.1.2, h.1.2, h.2⟩

/-- Programs that can not meet do the same in either order. -/
theorem free_either {bs : List P2} {xs ys : List Q4} (hb : boxOk bs = true) (h : serialFree xs ys = true) :
    (runAll bs [xs, ys]).1 = (runAll bs [ys, xs]).1 ∧ (runAll bs [xs, ys]).2.getD 0 0 = (runAll bs [ys, xs]).2.getD 1 0 ∧ (runAll bs [xs, ys]).2.getD 1 0 = (runAll bs [ys, xs]).2.getD 0 0 := by
  obtain ⟨_, _, h1, h2, h3⟩ := free_parts h
  rw [meetI_comm] at h3
  have a := run_behind (bs := bs) hb h2
  have b := run_behind (bs := bs) hb h3
  simp only [runAll, List.foldl_cons, List.foldl_nil, allStep, List.nil_append]
  rw [a.1, b.1, a.2.1, b.2.1]
  refine ⟨doPuts_comm (fun p hp q hq e => ?_), rfl, rfl⟩
  obtain ⟨i, hi, e1, _, m1⟩ := execRun_puts bs xs p hp
  obtain ⟨j, hj, e2, _, m2⟩ := execRun_puts bs ys q hq
  have : i = j := by omega
  subst this
  exact meetI_no h1 m1 m2

theorem allOk_two {bs : List P2} {xs ys : List Q4} (hb : boxOk bs = true) (h : serialFree xs ys = true) : allOk bs [xs, ys] = true := by
  obtain ⟨h1, h2, _⟩ := free_parts h
  simp [allOk, hb, h1, h2]
end Go.Proofs.Ytgcencilgpilaaa.Own

namespace Go.Proofs.Ytgcencilgpilaaa.Own
open Go.RowKit
set_option linter.unusedVariables false
set_option linter.unusedSimpArgs false

theorem getD4 {xs : List P2} (h : xs.length = 4) : xs = [xs.getD 0 (0, 0), xs.getD 1 (0, 0), xs.getD 2 (0, 0), xs.getD 3 (0, 0)] := by
  match xs, h with
  | [a, b, c, d], _ => rfl

theorem arr_at {w : World} {b : Nat} {t : TypeId} {f : Nat × Nat} {xs : List P2} (h : w.heap[b]? = some (.cells (arr8 (xs.getD 0 (0, 0)).1 (xs.getD 0 (0, 0)).2 (xs.getD 1 (0, 0)).1 (xs.getD 1 (0, 0)).2 (xs.getD 2 (0, 0)).1 (xs.getD 2 (0, 0)).2 (xs.getD 3 (0, 0)).1 (xs.getD 3 (0, 0)).2) t f)) (hl : xs.length = 4) : BoxAt w b 0 xs := by
  refine ⟨(Array.getElem?_eq_some_iff.1 h).1, fun i hi => ?_⟩
  rw [cell_heap h, cell_heap h, Nat.zero_add]
  have : i < 4 := by omega
  match i, this with
  | 0, _ | 1, _ | 2, _ | 3, _ => exact ⟨rfl, rfl⟩

set_option maxRecDepth 100000 in
set_option maxHeartbeats 2000000 in
theorem implExecDo (a : Option Addr) (c : Nat) (bs : List P2) (a1 a2 : Option Addr) (c1 c2 : Nat) (xs ys : List P2) (v k : Int) (w : World) (h0 : Sl w a bs) (hc : bs.length ≤ c) (h1 : Sl w a1 xs) (h2 : Sl w a2 ys) (hn1 : xs.length ≤ 2 ^ 40) (hn2 : ys.length ≤ 2 ^ 40) :
    Calls Try.prog 13 #[.slice a bs.length c, .agg #[.slice a1 xs.length c1, .slice a2 ys.length c2, .int .i64 v, .int .i64 k]] w fun e w' => ∃ ad cap, e = .returned (.slice ad (execDo bs xs ys v k).length cap) ∧ (execDo bs xs ys v k).length ≤ cap ∧ OwnB w' w.heap.size ad (execDo bs xs ys v k) ∧ Below w.heap.size w w' := by
  have H0 : Hid (Sl w a bs) := h0
  have H1 : Hid (Sl w a1 xs) := h1
  have H2 : Hid (Sl w a2 ys) := h2
  clear h0 h1 h2
  have E : Hid (execDo bs xs ys v k = if boxOk bs && execOk xs ys v k then doPuts bs ys else []) := rfl
  obtain ⟨W, hW⟩ : ∃ W, W = w.alloc (.cells #[.slice a1 xs.length c1, .slice a2 ys.length c2, .int .i64 v, .int .i64 k] 27) := ⟨_, rfl⟩
  have BW : Hid (Below w.heap.size w W) := by show Below _ _ _; rw [hW]; exact below_new _ _
  have P0 : Hid (C4 W w.heap.size (.slice a1 xs.length c1) (.slice a2 ys.length c2) (.int .i64 v) (.int .i64 k)) := by show C4 _ _ _ _ _ _; rw [hW]; exact C4.new _ _ _ _ _ _
  have HW : Hid (W = _) := hW
  clear hW
  have CB := implOk a c bs W (H0.out.below BW.out) hc
  cases hb : boxOk bs with
  | false =>
    rw [hb] at CB
    have CB' : Hid _ := CB
    have E0 : Hid (execDo bs xs ys v k = []) := by show _ = _; rw [E.out, hb]; rfl
    clear CB
    go_enter Try.func13, Try.ntmps13
    go_wp2_with fail
    rw [← HW.out]
    refine Calls.mono CB'.out ?_
    rintro e w1 ⟨rfl, b1⟩
    have B1 : Hid (Below w.heap.size w w1) := BW.out.trans (b1.mono BW.out.size)
    clear b1
    go_wp2_with fail
    go_ret
    rw [E0.out]
    exact ⟨_, _, rfl, Nat.le_refl _, .inl rfl, B1.out⟩
  | true =>
    rw [hb] at CB
    have CB' : Hid _ := CB
    have HL : Hid (bs.length = 4) := boxOk_len hb
    have HBO : Hid (boxOk bs = true) := hb
    clear CB hb
    go_enter Try.func13, Try.ntmps13
    go_wp2_with fail
    rw [← HW.out]
    refine Calls.mono CB'.out ?_
    rintro e w1 ⟨rfl, b1⟩
    have B1 : Hid (Below W.heap.size W w1) := b1
    clear b1
    obtain ⟨_, q0, q1, q2, q3⟩ := P0.out.below B1.out
    have CE := implExecOk a1 a2 c1 c2 xs ys v k w1 ((H1.out.below BW.out).below B1.out) ((H2.out.below BW.out).below B1.out) hn1 hn2
    cases he : execOk xs ys v k with
    | false =>
      rw [he] at CE
      have CE' : Hid _ := CE
      have E0 : Hid (execDo bs xs ys v k = []) := by show _ = _; rw [E.out, he]; simp
      clear CE
      go_wp2_with fail
      refine Calls.mono CE'.out ?_
      rintro e w2 ⟨rfl, b2⟩
      have B2 : Hid (Below w.heap.size w w2) := BW.out.trans ((B1.out.trans (b2.mono B1.out.size)).mono BW.out.size)
      clear b2
      go_wp2_with fail
      go_ret
      rw [E0.out]
      exact ⟨_, _, rfl, Nat.le_refl _, .inl rfl, B2.out⟩
    | true =>
      rw [he] at CE
      have CE' : Hid _ := CE
      have E2 : Hid (execDo bs xs ys v k = doPuts bs ys) := by show _ = _; rw [E.out, he, HBO.out]; rfl
      have HY : Hid (okAll numOk ys = true) := execOk_puts he
      have HLn : Hid ((doPuts bs ys).length = 4) := by show _ = _; rw [doPuts_length]; exact HL.out
      clear CE he
      go_wp2_with fail
      refine Calls.mono CE'.out ?_
      rintro e w2 ⟨rfl, b2⟩
      have B2 : Hid (Below W.heap.size W w2) := B1.out.trans (b2.mono B1.out.size)
      clear b2 q0 q1 q2 q3
      go_wp2_with fail
      refine (boxesFrom a c bs 0 w2 ((H0.out.below BW.out).below B2.out) hc (Nat.zero_le _)).mono ?_
      rintro e w3 ⟨rfl, b3⟩
      have B3 : Hid (Below W.heap.size W w3) := B2.out.trans (b3.mono B2.out.size)
      clear b3
      have fd : ∀ i, fromD bs 0 i = bs.getD i (0, 0) := fun i => by simp [fromD]
      rw [fd, fd, fd, fd]
      clear fd
      obtain ⟨X, hX⟩ : ∃ X, X = w3.alloc (.cells #[.int .i64 (bs.getD 0 (0, 0)).1, .int .i64 (bs.getD 0 (0, 0)).2, .int .i64 (bs.getD 1 (0, 0)).1, .int .i64 (bs.getD 1 (0, 0)).2, .int .i64 (bs.getD 2 (0, 0)).1, .int .i64 (bs.getD 2 (0, 0)).2, .int .i64 (bs.getD 3 (0, 0)).1, .int .i64 (bs.getD 3 (0, 0)).2] 104) := ⟨_, rfl⟩
      have BX : Hid (Below W.heap.size W X) := by show Below _ _ _; rw [hX]; exact B3.out.alloc B3.out.size _
      have AX : Hid (BoxAt X w3.heap.size 0 bs) := by show BoxAt _ _ _ _; rw [hX]; exact arr_at (heap_new _ _) HL.out
      have FX : Hid (∀ o, X.frozen? ⟨w3.heap.size, o, none⟩ = false) := by show ∀ o, _; rw [hX]; exact fun o => frozen_heap (heap_new _ _) o
      have HX : Hid (X = _) := hX
      clear hX
      generalize bs.getD 0 (0, 0) = e0 at HX
      generalize bs.getD 1 (0, 0) = e1 at HX
      generalize bs.getD 2 (0, 0) = e2 at HX
      generalize bs.getD 3 (0, 0) = e3 at HX
      obtain ⟨_, _, q1, _, _⟩ := P0.out.below BX.out
      have gX : w.heap.size < w3.heap.size := Nat.lt_of_lt_of_le P0.out.1 B3.out.size
      go_upto_region 4 with fail
      rw [← HX.out]
      go_wp2_with fail
      clear q1
      have B3' : Hid (Below w.heap.size w w3) := BW.out.trans (B3.out.mono BW.out.size)
      have X3 : Hid (Below w3.heap.size w3 X) := by show Below _ _ _; rw [HX.out]; exact below_new _ _
      go_loopw [22] (fun i wr => ∃ j : Nat, j ≤ ys.length ∧ i = .int .i64 j ∧ BoxAt wr w3.heap.size 0 (doPuts bs (ys.take j)) ∧ (∀ o, wr.frozen? ⟨w3.heap.size, o, none⟩ = false) ∧ Below w3.heap.size w3 wr) (fun i _ => ys.length - (intOf i).toNat)
      case atStart => exact ⟨0, Nat.zero_le _, rfl, by simpa [doPuts] using AX.out, FX.out, X3.out⟩
      case round =>
        clear X3 AX FX HX BX
        obtain ⟨j, hj, rfl, hA, hF, hB⟩ := hrel
        have HAt : Hid (BoxAt wr w3.heap.size 0 (doPuts bs (ys.take j))) := hA
        have HFr : Hid (∀ o, wr.frozen? ⟨w3.heap.size, o, none⟩ = false) := hF
        have HB : Hid (Below w3.heap.size w3 wr) := hB
        clear hA hF
        by_cases hlt : j < ys.length
        · rcases H2.out with h | ⟨b1, o1, rfl, h1⟩
          · subst h; simp at hlt
          have H1' : Hid (BoxAt wr b1 o1 ys) := (h1.below B3'.out).below hB
          have hb1 : b1 < w3.heap.size := (h1.below B3'.out).1
          clear h1 hB
          obtain ⟨p, hp⟩ : ∃ p, p = ys.getD j (0, 0) := ⟨_, rfl⟩
          obtain ⟨ca, cb⟩ := H1'.out.2 j hlt
          rw [← hp] at ca cb
          have HP : Hid (p = ys.getD j (0, 0)) := hp
          clear hp
          obtain ⟨p1, p2⟩ := p
          obtain ⟨m, hm, hm1⟩ := okAll_box HY.out j hlt
          rw [← HP.out] at hm1
          have hm2 : p1 = (m : Int) := hm1
          clear hm1
          subst hm2
          have OKj := doPuts_ok HBO.out HY.out j hj
          have hver := boxOk_ver OKj m hm
          have hlen : (doPuts bs (ys.take j)).length = 4 := by rw [doPuts_length]; exact HL.out
          have HS : Hid (doPuts bs (ys.take (j + 1)) = (doPuts bs (ys.take j)).set m (min 1000000 (((doPuts bs (ys.take j)).getD m (0, 0)).1 + 1), p2)) := by
            show _ = _
            rw [doPuts_succ _ _ _ hlt, ← HP.out]
            rfl
          generalize doPuts bs (ys.take j) = cur at HAt HS hver hlen
          clear OKj
          obtain ⟨X, hX⟩ : ∃ X, X = wr.alloc (.cells #[.int .i64 (m : Int), .int .i64 p2] 36) := ⟨_, rfl⟩
          have hszw : w3.heap.size < wr.heap.size := HAt.out.1
          have BX : Hid (Below w3.heap.size w3 X) := by show Below _ _ _; rw [hX]; exact HB.out.alloc HB.out.size _
          have AX : Hid (BoxAt X w3.heap.size 0 cur) := by show BoxAt _ _ _ _; rw [hX]; exact HAt.out.below (below_new _ _)
          have FX : Hid (∀ o, X.frozen? ⟨w3.heap.size, o, none⟩ = false) := by show ∀ o, _; intro o; rw [hX, (below_new wr _).frozen (p := ⟨w3.heap.size, o, none⟩) hszw]; exact HFr.out o
          have y0 : X.cell? ⟨wr.heap.size, 0, none⟩ = some (.int .i64 (m : Int)) := by rw [hX, cell_heap (heap_new _ _)]; rfl
          have y1 : X.cell? ⟨wr.heap.size, 1, none⟩ = some (.int .i64 p2) := by rw [hX, cell_heap (heap_new _ _)]; rfl
          have cx := (AX.out.2 m (by rw [hlen]; exact hm)).1
          have cy := (AX.out.2 m (by rw [hlen]; exact hm)).2
          have HN : Hid (BoxAt ((X.setCell ⟨w3.heap.size, 0 + m * 2, none⟩ (.int .i64 (min 1000000 ((cur.getD m (0, 0)).1 + 1)))).setCell ⟨w3.heap.size, 0 + m * 2 + 1, none⟩ (.int .i64 p2)) w3.heap.size 0 (doPuts bs (ys.take (j + 1)))) := by
            show BoxAt _ _ _ _
            rw [HS.out]; exact AX.out.setBoth m (by rw [hlen]; exact hm) _ _
          obtain ⟨x, hx⟩ : ∃ x, x = (cur.getD m (0, 0)).1 := ⟨_, rfl⟩
          rw [← hx] at cx hver HN
          have f0 := FX.out (m * 2)
          have f1 := FX.out (m * 2 + 1)
          simp only [Nat.zero_add] at cx cy HN
          obtain ⟨y, hy⟩ : ∃ y, y = (cur.getD m (0, 0)).2 := ⟨_, rfl⟩
          rw [← hy] at cy
          have HX : Hid (X = _) := hX
          clear hx hy hlen hX HS
          obtain ⟨hv0, hv1⟩ := hver
          have hmi : (m : Int) < 4 := by omega
          obtain ⟨z, hz⟩ : ∃ z, z = min 1000000 (x + 1) := ⟨_, rfl⟩
          have hzz : Hid ((if 1000000 < x + 1 then (1000000 : Int) else x + 1) = z) := by show _ = _; rw [hz]; split <;> omega
          rw [← hz] at HN
          have hne : ¬ wr.heap.size = w3.heap.size := by omega
          have HBz : Hid (Below w3.heap.size w3 ((X.setCell ⟨w3.heap.size, m * 2, none⟩ (.int .i64 z)).setCell ⟨w3.heap.size, m * 2 + 1, none⟩ (.int .i64 p2))) := (BX.out.setCell (Nat.le_refl _) _).setCell (Nat.le_refl _) _
          have HFz : Hid (∀ o, ((X.setCell ⟨w3.heap.size, m * 2, none⟩ (.int .i64 z)).setCell ⟨w3.heap.size, m * 2 + 1, none⟩ (.int .i64 p2)).frozen? ⟨w3.heap.size, o, none⟩ = false) := fun o => by simpa using FX.out o
          go_upto_region 7 with fail
          rw [← HX.out]
          clear ca cb hz
          go_wp2
          rw [hzz.out]
          go_roundw
          case rel => exact ⟨j + 1, by omega, by go_num, HN.out, HFz.out, HBz.out⟩
          case measure => simp [intOf]; omega
        · have hjl : j = ys.length := by omega
          subst hjl
          rw [List.take_length] at HAt
          generalize doPuts bs ys = cur at HAt E2 HLn
          have a0 := HAt.out.2 0 (by rw [HLn.out]; omega)
          have a1' := HAt.out.2 1 (by rw [HLn.out]; omega)
          have a2' := HAt.out.2 2 (by rw [HLn.out]; omega)
          have a3' := HAt.out.2 3 (by rw [HLn.out]; omega)
          simp only [Nat.zero_mul, Nat.zero_add, Nat.one_mul, Nat.reduceMul, Nat.reduceAdd] at a0 a1' a2' a3'
          obtain ⟨z0, z1⟩ := a0
          obtain ⟨z2, z3⟩ := a1'
          obtain ⟨z4, z5⟩ := a2'
          obtain ⟨z6, z7⟩ := a3'
          clear hB
          go_wp2_with fail
          refine (arrList _ _ _ _ _ _ _ _ wr).mono ?_
          rintro e w5 ⟨rfl, h5, b5, s5⟩
          have B5 : Hid (Below w.heap.size w w5) := by
            have h := B3'.out.trans (HB.out.mono B3'.out.size)
            exact h.trans (b5.mono h.size)
          have A5 : Hid (BoxAt w5 (wr.heap.size + 1) 0 cur) := arr_at h5 HLn.out
          have F5 : Hid (∀ o, w5.frozen? ⟨wr.heap.size + 1, o, none⟩ = false) := fun o => frozen_heap h5 o
          have S5 : Hid (w.heap.size ≤ wr.heap.size + 1) := by
            show _ ≤ _
            have := HB.out.size
            omega
          clear h5 b5 s5
          go_wp2
          go_ret
          rw [E2.out]
          exact ⟨_, 4, by rw [HLn.out]; rfl, by rw [HLn.out]; exact Nat.le_refl _, .inr ⟨_, rfl, S5.out, A5.out, F5.out⟩, B5.out⟩
end Go.Proofs.Ytgcencilgpilaaa.Own

namespace Go.Proofs.Ytgcencilgpilaaa.Own
open Go.RowKit
set_option linter.unusedVariables false
set_option linter.unusedSimpArgs false

set_option maxRecDepth 100000 in
set_option maxHeartbeats 2000000 in
theorem specExecDo (a : Option Addr) (c : Nat) (bs : List P2) (a1 a2 : Option Addr) (c1 c2 : Nat) (xs ys : List P2) (v k : Int) (w : World) (h0 : Sl w a bs) (hn0 : bs.length ≤ 2 ^ 40) (h1 : Sl w a1 xs) (h2 : Sl w a2 ys) (hn1 : xs.length ≤ 2 ^ 40) (hn2 : ys.length ≤ 2 ^ 40) (hc1 : xs.length ≤ c1) (hc2 : ys.length ≤ c2) :
    Calls Try.prog 15 #[.slice a bs.length c, .agg #[.slice a1 xs.length c1, .slice a2 ys.length c2, .int .i64 v, .int .i64 k]] w fun e w' => ∃ g cap, e = .returned (.slice (some ⟨g, 0, none⟩) (execDo bs xs ys v k).length cap) ∧ Sl w' (some ⟨g, 0, none⟩) (execDo bs xs ys v k) ∧ w.heap.size ≤ g ∧ (execDo bs xs ys v k = [] ∨ ∀ o, w'.frozen? ⟨g, o, none⟩ = false) ∧ Below w.heap.size w w' := by
  have H0 : Hid (Sl w a bs) := h0
  have H1 : Hid (Sl w a1 xs) := h1
  have H2 : Hid (Sl w a2 ys) := h2
  clear h0 h1 h2
  have E : Hid (execDo bs xs ys v k = if boxOk bs && execOk xs ys v k then doPuts bs ys else []) := rfl
  obtain ⟨W, hW⟩ : ∃ W, W = w.alloc (.cells #[.slice a1 xs.length c1, .slice a2 ys.length c2, .int .i64 v, .int .i64 k] 27) := ⟨_, rfl⟩
  have BW : Hid (Below w.heap.size w W) := by show Below _ _ _; rw [hW]; exact below_new _ _
  have P0 : Hid (C4 W w.heap.size (.slice a1 xs.length c1) (.slice a2 ys.length c2) (.int .i64 v) (.int .i64 k)) := by show C4 _ _ _ _ _ _; rw [hW]; exact C4.new _ _ _ _ _ _
  have HW : Hid (W = _) := hW
  clear hW
  have CB := specOk a c bs W (H0.out.below BW.out) hn0
  cases hb : boxOk bs with
  | false =>
    rw [hb] at CB
    have CB' : Hid _ := CB
    have E0 : Hid (execDo bs xs ys v k = []) := by show _ = _; rw [E.out, hb]; rfl
    clear CB
    go_enter Try.func15, Try.ntmps15
    go_wp2_with fail
    rw [← HW.out]
    refine Calls.mono CB'.out ?_
    rintro e w1 ⟨rfl, rfl⟩
    go_wp2_with fail
    go_ret
    rw [E0.out]
    exact ⟨_, _, rfl, .inl rfl, BW.out.size, .inl rfl, BW.out.alloc BW.out.size _⟩
  | true =>
    rw [hb] at CB
    have CB' : Hid _ := CB
    have HL : Hid (bs.length = 4) := boxOk_len hb
    have HBO : Hid (boxOk bs = true) := hb
    clear CB hb
    go_enter Try.func15, Try.ntmps15
    go_wp2_with fail
    rw [← HW.out]
    refine Calls.mono CB'.out ?_
    rintro e w1 ⟨rfl, hw1⟩
    subst hw1
    obtain ⟨_, q0, q1, q2, q3⟩ := P0.out
    have CE := specExecOk a1 a2 c1 c2 xs ys v k w1 (H1.out.below BW.out) (H2.out.below BW.out) hn1 hn2 hc1 hc2
    cases he : execOk xs ys v k with
    | false =>
      rw [he] at CE
      have CE' : Hid _ := CE
      have E0 : Hid (execDo bs xs ys v k = []) := by show _ = _; rw [E.out, he]; simp
      clear CE
      go_wp2_with fail
      refine Calls.mono CE'.out ?_
      rintro e w2 ⟨rfl, b2⟩
      have B2 : Hid (Below w.heap.size w w2) := BW.out.trans (b2.mono BW.out.size)
      clear b2
      go_wp2_with fail
      go_ret
      rw [E0.out]
      exact ⟨_, _, rfl, .inl rfl, B2.out.size, .inl rfl, B2.out.alloc B2.out.size _⟩
    | true =>
      rw [he] at CE
      have CE' : Hid _ := CE
      have E2 : Hid (execDo bs xs ys v k = doPuts bs ys) := by show _ = _; rw [E.out, he, HBO.out]; rfl
      have HR : Hid (okAll numOk ys = true) := execOk_puts he
      have HLn : Hid ((doPuts bs ys).length = 4) := by show _ = _; rw [doPuts_length]; exact HL.out
      clear CE he
      go_wp2_with fail
      refine Calls.mono CE'.out ?_
      rintro e w2 ⟨rfl, b2⟩
      have B2 : Hid (Below w1.heap.size w1 w2) := b2
      clear b2 q0 q1 q2 q3
      obtain ⟨hlt2, q0, q1, q2, q3⟩ := P0.out.below B2.out
      have HS0 : Hid (Sl w2 a bs) := (H0.out.below BW.out).below B2.out
      have HS2 : Hid (Sl w2 a2 ys) := (H2.out.below BW.out).below B2.out
      have HG2 : Hid (ys = [] ∨ ∀ x, a2 = some x → x.block < w2.heap.size) := by
        rcases HS2.out with h | ⟨b, off, rfl, h⟩
        · exact .inl h
        · exact .inr fun x hx => by injection hx with hx; subst hx; exact h.1
      have AF : Hid (∀ w', Below w2.heap.size w2 w' → w'.cell? ⟨w.heap.size, 0, none⟩ = some (.slice a1 xs.length c1) ∧ w'.cell? ⟨w.heap.size, 1, none⟩ = some (.slice a2 ys.length c2) ∧ w'.cell? ⟨w.heap.size, 2, none⟩ = some (.int .i64 v) ∧ w'.cell? ⟨w.heap.size, 3, none⟩ = some (.int .i64 k)) :=
        fun w' hb => ((P0.out.below B2.out).below hb).2
      have h4 := HL.out
      have CPY : Hid (∀ W, Sl W a bs → Calls Try.prog 67 #[.slice a bs.length c] W fun e w' => ∃ g cap, e = .returned (.slice (some ⟨g, 0, none⟩) 4 cap) ∧ W.heap.size ≤ g ∧ BoxAt w' g 0 bs ∧ (∀ o, w'.frozen? ⟨g, o, none⟩ = false) ∧ Below W.heap.size W w') := fun W h => by
        have := l1Copy a c bs W h HL.out
        rw [HL.out] at this ⊢; exact this
      clear h4
      have DO : Hid (∀ g cap W, BoxAt W g 0 bs → (∀ o, W.frozen? ⟨g, o, none⟩ = false) → Sl W a2 ys → (ys = [] ∨ ∀ x, a2 = some x → x.block ≠ g) → Calls Try.prog 66 #[.slice (some ⟨g, 0, none⟩) 4 cap, .agg #[.slice a1 xs.length c1, .slice a2 ys.length c2, .int .i64 v, .int .i64 k]] W fun e w' => e = .returned (.slice (some ⟨g, 0, none⟩) 4 cap) ∧ BoxAt w' g 0 (doPuts bs ys) ∧ (∀ o, w'.frozen? ⟨g, o, none⟩ = false) ∧ Bar g W w') := by
        intro g cap W h1 h2 h3 h4
        exact l3Do g cap bs a1 a2 xs.length c1 c2 ys v k W HBO.out h1 h2 h3 h4 hn2 HR.out
      go_upto_region 3 with fail
      go_region_with (first | (go_at_call 67; refine (CPY.out _ ?_).mono ?_; exact HS0.out; rintro e w3 ⟨g, cap, rfl, hg, at3, fr3, b3⟩; have B3 : Hid (Below w2.heap.size w2 w3) := Below.trans ((Below.refl _ _).drew) b3; have G3 : Hid (w2.heap.size ≤ g) := hg; have A3 : Hid (BoxAt w3 g 0 bs ∧ ∀ o, w3.frozen? ⟨g, o, none⟩ = false) := ⟨at3, fr3⟩; obtain ⟨r0, r1, r2, r3⟩ := AF.out w3 B3.out; clear hg at3 fr3 b3) | (go_at_call 66; refine (DO.out _ _ _ ?_ ?_ ?_ ?_).mono ?_; exact A3.out.1; exact A3.out.2; exact HS2.out.below B3.out; exact HG2.out.imp id (fun h x hx => by have := h x hx; have := G3.out; omega); rintro e w4 ⟨rfl, at4, fr4, bar4⟩; have A4 : Hid (BoxAt w4 g 0 (doPuts bs ys) ∧ (∀ o, w4.frozen? ⟨g, o, none⟩ = false) ∧ Bar g w3 w4) := ⟨at4, fr4, bar4⟩; clear at4 fr4 bar4))
      all_goals
        go_wp2_with fail
        go_ret
        rw [E2.out]
        have hws : w.heap.size ≤ w2.heap.size := Nat.le_trans BW.out.size B2.out.size
        refine ⟨g, cap, by rw [HLn.out]; rfl, .inr ⟨_, _, rfl, A4.out.1⟩, Nat.le_trans hws G3.out, .inr A4.out.2.1, ?_⟩
        have hb := BW.out.trans ((B2.out.trans (B3.out.mono B2.out.size)).mono BW.out.size)
        exact hb.trans (A4.out.2.2.below (Nat.le_trans hws G3.out) hb.size)
end Go.Proofs.Ytgcencilgpilaaa.Own

namespace Go.Proofs.Ytgcencilgpilaaa.Own
open Go.RowKit
set_option linter.unusedVariables false
set_option linter.unusedSimpArgs false

/-- What a program that runs alone leaves and says. -/
def OnePost (bs : List P2) (xs : List Q4) (B : Nat) (e : Ending) (w' : World) : Prop :=
  ∃ ad cap, e = .returned (.tuple #[.slice ad (serialOne bs xs).length cap, .int .i64 (execRun bs xs).val, .int .i64 (execRun bs xs).code]) ∧ (serialOne bs xs).length ≤ cap ∧ OwnB w' B ad (serialOne bs xs)

theorem serialOne_do {bs : List P2} {xs : List Q4} (h : ¬ (execRun bs xs).code = 3) : boxOk bs = true ∧ progOk xs = true ∧ serialOne bs xs = doPuts bs (execRun bs xs).puts ∧ serialOne bs xs = execDo bs (execRun bs xs).reads (execRun bs xs).puts (execRun bs xs).val (execRun bs xs).code := by
  have h2 : (boxOk bs && progOk xs) = true := by
    cases e : boxOk bs && progOk xs with
    | true => rfl
    | false => exact absurd (execRun_code.2 e) h
  simp only [Bool.and_eq_true] at h2
  have e1 : serialOne bs xs = doPuts bs (execRun bs xs).puts := by unfold serialOne; rw [if_neg h]
  exact ⟨h2.1, h2.2, e1, by rw [e1, execDo_run h2.1]⟩
theorem serialOne_form {bs : List P2} {xs : List Q4} (h : (execRun bs xs).code = 3) : serialOne bs xs = [] ∧ (execRun bs xs).val = 0 := by
  refine ⟨by unfold serialOne; rw [if_pos h], ?_⟩
  rw [execRun_form (execRun_code.1 h)]

set_option maxRecDepth 100000 in
set_option maxHeartbeats 4000000 in
theorem implSerialOne (la pa : Option Addr) (lc pc : Nat) (bs : List P2) (xs : List Q4) (w : World) (hb : Sl w la bs) (hx : Sl4 w pa xs) (hlc : bs.length ≤ lc) (l2 : xs.length ≤ 2 ^ 40) :
    Calls Try.prog 84 #[.slice la bs.length lc, .slice pa xs.length pc] w fun e w' => OnePost bs xs w.heap.size e w' ∧ Below w.heap.size w w' := by
  have SB : Hid (Sl w la bs) := hb
  have SX : Hid (Sl4 w pa xs) := hx
  clear hb hx
  obtain ⟨f1, f2⟩ := execRun_four bs xs
  have EF : Hid ((execRun bs xs).code = 3 → serialOne bs xs = [] ∧ (execRun bs xs).val = 0) := serialOne_form
  have ED : Hid (¬ (execRun bs xs).code = 3 → serialOne bs xs = execDo bs (execRun bs xs).reads (execRun bs xs).puts (execRun bs xs).val (execRun bs xs).code) := fun h => (serialOne_do h).2.2.2
  have EO : Hid (∀ e w', OnePost bs xs w.heap.size e w' = ∃ ad cap, e = .returned (.tuple #[.slice ad (serialOne bs xs).length cap, .int .i64 (execRun bs xs).val, .int .i64 (execRun bs xs).code]) ∧ (serialOne bs xs).length ≤ cap ∧ OwnB w' w.heap.size ad (serialOne bs xs)) := fun _ _ => rfl
  have IR : Hid (Calls Try.prog 123 #[.slice la bs.length lc, .slice pa xs.length pc] w fun e w' => RunPost (execRun bs xs) w.heap.size e w' ∧ Below w.heap.size w w') := implRun la pa lc pc bs xs w SB.out SX.out hlc l2
  generalize execRun bs xs = o at f1 f2 EF ED EO IR
  generalize serialOne bs xs = R at EF ED EO
  go_enter Try.func84, Try.ntmps84
  go_wp2_with fail
  refine Calls.mono IR.out ?_
  rintro e w1 ⟨hp1, b1⟩
  obtain ⟨g1, e1, g2, e2, rfl, hr1⟩ := hp1.open
  obtain ⟨X, hX⟩ : ∃ X, X = w1.alloc (.cells #[.slice g1 o.reads.length e1, .slice g2 o.puts.length e2, .int .i64 o.val, .int .i64 o.code] 27) := ⟨_, rfl⟩
  have bX : Below w1.heap.size w1 X := by rw [hX]; exact below_new _ _
  have CX : Hid (C4 X w1.heap.size (.slice g1 o.reads.length e1) (.slice g2 o.puts.length e2) (.int .i64 o.val) (.int .i64 o.code)) := by show C4 _ _ _ _ _ _; rw [hX]; exact C4.new _ _ _ _ _ _
  have RX : Hid (RunB o w.heap.size X g1 g2) := hr1.below bX
  have BX : Hid (Below w.heap.size w X) := b1.trans (bX.mono b1.size)
  have HX : Hid (X = _) := hX
  clear hX bX hr1 b1 hp1
  obtain ⟨_, q0, q1, q2, q3⟩ := CX.out
  go_upto_region 2 with fail
  rw [← HX.out]
  by_cases hc : o.code = 3
  · obtain ⟨r1, r2⟩ := EF.out hc
    have hcb : (o.code == 3) = true := by simpa using hc
    go_wp2_with fail
    refine bodyPost_ret (v := .tuple #[.slice none 0 0, .int .i64 0, .int .i64 3]) (by simp [results, Try.results84, go_sem]) rfl ⟨?_, BX.out⟩
    rw [EO.out, r1, r2, hc]
    exact ⟨none, 0, rfl, Nat.le_refl _, .inl rfl⟩
  · have hcb : (o.code == 3) = false := by simpa using hc
    have RE := ED.out hc
    have DO : Hid (∀ W, Turned [] X W → Calls Try.prog 13 #[.slice la bs.length lc, .agg #[.slice g1 o.reads.length e1, .slice g2 o.puts.length e2, .int .i64 o.val, .int .i64 o.code]] W fun e w' => ∃ ad cap, e = .returned (.slice ad R.length cap) ∧ (R.length ≤ cap ∧ OwnB w' w.heap.size ad R ∧ Below w.heap.size w w') ∧ w'.cell? ⟨w1.heap.size, 2, none⟩ = some (.int .i64 o.val) ∧ w'.cell? ⟨w1.heap.size, 3, none⟩ = some (.int .i64 o.code)) := by
      intro W hW
      have hb : Below X.heap.size X W := ⟨hW.os, hW.tape, hW.output, hW.size, fun k hk => hW.block k hk (by simp)⟩
      have r := RX.out.below hb
      rw [RE]
      refine (implExecDo la lc bs g1 g2 e1 e2 o.reads o.puts o.val o.code W ((SB.out.below BX.out).below hb) hlc r.reads.sl r.puts.sl (by omega) (by omega)).mono ?_
      rintro e w' ⟨ad, cap, rfl, h1, h2, h3⟩
      have h4 : Below X.heap.size X w' := hb.trans (h3.mono hb.size)
      obtain ⟨_, _, _, c2, c3⟩ := CX.out.below h4
      exact ⟨ad, cap, rfl, ⟨h1, h2.weaken (Nat.le_trans BX.out.size hb.size), BX.out.trans (h4.mono BX.out.size)⟩, c2, c3⟩
    clear RE ED EF
    go_upto_region 4 with fail
    go_region_with (first | (go_at_call 13; refine Calls.mono (DO.out _ (Turned.refl _ _).drew) ?_; rintro e w2 ⟨ad, cap, rfl, hD, d2, d3⟩; have HD : Hid (R.length ≤ cap ∧ OwnB w2 w.heap.size ad R ∧ Below w.heap.size w w2) := hD; clear hD))
    all_goals
      go_wp2_with fail
      refine bodyPost_ret (v := .tuple #[.slice ad R.length cap, .int .i64 o.val, .int .i64 o.code]) (by simp [results, Try.results84, go_sem]) rfl ⟨?_, HD.out.2.2⟩
      rw [EO.out]
      exact ⟨ad, cap, rfl, HD.out.1, HD.out.2.1⟩
end Go.Proofs.Ytgcencilgpilaaa.Own

namespace Go.Proofs.Ytgcencilgpilaaa.Own
open Go.RowKit
set_option linter.unusedVariables false
set_option linter.unusedSimpArgs false

set_option maxHeartbeats 1000000 in
theorem l1CopyCap (a : Option Addr) (c : Nat) (bs : List P2) (w : World) (h : Sl w a bs) (h4 : bs.length = 4) :
    Calls Try.prog 67 #[.slice a bs.length c] w fun e w' => ∃ g cap, e = .returned (.slice (some ⟨g, 0, none⟩) bs.length cap) ∧ bs.length ≤ cap ∧ w.heap.size ≤ g ∧ BoxAt w' g 0 bs ∧ (∀ o, w'.frozen? ⟨g, o, none⟩ = false) ∧ Below w.heap.size w w' := by
  rcases h with h | ⟨b, off, rfl, h⟩
  · subst h; simp at h4
  have A : Hid (BoxAt w b off bs) := h
  have L : Hid (bs.length = 4) := h4
  clear h h4
  obtain ⟨i0, hi, hz0, hz1, hz2⟩ := info_parts infoBoxO
  have I0 : Hid (Try.prog.info? 38 = some i0 ∧ i0.zero = some (.agg #[.int .i64 0, .int .i64 0]) ∧ i0.size = 2 ∧ i0.bytes = 16) := ⟨hi, hz0, hz1, hz2⟩
  clear hi hz0 hz1 hz2
  go_enter Try.func67, Try.ntmps67
  go_wp2_with (at_builtin; refine wpList_append_own _ rfl (.tmp 3) (.tmp 4) 23 rfl w.heap.size 38 i0 (.agg #[.int .i64 0, .int .i64 0]) 2 16 Try.underlying23 I0.out.1 I0.out.2.1 I0.out.2.2.1 I0.out.2.2.2 rfl (by decide) (.slice (some ⟨w.heap.size, 0, none⟩) 0 0) 0 [] rfl (own_empty w w.heap.size rfl) ⟨b, off, none⟩ bs.length c (flat bs) rfl (flat_length bs) (flat_atO (A.out.below ((Below.refl _ _).alloc (Nat.le_refl _) _))) (flat_one bs) (small_max (by rw [L.out]; omega)) (by rw [L.out]; omega) (by rw [size_new]; omega) ?_)
  intro v1 w6 hown hgr _
  obtain ⟨g1, cap1, rfl, hg1, hcap1, hat1, hfr1, hb6⟩ := grown_box rfl (by rw [L.out]; omega) hown hgr
  have F : Hid (bs.length ≤ cap1 ∧ w.heap.size ≤ g1 ∧ BoxAt w6 g1 0 bs ∧ (∀ o, w6.frozen? ⟨g1, o, none⟩ = false) ∧ Below w.heap.size w w6) := ⟨hcap1, hg1, hat1, hfr1, hb6⟩
  clear hown hgr hat1 hfr1 hb6 hg1 hcap1
  go_wp2
  go_ret
  exact ⟨g1, cap1, rfl, F.out⟩

set_option maxRecDepth 100000 in
set_option maxHeartbeats 4000000 in
theorem specSerialOne (la pa : Option Addr) (lc pc : Nat) (bs : List P2) (xs : List Q4) (w : World) (hb : Sl w la bs) (hx : Sl4 w pa xs) (l1 : bs.length ≤ 2 ^ 40) (l2 : xs.length ≤ 2 ^ 40) :
    Calls Try.prog 85 #[.slice la bs.length lc, .slice pa xs.length pc] w fun e w' => (∃ ad cap, e = .returned (.tuple #[.slice ad (serialOne bs xs).length cap, .int .i64 (execRun bs xs).val, .int .i64 (execRun bs xs).code]) ∧ (serialOne bs xs).length ≤ cap ∧ OwnB w' w.heap.size ad (serialOne bs xs)) ∧ Below w.heap.size w w' := by
  have SB : Hid (Sl w la bs) := hb
  have SX : Hid (Sl4 w pa xs) := hx
  clear hb hx
  obtain ⟨f1, f2⟩ := execRun_four bs xs
  have EF : Hid ((execRun bs xs).code = 3 → serialOne bs xs = [] ∧ (execRun bs xs).val = 0) := serialOne_form
  have ED : Hid (¬ (execRun bs xs).code = 3 → boxOk bs = true ∧ serialOne bs xs = doPuts bs (execRun bs xs).puts) := fun h => ⟨(serialOne_do h).1, (serialOne_do h).2.2.1⟩
  have EP : Hid (okAll numOk (execRun bs xs).puts = true) := execOk_puts (execRun_ok bs xs)
  have IR : Hid (Calls Try.prog 115 #[.slice la bs.length lc, .slice pa xs.length pc] w fun e w' => RunPost (execRun bs xs) w.heap.size e w' ∧ Below w.heap.size w w') := specRun la pa lc pc bs xs w SB.out SX.out l1 l2
  generalize execRun bs xs = o at f1 f2 EF ED EP IR ⊢
  generalize serialOne bs xs = R at EF ED ⊢
  go_enter Try.func85, Try.ntmps85
  go_wp2_with fail
  refine Calls.mono IR.out ?_
  rintro e w1 ⟨hp1, b1⟩
  obtain ⟨g1, e1, g2, e2, rfl, hr1⟩ := hp1.open
  obtain ⟨X, hX⟩ : ∃ X, X = w1.alloc (.cells #[.slice g1 o.reads.length e1, .slice g2 o.puts.length e2, .int .i64 o.val, .int .i64 o.code] 27) := ⟨_, rfl⟩
  have bX : Below w1.heap.size w1 X := by rw [hX]; exact below_new _ _
  have CX : Hid (C4 X w1.heap.size (.slice g1 o.reads.length e1) (.slice g2 o.puts.length e2) (.int .i64 o.val) (.int .i64 o.code)) := by show C4 _ _ _ _ _ _; rw [hX]; exact C4.new _ _ _ _ _ _
  have RX : Hid (RunB o w.heap.size X g1 g2) := hr1.below bX
  have BX : Hid (Below w.heap.size w X) := b1.trans (bX.mono b1.size)
  have HX : Hid (X = _) := hX
  clear hX bX hr1 b1 hp1
  obtain ⟨_, q0, q1, q2, q3⟩ := CX.out
  go_upto_region 2 with fail
  rw [← HX.out]
  by_cases hc : o.code = 3
  · obtain ⟨r1, r2⟩ := EF.out hc
    have hcb : (o.code == 3) = true := by simpa using hc
    go_wp2_with fail
    refine bodyPost_ret (v := .tuple #[.slice (some ⟨X.heap.size, 0, none⟩) 0 0, .int .i64 0, .int .i64 3]) (by simp [results, Try.results85, go_sem]) rfl ⟨?_, BX.out.alloc BX.out.size _⟩
    rw [r1, r2, hc]
    exact ⟨_, 0, rfl, Nat.le_refl _, .inl rfl⟩
  · have hcb : (o.code == 3) = false := by simpa using hc
    obtain ⟨hbo, RE⟩ := ED.out hc
    have L4 : bs.length = 4 := boxOk_len hbo
    have CP : Hid (∀ W, Turned [] X W → Calls Try.prog 67 #[.slice la bs.length lc] W fun e w' => ∃ g cap, e = .returned (.slice (some ⟨g, 0, none⟩) 4 cap) ∧ (4 ≤ cap ∧ X.heap.size ≤ g ∧ BoxAt w' g 0 bs ∧ (∀ o, w'.frozen? ⟨g, o, none⟩ = false) ∧ Below X.heap.size X w') ∧ w'.cell? ⟨w1.heap.size, 0, none⟩ = some (.slice g1 o.reads.length e1) ∧ w'.cell? ⟨w1.heap.size, 1, none⟩ = some (.slice g2 o.puts.length e2) ∧ w'.cell? ⟨w1.heap.size, 2, none⟩ = some (.int .i64 o.val) ∧ w'.cell? ⟨w1.heap.size, 3, none⟩ = some (.int .i64 o.code)) := by
      intro W hW
      have hb : Below X.heap.size X W := ⟨hW.os, hW.tape, hW.output, hW.size, fun k hk => hW.block k hk (by simp)⟩
      refine (l1CopyCap la lc bs W ((SB.out.below BX.out).below hb) L4).mono ?_
      rintro e w' ⟨g, cap, rfl, hcap, h1, h2, h3, h4⟩
      have h5 : Below X.heap.size X w' := hb.trans (h4.mono hb.size)
      obtain ⟨_, c0, c1, c2, c3⟩ := CX.out.below h5
      exact ⟨g, cap, by rw [L4], ⟨by rw [L4] at hcap; exact hcap, Nat.le_trans hb.size h1, h2, h3, h5⟩, c0, c1, c2, c3⟩
    have DO : Hid (∀ (g cap : Nat) (W : World), X.heap.size ≤ g ∧ BoxAt W g 0 bs ∧ (∀ o, W.frozen? ⟨g, o, none⟩ = false) ∧ Below X.heap.size X W → Calls Try.prog 66 #[.slice (some ⟨g, 0, none⟩) 4 cap, .agg #[.slice g1 o.reads.length e1, .slice g2 o.puts.length e2, .int .i64 o.val, .int .i64 o.code]] W fun e w' => e = .returned (.slice (some ⟨g, 0, none⟩) 4 cap) ∧ (OwnB w' w.heap.size (some ⟨g, 0, none⟩) R ∧ Below w.heap.size w w') ∧ w'.cell? ⟨w1.heap.size, 0, none⟩ = some (.slice g1 o.reads.length e1) ∧ w'.cell? ⟨w1.heap.size, 1, none⟩ = some (.slice g2 o.puts.length e2) ∧ w'.cell? ⟨w1.heap.size, 2, none⟩ = some (.int .i64 o.val) ∧ w'.cell? ⟨w1.heap.size, 3, none⟩ = some (.int .i64 o.code)) := by
      rintro g cap W ⟨h1, h2, h3, h4⟩
      have r := RX.out.below h4
      refine (l3Do g cap bs g1 g2 o.reads.length e1 e2 o.puts o.val o.code W hbo h2 h3 r.puts.sl (.inr fun x e => ?_) (by omega) EP.out).mono ?_
      · have := (RX.out.far2 x e).2; omega
      · rintro e w' ⟨rfl, k1, k2, k3⟩
        have t : Turned [g] W w' := ⟨k3.os, k3.tape, k3.output, k3.size, fun k hk hn => k3.block k hk (by simpa using hn)⟩
        have hx1 : w1.heap.size < X.heap.size := CX.out.1
        obtain ⟨_, c0, c1, c2, c3⟩ := (CX.out.below h4).turned t (by simp; omega)
        refine ⟨rfl, ⟨.inr ⟨g, rfl, by have := BX.out.size; omega, by rw [RE]; exact k1, k2⟩, ?_⟩, c0, c1, c2, c3⟩
        exact (BX.out.trans (h4.mono BX.out.size)).trans (t.below (fun x hx => by have := BX.out.size; simp at hx; omega) (by have := BX.out.size; have := h4.size; omega))
    have RL : Hid (R.length = 4) := by show _ = _; rw [RE, doPuts_length]; exact L4
    clear RE ED EF hbo
    have HL4 : Hid (bs.length = 4) := L4
    clear L4
    go_upto_region 4 with fail
    refine wp_region_held_drew (S := (fun w' : World => w'.cell? ⟨w1.heap.size, 0, none⟩ = some (.slice g1 o.reads.length e1) ∧ w'.cell? ⟨w1.heap.size, 1, none⟩ = some (.slice g2 o.puts.length e2) ∧ w'.cell? ⟨w1.heap.size, 2, none⟩ = some (.int .i64 o.val) ∧ w'.cell? ⟨w1.heap.size, 3, none⟩ = some (.int .i64 o.code))) (by kernel_rfl) ⟨q0, q1, q2, q3⟩ (fun hHeld => ?_)
    refine wpAnyH_take (i := 0) (v := ?v0) rfl (by kernel_rfl) (by kernel_rfl) (by kernel_rfl) (fun _ _ _ h => h) (Or.inl ⟨by rfl, ?y0⟩) (by assumption) ?r0
    case y0 =>
      intro w' hSw
      try dsimp only at hSw
      go_simp
      try with_reducible rfl
    simp only [Act.put, List.getElem_toArray, List.getElem_cons_succ, List.getElem_cons_zero, List.setIfInBounds_toArray, List.set_cons_zero, List.set_cons_succ]
    refine wpAnyH_take (i := 2) (v := ?v2) rfl (by kernel_rfl) (by kernel_rfl) (by kernel_rfl) (fun _ _ _ h => h) (Or.inl ⟨by rfl, ?y2⟩) (by assumption) ?r2
    case y2 =>
      intro w' hSw
      try dsimp only at hSw
      go_simp
      try with_reducible rfl
    simp only [Act.put, List.getElem_toArray, List.getElem_cons_succ, List.getElem_cons_zero, List.setIfInBounds_toArray, List.set_cons_zero, List.set_cons_succ]
    refine wpAnyH_take (i := 4) (v := ?v4) rfl (by kernel_rfl) (by kernel_rfl) (by kernel_rfl) (fun _ _ _ h => h) (Or.inl ⟨by rfl, ?y4⟩) (by assumption) ?r4
    case y4 =>
      intro w' hSw
      try dsimp only at hSw
      go_simp
      try with_reducible rfl
    simp only [Act.put, List.getElem_toArray, List.getElem_cons_succ, List.getElem_cons_zero, List.setIfInBounds_toArray, List.set_cons_zero, List.set_cons_succ]
    refine wpAnyH_take (i := 5) (v := ?v5) rfl (by kernel_rfl) (by kernel_rfl) (by kernel_rfl) (fun _ _ _ h => h) (Or.inl ⟨by rfl, ?y5⟩) (by assumption) ?r5
    case y5 =>
      intro w' hSw
      try dsimp only at hSw
      go_simp
      try with_reducible rfl
    simp only [Act.put, List.getElem_toArray, List.getElem_cons_succ, List.getElem_cons_zero, List.setIfInBounds_toArray, List.set_cons_zero, List.set_cons_succ]
    refine wpAnyH_take (i := 6) (v := ?v6) rfl (by kernel_rfl) (by kernel_rfl) (by kernel_rfl) (fun _ _ _ h => h) (Or.inl ⟨by rfl, ?y6⟩) (by assumption) ?r6
    case y6 =>
      intro w' hSw
      try dsimp only at hSw
      go_simp
      try with_reducible rfl
    simp only [Act.put, List.getElem_toArray, List.getElem_cons_succ, List.getElem_cons_zero, List.setIfInBounds_toArray, List.set_cons_zero, List.set_cons_succ]
    refine wpAnyH_take (i := 7) (v := ?v7) rfl (by kernel_rfl) (by kernel_rfl) (by kernel_rfl) (fun _ _ _ h => h) (Or.inl ⟨by rfl, ?y7⟩) (by assumption) ?r7
    case y7 =>
      intro w' hSw
      try dsimp only at hSw
      go_simp
      try with_reducible rfl
    simp only [Act.put, List.getElem_toArray, List.getElem_cons_succ, List.getElem_cons_zero, List.setIfInBounds_toArray, List.set_cons_zero, List.set_cons_succ]
    refine wpAnyH_ready (rs := [1]) (by kernel_rfl) (by simp) ?_
    refine AllReadyH.cons rfl (fun K hK => ?_) AllReadyH.nil
    go_simp
    refine Calls.mono (CP.out _ (Turned.refl _ _).drew) ?_
    rintro e w2 ⟨g, cap, rfl, hD, hS⟩
    have DD : Hid (Calls Try.prog 66 #[.slice (some ⟨g, 0, none⟩) 4 cap, .agg #[.slice g1 o.reads.length e1, .slice g2 o.puts.length e2, .int .i64 o.val, .int .i64 o.code]] w2 _) := DO.out g cap w2 hD.2
    have HC : Hid (4 ≤ cap) := hD.1
    refine hK.out _ _ hS (fun hHeld2 => ?_)
    clear hK K hHeld hD hS
    refine wpAnyH_ready (rs := [3]) (by kernel_rfl) (by simp) ?_
    refine AllReadyH.cons rfl (fun K hK => ?_) AllReadyH.nil
    go_simp
    refine Calls.mono DD.out ?_
    rintro e w3 ⟨rfl, hD3, hS3⟩
    have HD3 : Hid (OwnB w3 w.heap.size (some ⟨g, 0, none⟩) R ∧ Below w.heap.size w w3) := hD3
    refine hK.out _ _ hS3 (fun hHeld3 => ?_)
    clear hK K hHeld2 hD3 hS3
    refine wpAnyH_take (i := 8) (v := ?v8) rfl (by kernel_rfl) (by kernel_rfl) (by kernel_rfl) (fun _ _ _ h => h) (Or.inl ⟨by rfl, ?y8⟩) (by assumption) ?r8
    case y8 =>
      intro w' hSw
      try dsimp only at hSw
      go_simp
      try with_reducible rfl
    simp only [Act.put, List.getElem_toArray, List.getElem_cons_succ, List.getElem_cons_zero, List.setIfInBounds_toArray, List.set_cons_zero, List.set_cons_succ]
    refine wpAnyH_take (i := 9) (v := ?v9) rfl (by kernel_rfl) (by kernel_rfl) (by kernel_rfl) (fun _ _ _ h => h) (Or.inl ⟨by rfl, ?y9⟩) (by assumption) ?r9
    case y9 =>
      intro w' hSw
      try dsimp only at hSw
      go_simp
      try with_reducible rfl
    simp only [Act.put, List.getElem_toArray, List.getElem_cons_succ, List.getElem_cons_zero, List.setIfInBounds_toArray, List.set_cons_zero, List.set_cons_succ]
    refine wpAnyH_take (i := 10) (v := ?v10) rfl (by kernel_rfl) (by kernel_rfl) (by kernel_rfl) (fun _ _ _ h => h) (Or.inl ⟨by rfl, ?y10⟩) (by assumption) ?r10
    case y10 =>
      intro w' hSw
      try dsimp only at hSw
      go_simp
      try with_reducible rfl
    simp only [Act.put, List.getElem_toArray, List.getElem_cons_succ, List.getElem_cons_zero, List.setIfInBounds_toArray, List.set_cons_zero, List.set_cons_succ]
    refine wpAnyH_done (by kernel_rfl) ?_ _
    go_wp2_with fail
    refine bodyPost_ret (v := .tuple #[.slice (some ⟨g, 0, none⟩) 4 cap, .int .i64 o.val, .int .i64 o.code]) (by simp [results, Try.results85, go_sem]) rfl ⟨?_, HD3.out.2⟩
    exact ⟨_, cap, by rw [RL.out], by rw [RL.out]; exact HC.out, HD3.out.1⟩
end Go.Proofs.Ytgcencilgpilaaa.Own

namespace Go.Proofs.Ytgcencilgpilaaa.Own
open Go.RowKit
set_option linter.unusedVariables false
set_option linter.unusedSimpArgs false

set_option maxRecDepth 100000 in
set_option maxHeartbeats 2000000 in
theorem specExecDoCap (a : Option Addr) (c : Nat) (bs : List P2) (a1 a2 : Option Addr) (c1 c2 : Nat) (xs ys : List P2) (v k : Int) (w : World) (h0 : Sl w a bs) (hn0 : bs.length ≤ 2 ^ 40) (h1 : Sl w a1 xs) (h2 : Sl w a2 ys) (hn1 : xs.length ≤ 2 ^ 40) (hn2 : ys.length ≤ 2 ^ 40) (hc1 : xs.length ≤ c1) (hc2 : ys.length ≤ c2) :
    Calls Try.prog 15 #[.slice a bs.length c, .agg #[.slice a1 xs.length c1, .slice a2 ys.length c2, .int .i64 v, .int .i64 k]] w fun e w' => ∃ g cap, e = .returned (.slice (some ⟨g, 0, none⟩) (execDo bs xs ys v k).length cap) ∧ (execDo bs xs ys v k).length ≤ cap ∧ Sl w' (some ⟨g, 0, none⟩) (execDo bs xs ys v k) ∧ w.heap.size ≤ g ∧ (execDo bs xs ys v k = [] ∨ ∀ o, w'.frozen? ⟨g, o, none⟩ = false) ∧ Below w.heap.size w w' := by
  have H0 : Hid (Sl w a bs) := h0
  have H1 : Hid (Sl w a1 xs) := h1
  have H2 : Hid (Sl w a2 ys) := h2
  clear h0 h1 h2
  have E : Hid (execDo bs xs ys v k = if boxOk bs && execOk xs ys v k then doPuts bs ys else []) := rfl
  obtain ⟨W, hW⟩ : ∃ W, W = w.alloc (.cells #[.slice a1 xs.length c1, .slice a2 ys.length c2, .int .i64 v, .int .i64 k] 27) := ⟨_, rfl⟩
  have BW : Hid (Below w.heap.size w W) := by show Below _ _ _; rw [hW]; exact below_new _ _
  have P0 : Hid (C4 W w.heap.size (.slice a1 xs.length c1) (.slice a2 ys.length c2) (.int .i64 v) (.int .i64 k)) := by show C4 _ _ _ _ _ _; rw [hW]; exact C4.new _ _ _ _ _ _
  have HW : Hid (W = _) := hW
  clear hW
  have CB := specOk a c bs W (H0.out.below BW.out) hn0
  cases hb : boxOk bs with
  | false =>
    rw [hb] at CB
    have CB' : Hid _ := CB
    have E0 : Hid (execDo bs xs ys v k = []) := by show _ = _; rw [E.out, hb]; rfl
    clear CB
    go_enter Try.func15, Try.ntmps15
    go_wp2_with fail
    rw [← HW.out]
    refine Calls.mono CB'.out ?_
    rintro e w1 ⟨rfl, rfl⟩
    go_wp2_with fail
    go_ret
    rw [E0.out]
    exact ⟨_, _, rfl, Nat.zero_le _, .inl rfl, BW.out.size, .inl rfl, BW.out.alloc BW.out.size _⟩
  | true =>
    rw [hb] at CB
    have CB' : Hid _ := CB
    have HL : Hid (bs.length = 4) := boxOk_len hb
    have HBO : Hid (boxOk bs = true) := hb
    clear CB hb
    go_enter Try.func15, Try.ntmps15
    go_wp2_with fail
    rw [← HW.out]
    refine Calls.mono CB'.out ?_
    rintro e w1 ⟨rfl, hw1⟩
    subst hw1
    obtain ⟨_, q0, q1, q2, q3⟩ := P0.out
    have CE := specExecOk a1 a2 c1 c2 xs ys v k w1 (H1.out.below BW.out) (H2.out.below BW.out) hn1 hn2 hc1 hc2
    cases he : execOk xs ys v k with
    | false =>
      rw [he] at CE
      have CE' : Hid _ := CE
      have E0 : Hid (execDo bs xs ys v k = []) := by show _ = _; rw [E.out, he]; simp
      clear CE
      go_wp2_with fail
      refine Calls.mono CE'.out ?_
      rintro e w2 ⟨rfl, b2⟩
      have B2 : Hid (Below w.heap.size w w2) := BW.out.trans (b2.mono BW.out.size)
      clear b2
      go_wp2_with fail
      go_ret
      rw [E0.out]
      exact ⟨_, _, rfl, Nat.zero_le _, .inl rfl, B2.out.size, .inl rfl, B2.out.alloc B2.out.size _⟩
    | true =>
      rw [he] at CE
      have CE' : Hid _ := CE
      have E2 : Hid (execDo bs xs ys v k = doPuts bs ys) := by show _ = _; rw [E.out, he, HBO.out]; rfl
      have HR : Hid (okAll numOk ys = true) := execOk_puts he
      have HLn : Hid ((doPuts bs ys).length = 4) := by show _ = _; rw [doPuts_length]; exact HL.out
      clear CE he
      go_wp2_with fail
      refine Calls.mono CE'.out ?_
      rintro e w2 ⟨rfl, b2⟩
      have B2 : Hid (Below w1.heap.size w1 w2) := b2
      clear b2 q0 q1 q2 q3
      obtain ⟨hlt2, q0, q1, q2, q3⟩ := P0.out.below B2.out
      have HS0 : Hid (Sl w2 a bs) := (H0.out.below BW.out).below B2.out
      have HS2 : Hid (Sl w2 a2 ys) := (H2.out.below BW.out).below B2.out
      have HG2 : Hid (ys = [] ∨ ∀ x, a2 = some x → x.block < w2.heap.size) := by
        rcases HS2.out with h | ⟨b, off, rfl, h⟩
        · exact .inl h
        · exact .inr fun x hx => by injection hx with hx; subst hx; exact h.1
      have AF : Hid (∀ w', Below w2.heap.size w2 w' → w'.cell? ⟨w.heap.size, 0, none⟩ = some (.slice a1 xs.length c1) ∧ w'.cell? ⟨w.heap.size, 1, none⟩ = some (.slice a2 ys.length c2) ∧ w'.cell? ⟨w.heap.size, 2, none⟩ = some (.int .i64 v) ∧ w'.cell? ⟨w.heap.size, 3, none⟩ = some (.int .i64 k)) :=
        fun w' hb => ((P0.out.below B2.out).below hb).2
      have h4 := HL.out
      have CPY : Hid (∀ W, Sl W a bs → Calls Try.prog 67 #[.slice a bs.length c] W fun e w' => ∃ g cap, e = .returned (.slice (some ⟨g, 0, none⟩) 4 cap) ∧ 4 ≤ cap ∧ W.heap.size ≤ g ∧ BoxAt w' g 0 bs ∧ (∀ o, w'.frozen? ⟨g, o, none⟩ = false) ∧ Below W.heap.size W w') := fun W h => by
        have := l1CopyCap a c bs W h HL.out
        rw [HL.out] at this ⊢; exact this
      clear h4
      have DO : Hid (∀ g cap W, BoxAt W g 0 bs → (∀ o, W.frozen? ⟨g, o, none⟩ = false) → Sl W a2 ys → (ys = [] ∨ ∀ x, a2 = some x → x.block ≠ g) → Calls Try.prog 66 #[.slice (some ⟨g, 0, none⟩) 4 cap, .agg #[.slice a1 xs.length c1, .slice a2 ys.length c2, .int .i64 v, .int .i64 k]] W fun e w' => e = .returned (.slice (some ⟨g, 0, none⟩) 4 cap) ∧ BoxAt w' g 0 (doPuts bs ys) ∧ (∀ o, w'.frozen? ⟨g, o, none⟩ = false) ∧ Bar g W w') := by
        intro g cap W h1 h2 h3 h4
        exact l3Do g cap bs a1 a2 xs.length c1 c2 ys v k W HBO.out h1 h2 h3 h4 hn2 HR.out
      go_upto_region 3 with fail
      go_region_with (first | (go_at_call 67; refine (CPY.out _ ?_).mono ?_; exact HS0.out; rintro e w3 ⟨g, cap, rfl, hcp, hg, at3, fr3, b3⟩; have CP : Hid (4 ≤ cap) := hcp; have B3 : Hid (Below w2.heap.size w2 w3) := Below.trans ((Below.refl _ _).drew) b3; have G3 : Hid (w2.heap.size ≤ g) := hg; have A3 : Hid (BoxAt w3 g 0 bs ∧ ∀ o, w3.frozen? ⟨g, o, none⟩ = false) := ⟨at3, fr3⟩; obtain ⟨r0, r1, r2, r3⟩ := AF.out w3 B3.out; clear hcp hg at3 fr3 b3) | (go_at_call 66; refine (DO.out _ _ _ ?_ ?_ ?_ ?_).mono ?_; exact A3.out.1; exact A3.out.2; exact HS2.out.below B3.out; exact HG2.out.imp id (fun h x hx => by have := h x hx; have := G3.out; omega); rintro e w4 ⟨rfl, at4, fr4, bar4⟩; have A4 : Hid (BoxAt w4 g 0 (doPuts bs ys) ∧ (∀ o, w4.frozen? ⟨g, o, none⟩ = false) ∧ Bar g w3 w4) := ⟨at4, fr4, bar4⟩; clear at4 fr4 bar4))
      all_goals
        go_wp2_with fail
        go_ret
        rw [E2.out]
        have hws : w.heap.size ≤ w2.heap.size := Nat.le_trans BW.out.size B2.out.size
        refine ⟨g, cap, by rw [HLn.out]; rfl, by rw [HLn.out]; exact CP.out, .inr ⟨_, _, rfl, A4.out.1⟩, Nat.le_trans hws G3.out, .inr A4.out.2.1, ?_⟩
        have hb := BW.out.trans ((B2.out.trans (B3.out.mono B2.out.size)).mono BW.out.size)
        exact hb.trans (A4.out.2.2.below (Nat.le_trans hws G3.out) hb.size)
end Go.Proofs.Ytgcencilgpilaaa.Own

namespace Go.Proofs.Ytgcencilgpilaaa.Own
open Go.RowKit

theorem eqBox1 (d : Nat) (p1 p2 q1 q2 : Int) (w : World) : (Op.equalIn (d+2) 38 (.agg #[.int .i64 p1, .int .i64 p2]) (.agg #[.int .i64 q1, .int .i64 q2])).run Try.prog w = .ok (p1 == q1 && p2 == q2) w := by
  go_simp
  by_cases h : p1 = q1
  · by_cases h' : p2 = q2 <;> simp [h, h']
  · simp [h]
theorem neqBox (p1 p2 q1 q2 : Int) (w : World) : (binOp .neq 38 (.agg #[.int .i64 p1, .int .i64 p2]) (.agg #[.int .i64 q1, .int .i64 q2])).run Try.prog w = .ok (.bool (!(p1 == q1 && p2 == q2))) w := by
  rw [run_neq_struct, eqBox1 9998]; rfl

theorem cellsBox : Try.prog.cellsOf 38 = 2 := by kernel_rfl
section
variable (p0 p1 p2 p3 p4 p5 p6 p7 : Int) (w : World)
theorem part0 : (part 38 #[.int .i64 p0, .int .i64 p1, .int .i64 p2, .int .i64 p3, .int .i64 p4, .int .i64 p5, .int .i64 p6, .int .i64 p7] (0 * 2)).run Try.prog w = .ok (.agg #[.int .i64 p0, .int .i64 p1]) w := by kernel_rfl
theorem part1 : (part 38 #[.int .i64 p0, .int .i64 p1, .int .i64 p2, .int .i64 p3, .int .i64 p4, .int .i64 p5, .int .i64 p6, .int .i64 p7] (1 * 2)).run Try.prog w = .ok (.agg #[.int .i64 p2, .int .i64 p3]) w := by kernel_rfl
theorem part2 : (part 38 #[.int .i64 p0, .int .i64 p1, .int .i64 p2, .int .i64 p3, .int .i64 p4, .int .i64 p5, .int .i64 p6, .int .i64 p7] (2 * 2)).run Try.prog w = .ok (.agg #[.int .i64 p4, .int .i64 p5]) w := by kernel_rfl
theorem part3 : (part 38 #[.int .i64 p0, .int .i64 p1, .int .i64 p2, .int .i64 p3, .int .i64 p4, .int .i64 p5, .int .i64 p6, .int .i64 p7] (3 * 2)).run Try.prog w = .ok (.agg #[.int .i64 p6, .int .i64 p7]) w := by kernel_rfl
end
theorem eqArr (p0 p1 p2 p3 p4 p5 p6 p7 q0 q1 q2 q3 q4 q5 q6 q7: Int) (w : World) : (Op.equalIn 10000 104 (.agg #[.int .i64 p0, .int .i64 p1, .int .i64 p2, .int .i64 p3, .int .i64 p4, .int .i64 p5, .int .i64 p6, .int .i64 p7]) (.agg #[.int .i64 q0, .int .i64 q1, .int .i64 q2, .int .i64 q3, .int .i64 q4, .int .i64 q5, .int .i64 q6, .int .i64 q7])).run Try.prog w = .ok ((p0 == q0 && p1 == q1) && (p2 == q2 && p3 == q3) && (p4 == q4 && p5 == q5) && (p6 == q6 && p7 == q7)) w := by
  obtain ⟨i, hi⟩ : ∃ i, Try.prog.info? 38 = some i := by
    have := szBox
    cases h : Try.prog.info? 38 with
    | none => simp [h] at this
    | some i => exact ⟨i, rfl⟩
  rw [run_equalIn_array (P := Try.prog) w 9999 (t := 104) (e := 38) (n := 4) _ _ Try.underlying104 hi]
  simp only [show List.range 4 = [0, 1, 2, 3] from rfl, Op.eqItems, Sem.run_bind, cellsBox, part0, part1, part2, part3, eqBox1 9997, Result.andThen_ok, Sem.run_ite, Sem.run_pure]
  generalize (p0 == q0 && p1 == q1) = b0
  generalize (p2 == q2 && p3 == q3) = b1
  generalize (p4 == q4 && p5 == q5) = b2
  generalize (p6 == q6 && p7 == q7) = b3
  cases b0 <;> cases b1 <;> cases b2 <;> cases b3 <;> rfl

theorem take4_eq {xs ys : List (Int × Int)} {k : Nat} (hl : xs.length = ys.length) (h : xs.take k = ys.take k) (h0 : fromD xs k 0 = fromD ys k 0) (h1 : fromD xs k 1 = fromD ys k 1) (h2 : fromD xs k 2 = fromD ys k 2) (h3 : fromD xs k 3 = fromD ys k 3) :
    xs.take (k + 4) = ys.take (k + 4) := by
  apply List.ext_getElem?
  intro i
  by_cases hi : i < k
  · have := congrArg (fun l : List (Int × Int) => l[i]?) h
    simp only [List.getElem?_take, hi, if_true] at this
    simp only [List.getElem?_take, show i < k + 4 by omega, if_true, this]
  · by_cases hi2 : i < k + 4
    · simp only [List.getElem?_take, hi2, if_true]
      have key : ∀ j, fromD xs k j = fromD ys k j → i = k + j → xs[i]? = ys[i]? := by
        intro j e ei
        subst ei
        by_cases hx : k + j < xs.length
        · have hy : k + j < ys.length := by omega
          simp [fromD, List.getD, hx, hy] at e
          simp [hx, hy, e]
        · simp [show xs.length ≤ k + j by omega, show ys.length ≤ k + j by omega]
      rcases (by omega : i = k + 0 ∨ i = k + 1 ∨ i = k + 2 ∨ i = k + 3) with e | e | e | e
      · exact key 0 h0 e
      · exact key 1 h1 e
      · exact key 2 h2 e
      · exact key 3 h3 e
    · simp only [List.getElem?_take, hi2, if_false]

theorem ne_of_fromD {xs ys : List (Int × Int)} {k j : Nat} (h : fromD xs k j ≠ fromD ys k j) : (xs == ys) = false := ne_of_getD h

theorem pairEq (p q : Int × Int) : (p.1 == q.1 && p.2 == q.2) = decide (p = q) := by
  rw [Bool.eq_iff_iff]
  simp [Prod.ext_iff]

set_option maxRecDepth 100000 in
set_option maxHeartbeats 1000000 in
theorem implSame (a1 a2 : Option Addr) (c1 c2 : Nat) (xs ys : List (Int × Int)) (w : World) (h1 : Sl w a1 xs) (h2 : Sl w a2 ys) (l1 : xs.length ≤ c1) (l2 : ys.length ≤ c2) (m1 : xs.length ≤ 2 ^ 60) :
    Calls Try.prog 14 #[.slice a1 xs.length c1, .slice a2 ys.length c2] w fun e w' => e = .returned (.bool (xs == ys)) ∧ Below w.heap.size w w' := by
  have H1 : Hid (Sl w a1 xs) := h1
  have H2 : Hid (Sl w a2 ys) := h2
  clear h1 h2
  by_cases hl : xs.length = ys.length
  · have hl' : ((xs.length : Int) != (ys.length : Int)) = false := by simp [hl]
    have Hl : Hid (xs.length = ys.length) := hl
    clear hl
    go_enter Try.func14, Try.ntmps14
    go_wp2
    go_loopw [5] (fun i wr => ∃ k : Nat, k ≤ xs.length + 3 ∧ i = .int .i64 k ∧ Hid (xs.take k = ys.take k) ∧ Below w.heap.size w wr) (fun i _ => xs.length + 4 - (intOf i).toNat)
    case atStart => exact ⟨0, Nat.zero_le _, rfl, rfl, Below.refl _ _⟩
    case round =>
      obtain ⟨k, hk, rfl, hE, hB⟩ := hrel
      have HB : Hid (Below w.heap.size w wr) := hB
      clear hB
      by_cases hlt : k < xs.length
      · have hlt2 : k < ys.length := by rw [← Hl.out]; exact hlt
        go_wp2_with fail
        refine (boxesFrom a1 c1 xs k wr (H1.out.below HB.out) l1 (by omega)).mono ?_
        rintro e w1 ⟨rfl, hb1⟩
        have HB1 : Hid (Below w.heap.size w w1) := HB.out.trans (hb1.mono HB.out.size)
        clear hb1
        go_wp2_with fail
        refine (boxesFrom a2 c2 ys k w1 (H2.out.below HB1.out) l2 (by omega)).mono ?_
        rintro e w2 ⟨rfl, hb2⟩
        have HB2 : Hid (Below w.heap.size w w2) := HB1.out.trans (hb2.mono HB1.out.size)
        clear hb2
        have hne := eqArr (fromD xs k 0).1 (fromD xs k 0).2 (fromD xs k 1).1 (fromD xs k 1).2 (fromD xs k 2).1 (fromD xs k 2).2 (fromD xs k 3).1 (fromD xs k 3).2 (fromD ys k 0).1 (fromD ys k 0).2 (fromD ys k 1).1 (fromD ys k 1).2 (fromD ys k 2).1 (fromD ys k 2).2 (fromD ys k 3).1 (fromD ys k 3).2 w2
        simp only [pairEq] at hne
        by_cases t : fromD xs k 0 = fromD ys k 0 ∧ fromD xs k 1 = fromD ys k 1 ∧ fromD xs k 2 = fromD ys k 2 ∧ fromD xs k 3 = fromD ys k 3
        · obtain ⟨t0, t1, t2, t3⟩ := t
          have N : Hid (xs.take (k + 4) = ys.take (k + 4)) := take4_eq Hl.out hE t0 t1 t2 t3
          rw [show (decide (fromD xs k 0 = fromD ys k 0) && decide (fromD xs k 1 = fromD ys k 1) && decide (fromD xs k 2 = fromD ys k 2) && decide (fromD xs k 3 = fromD ys k 3)) = true by simp [t0, t1, t2, t3]] at hne
          clear t0 t1 t2 t3
          go_wp2
          go_roundw
          case rel => exact ⟨k + 4, by omega, by go_num, N, HB2.out⟩
          case measure => simp [intOf]; omega
        · have t' : (decide (fromD xs k 0 = fromD ys k 0) && decide (fromD xs k 1 = fromD ys k 1) && decide (fromD xs k 2 = fromD ys k 2) && decide (fromD xs k 3 = fromD ys k 3)) = false := by
            rw [Bool.eq_false_iff]; simp only [ne_eq, Bool.and_eq_true, decide_eq_true_eq]
            intro h; exact t ⟨h.1.1.1, h.1.1.2, h.1.2, h.2⟩
          rw [t'] at hne
          have F : Hid ((xs == ys) = false) := by
            show _ = false
            by_cases t0 : fromD xs k 0 = fromD ys k 0
            · by_cases t1 : fromD xs k 1 = fromD ys k 1
              · by_cases t2 : fromD xs k 2 = fromD ys k 2
                · by_cases t3 : fromD xs k 3 = fromD ys k 3
                  · exact absurd ⟨t0, t1, t2, t3⟩ t
                  · exact ne_of_fromD t3
                · exact ne_of_fromD t2
              · exact ne_of_fromD t1
            · exact ne_of_fromD t0
          clear t t'
          go_wp2
          go_ret
          exact ⟨ret_bool F.out.symm, HB2.out⟩
      · go_wp2
        go_ret
        refine ⟨ret_bool ?_, HB.out⟩
        have h := hE
        unfold Hid at h
        have h3 := Hl.out
        rw [List.take_of_length_le (by omega), List.take_of_length_le (by omega)] at h
        simp [h]
  · have hl' : ((xs.length : Int) != (ys.length : Int)) = true := by simp; omega
    go_enter Try.func14, Try.ntmps14
    go_wp2
    go_ret
    refine ⟨ret_bool ?_, Below.refl _ _⟩
    symm
    simp
    intro h; exact hl (by rw [h])
end Go.Proofs.Ytgcencilgpilaaa.Own

namespace Go.Proofs.Ytgcencilgpilaaa.Own
open Go.ChangeShapes Go.WideShapes Go.ChangeAt Go.RowKit

theorem addr_add (b off j : Nat) : (⟨b, off, none⟩ : Addr).add j = ⟨b, off + j, none⟩ := by unfold Addr.add; split <;> simp_all

theorem openBytes {H : Type} {enc : TypeId × Value → H} {W : World} {fuel : Nat} {a : Option Addr} {len cap : Nat} {x : DataW H × List MemPlace}
    (hf : DataW.trod enc Try.prog W 0 (fun _ => true) true fuel 22 [.slice a len cap] = some x) : Bytes W W.heap.size a len ∧ len ≤ cap ∧ cap ≤ maxLen := by
  rcases open_ints Try.underlying22 Try.underlying5 (by kernel_rfl) hf with ⟨hcs, _⟩ | ⟨ad, l, c, zs, hcs, _, hl, hm, hz, _, hcell, hwz⟩
  · simp at hcs
    obtain ⟨rfl, rfl, rfl⟩ := hcs
    exact ⟨.inl rfl, Nat.le_refl _, by unfold maxLen; omega⟩
  · simp at hcs
    obtain ⟨rfl, rfl, rfl⟩ := hcs
    refine ⟨?_, hl, hm⟩
    by_cases h0 : len = 0
    · exact .inl h0
    right
    have hz' : zs.length = cap := by simpa using hz
    obtain ⟨b, off, spot⟩ := ad
    have c0 := hcell 0 (by omega)
    have hspot : spot = none := by simpa [Addr.add] using World.cell?_spot c0
    subst hspot
    refine ⟨b, off, rfl, ?_, ?_⟩
    · rw [addr_add] at c0
      simp only [World.cell?] at c0
      cases hq : W.heap[b]? with
      | none => simp [hq] at c0
      | some o => exact (Array.getElem?_eq_some_iff.1 hq).1
    · intro i hi
      have hc := hcell i (by omega)
      rw [addr_add] at hc
      have hw := hwz (zs.getD i 0) (by simp [List.getD, show i < zs.length by omega])
      have hb : 0 ≤ zs.getD i 0 ∧ zs.getD i 0 ≤ 255 := by
        simpa [Lit.wf, IntKind.min, IntKind.max, IntKind.signed, IntKind.bits] using hw
      exact ⟨(zs.getD i 0).toNat, by omega, by rw [hc]; congr 2; omega⟩
end Go.Proofs.Ytgcencilgpilaaa.Own

namespace Go.Proofs.Ytgcencilgpilaaa.Own
open Go.RowKit

def eq2 (p q : P2) : Bool := p.1 == q.1 && p.2 == q.2
theorem eq2_iff (p q : P2) : eq2 p q = true ↔ p = q := by
  obtain ⟨a, b⟩ := p
  obtain ⟨a', b'⟩ := q
  simp [eq2]
theorem eq2_false (p q : P2) : eq2 p q = false ↔ p ≠ q := by
  rw [← Bool.not_eq_true, eq2_iff]

/-- Two runs are one. -/
def sameRun (xs ys zs us : List P2) (v k v' k' : Int) : Bool := k == k' && v == v' && xs == zs && ys == us
end Go.Proofs.Ytgcencilgpilaaa.Own

namespace Go.Proofs.Ytgcencilgpilaaa.Own
open Go.RowKit
set_option linter.unusedVariables false

theorem eqRead1 (d : Nat) (a b a' b' : Int) (w : World) : (Op.equalIn (d+2) 40 (.agg #[.int .i64 a, .int .i64 b]) (.agg #[.int .i64 a', .int .i64 b'])).run Try.prog w = .ok (eq2 (a, b) (a', b')) w := by
  unfold eq2
  go_simp
  by_cases h : a = a'
  · by_cases h1 : b = b' <;> simp [h, h1]
  · simp [h]
theorem neqRead (a b a' b' : Int) (w : World) : (binOp .neq 40 (.agg #[.int .i64 a, .int .i64 b]) (.agg #[.int .i64 a', .int .i64 b'])).run Try.prog w = .ok (.bool (!(eq2 (a, b) (a', b')))) w := by
  rw [run_neq_struct, eqRead1 9998]; rfl

set_option maxRecDepth 100000 in
set_option maxHeartbeats 1000000 in
theorem equalRead (a1 a2 : Option Addr) (c1 c2 : Nat) (xs ys : List P2) (w : World) (h1 : Sl w a1 xs) (h2 : Sl w a2 ys) (l1 : xs.length ≤ 2 ^ 40) (l2 : ys.length ≤ 2 ^ 40) :
    Calls Try.prog 77 #[.slice a1 xs.length c1, .slice a2 ys.length c2] w fun e w' => e = .returned (.bool (xs == ys)) ∧ Below w.heap.size w w' := by
  have H1 : Hid (Sl w a1 xs) := h1
  have H2 : Hid (Sl w a2 ys) := h2
  clear h1 h2
  by_cases hl : xs.length = ys.length
  · have hl' : ((xs.length : Int) != (ys.length : Int)) = false := by simp [hl]
    have Hl : Hid (xs.length = ys.length) := hl
    clear hl
    go_enter Try.func77, Try.ntmps77
    go_wp2
    go_loopw [13] (fun i wr => ∃ k : Nat, k ≤ xs.length ∧ i = .int .i64 k ∧ Hid (xs.take k = ys.take k) ∧ Below w.heap.size w wr) (fun i _ => xs.length - (intOf i).toNat)
    case atStart => exact ⟨0, Nat.zero_le _, rfl, rfl, Below.refl _ _⟩
    case round =>
      obtain ⟨k, hk, rfl, hE, hB⟩ := hrel
      by_cases hlt : k < xs.length
      · have hlt2 : k < ys.length := by rw [← Hl.out]; exact hlt
        rcases H1.out with h | ⟨b1, o1, rfl, h1⟩
        · subst h; simp at hlt
        rcases H2.out with h | ⟨b2, o2, rfl, h2⟩
        · subst h; simp at hlt2
        have H1' : Hid (BoxAt w b1 o1 xs) := h1
        have H2' : Hid (BoxAt w b2 o2 ys) := h2
        clear h1 h2
        have HT : Hid ((xs.take (k + 1) = ys.take (k + 1)) ↔ (xs.getD k (0, 0) = ys.getD k (0, 0))) := by
          unfold Hid; rw [take_succ_eqG (0, 0) hlt hlt2]; exact ⟨fun h => h.2, fun h => ⟨hE, h⟩⟩
        obtain ⟨p, hp⟩ : ∃ p, p = xs.getD k (0, 0) := ⟨_, rfl⟩
        obtain ⟨q, hq⟩ : ∃ q, q = ys.getD k (0, 0) := ⟨_, rfl⟩
        obtain ⟨ca, cb⟩ := H1'.out.2 k hlt
        obtain ⟨da, db⟩ := H2'.out.2 k hlt2
        rw [← hB.cell H1'.out.1, ← hp] at ca cb
        rw [← hB.cell H2'.out.1, ← hq] at da db
        have HP : Hid (p = xs.getD k (0, 0)) := hp
        have HQ : Hid (q = ys.getD k (0, 0)) := hq
        clear hp hq
        obtain ⟨p1, p2⟩ := p
        obtain ⟨q1, q2⟩ := q
        have HB : Hid (Below w.heap.size w wr) := hB
        clear hB
        have hne := fun w => neqRead p1 p2 q1 q2 w
        by_cases hpq : eq2 (p1, p2) (q1, q2) = true
        · have N : Hid (xs.take (k + 1) = ys.take (k + 1)) := by
            show _ = _
            apply HT.out.2
            rw [← HP.out, ← HQ.out]
            exact (eq2_iff _ _).1 hpq
          rw [hpq] at hne
          go_wp2
          go_quiet (fail)
          go_wp2
          go_roundw
          case rel => exact ⟨k + 1, by omega, by go_num, N, below_drewN HB.out _⟩
          case measure => simp [intOf]; omega
        · have hpq' : eq2 (p1, p2) (q1, q2) = false := by simpa using hpq
          have F : Hid ((xs == ys) = false) := by
            show _ = _
            apply ne_of_getDG (k := k) (0, 0)
            rw [← HP.out, ← HQ.out]
            exact (eq2_false _ _).1 hpq'
          clear hpq
          rw [hpq'] at hne
          go_wp2
          go_quiet (fail)
          go_wp2
          go_ret
          exact ⟨ret_bool F.out.symm, below_drewN HB.out _⟩
      · go_wp2
        go_ret
        have : k = xs.length := by omega
        subst this
        refine ⟨ret_bool ?_, hB⟩
        have h := hE
        unfold Hid at h
        rw [List.take_length] at h
        have h3 := Hl.out
        rw [List.take_of_length_le (by omega)] at h
        simp [h]
  · have hl' : ((xs.length : Int) != (ys.length : Int)) = true := by simp; omega
    go_enter Try.func77, Try.ntmps77
    go_wp2
    go_ret
    refine ⟨ret_bool ?_, Below.refl _ _⟩
    symm
    simp
    intro h; exact hl (by rw [h])
end Go.Proofs.Ytgcencilgpilaaa.Own

namespace Go.Proofs.Ytgcencilgpilaaa.Own
open Go.RowKit
set_option linter.unusedVariables false

theorem eqPut1 (d : Nat) (a b a' b' : Int) (w : World) : (Op.equalIn (d+2) 36 (.agg #[.int .i64 a, .int .i64 b]) (.agg #[.int .i64 a', .int .i64 b'])).run Try.prog w = .ok (eq2 (a, b) (a', b')) w := by
  unfold eq2
  go_simp
  by_cases h : a = a'
  · by_cases h1 : b = b' <;> simp [h, h1]
  · simp [h]
theorem neqPut (a b a' b' : Int) (w : World) : (binOp .neq 36 (.agg #[.int .i64 a, .int .i64 b]) (.agg #[.int .i64 a', .int .i64 b'])).run Try.prog w = .ok (.bool (!(eq2 (a, b) (a', b')))) w := by
  rw [run_neq_struct, eqPut1 9998]; rfl

set_option maxRecDepth 100000 in
set_option maxHeartbeats 1000000 in
theorem equalPut (a1 a2 : Option Addr) (c1 c2 : Nat) (xs ys : List P2) (w : World) (h1 : Sl w a1 xs) (h2 : Sl w a2 ys) (l1 : xs.length ≤ 2 ^ 40) (l2 : ys.length ≤ 2 ^ 40) :
    Calls Try.prog 78 #[.slice a1 xs.length c1, .slice a2 ys.length c2] w fun e w' => e = .returned (.bool (xs == ys)) ∧ Below w.heap.size w w' := by
  have H1 : Hid (Sl w a1 xs) := h1
  have H2 : Hid (Sl w a2 ys) := h2
  clear h1 h2
  by_cases hl : xs.length = ys.length
  · have hl' : ((xs.length : Int) != (ys.length : Int)) = false := by simp [hl]
    have Hl : Hid (xs.length = ys.length) := hl
    clear hl
    go_enter Try.func78, Try.ntmps78
    go_wp2
    go_loopw [13] (fun i wr => ∃ k : Nat, k ≤ xs.length ∧ i = .int .i64 k ∧ Hid (xs.take k = ys.take k) ∧ Below w.heap.size w wr) (fun i _ => xs.length - (intOf i).toNat)
    case atStart => exact ⟨0, Nat.zero_le _, rfl, rfl, Below.refl _ _⟩
    case round =>
      obtain ⟨k, hk, rfl, hE, hB⟩ := hrel
      by_cases hlt : k < xs.length
      · have hlt2 : k < ys.length := by rw [← Hl.out]; exact hlt
        rcases H1.out with h | ⟨b1, o1, rfl, h1⟩
        · subst h; simp at hlt
        rcases H2.out with h | ⟨b2, o2, rfl, h2⟩
        · subst h; simp at hlt2
        have H1' : Hid (BoxAt w b1 o1 xs) := h1
        have H2' : Hid (BoxAt w b2 o2 ys) := h2
        clear h1 h2
        have HT : Hid ((xs.take (k + 1) = ys.take (k + 1)) ↔ (xs.getD k (0, 0) = ys.getD k (0, 0))) := by
          unfold Hid; rw [take_succ_eqG (0, 0) hlt hlt2]; exact ⟨fun h => h.2, fun h => ⟨hE, h⟩⟩
        obtain ⟨p, hp⟩ : ∃ p, p = xs.getD k (0, 0) := ⟨_, rfl⟩
        obtain ⟨q, hq⟩ : ∃ q, q = ys.getD k (0, 0) := ⟨_, rfl⟩
        obtain ⟨ca, cb⟩ := H1'.out.2 k hlt
        obtain ⟨da, db⟩ := H2'.out.2 k hlt2
        rw [← hB.cell H1'.out.1, ← hp] at ca cb
        rw [← hB.cell H2'.out.1, ← hq] at da db
        have HP : Hid (p = xs.getD k (0, 0)) := hp
        have HQ : Hid (q = ys.getD k (0, 0)) := hq
        clear hp hq
        obtain ⟨p1, p2⟩ := p
        obtain ⟨q1, q2⟩ := q
        have HB : Hid (Below w.heap.size w wr) := hB
        clear hB
        have hne := fun w => neqPut p1 p2 q1 q2 w
        by_cases hpq : eq2 (p1, p2) (q1, q2) = true
        · have N : Hid (xs.take (k + 1) = ys.take (k + 1)) := by
            show _ = _
            apply HT.out.2
            rw [← HP.out, ← HQ.out]
            exact (eq2_iff _ _).1 hpq
          rw [hpq] at hne
          go_wp2
          go_quiet (fail)
          go_wp2
          go_roundw
          case rel => exact ⟨k + 1, by omega, by go_num, N, below_drewN HB.out _⟩
          case measure => simp [intOf]; omega
        · have hpq' : eq2 (p1, p2) (q1, q2) = false := by simpa using hpq
          have F : Hid ((xs == ys) = false) := by
            show _ = _
            apply ne_of_getDG (k := k) (0, 0)
            rw [← HP.out, ← HQ.out]
            exact (eq2_false _ _).1 hpq'
          clear hpq
          rw [hpq'] at hne
          go_wp2
          go_quiet (fail)
          go_wp2
          go_ret
          exact ⟨ret_bool F.out.symm, below_drewN HB.out _⟩
      · go_wp2
        go_ret
        have : k = xs.length := by omega
        subst this
        refine ⟨ret_bool ?_, hB⟩
        have h := hE
        unfold Hid at h
        rw [List.take_length] at h
        have h3 := Hl.out
        rw [List.take_of_length_le (by omega)] at h
        simp [h]
  · have hl' : ((xs.length : Int) != (ys.length : Int)) = true := by simp; omega
    go_enter Try.func78, Try.ntmps78
    go_wp2
    go_ret
    refine ⟨ret_bool ?_, Below.refl _ _⟩
    symm
    simp
    intro h; exact hl (by rw [h])
end Go.Proofs.Ytgcencilgpilaaa.Own

namespace Go.Proofs.Ytgcencilgpilaaa.Own
open Go.RowKit
set_option linter.unusedVariables false
set_option linter.unusedSimpArgs false

set_option maxRecDepth 100000 in
set_option maxHeartbeats 1000000 in
theorem implExecSame (a1 a2 b1 b2 : Option Addr) (c1 c2 d1 d2 : Nat) (xs ys zs us : List P2) (v k v' k' : Int) (w : World) (h1 : Sl w a1 xs) (h2 : Sl w a2 ys) (h3 : Sl w b1 zs) (h4 : Sl w b2 us)
    (n1 : xs.length ≤ 2 ^ 40) (n2 : ys.length ≤ 2 ^ 40) (n3 : zs.length ≤ 2 ^ 40) (n4 : us.length ≤ 2 ^ 40) :
    Calls Try.prog 24 #[.agg #[.slice a1 xs.length c1, .slice a2 ys.length c2, .int .i64 v, .int .i64 k], .agg #[.slice b1 zs.length d1, .slice b2 us.length d2, .int .i64 v', .int .i64 k']] w fun e w' => e = .returned (.bool (sameRun xs ys zs us v k v' k')) ∧ Below w.heap.size w w' := by
  have H1 : Hid (Sl w a1 xs) := h1
  have H2 : Hid (Sl w a2 ys) := h2
  have H3 : Hid (Sl w b1 zs) := h3
  have H4 : Hid (Sl w b2 us) := h4
  clear h1 h2 h3 h4
  have E : Hid (sameRun xs ys zs us v k v' k' = (k == k' && v == v' && xs == zs && ys == us)) := rfl
  obtain ⟨W, hW⟩ : ∃ W, W = (w.alloc (.cells #[.slice a1 xs.length c1, .slice a2 ys.length c2, .int .i64 v, .int .i64 k] 27)).alloc (.cells #[.slice b1 zs.length d1, .slice b2 us.length d2, .int .i64 v', .int .i64 k'] 27) := ⟨_, rfl⟩
  have hbW : Hid (Below w.heap.size w W) := by
    show Below _ _ _
    rw [hW]; exact ((Below.refl _ _).alloc (Nat.le_refl _) _).alloc (by simp) _
  have hsW : Hid (W.heap.size = w.heap.size + 2) := by show _ = _; rw [hW]; simp
  have g0 : Hid (W.heap[w.heap.size]? = some (.cells #[.slice a1 xs.length c1, .slice a2 ys.length c2, .int .i64 v, .int .i64 k] 27 (0, 0))) := by
    show _ = _
    rw [hW]; exact heap_new1 _ _ _
  have g1 : Hid (W.heap[w.heap.size + 1]? = some (.cells #[.slice b1 zs.length d1, .slice b2 us.length d2, .int .i64 v', .int .i64 k'] 27 (0, 0))) := by
    show _ = _
    rw [hW]; exact heap_new2 _ _ _
  have HW : Hid (W = _) := hW
  clear hW
  cases hk : (k == k') with
  | false =>
    go_enter Try.func24, Try.ntmps24
    go_wp2_with fail
    go_ret
    exact ⟨ret_bool (by rw [E.out, hk]; rfl), by rw [← HW.out]; exact hbW.out⟩
  | true =>
    cases hv : (v == v') with
    | false =>
      go_enter Try.func24, Try.ntmps24
      go_wp2_with fail
      go_ret
      exact ⟨ret_bool (by rw [E.out, hv]; simp), by rw [← HW.out]; exact hbW.out⟩
    | true =>
      have E2 : Hid (sameRun xs ys zs us v k v' k' = (xs == zs && ys == us)) := by show _ = _; rw [E.out, hk, hv]; rfl
      have C1 := equalRead a1 b1 c1 d1 xs zs W (H1.out.below hbW.out) (H3.out.below hbW.out) n1 n3
      generalize (xs == zs) = r at E2 C1
      have C1' : Hid (Calls Try.prog 77 #[.slice a1 xs.length c1, .slice b1 zs.length d1] W fun e w' => e = .returned (.bool r) ∧ Below W.heap.size W w') := C1
      clear C1
      go_enter Try.func24, Try.ntmps24
      go_wp2_with fail
      rw [← HW.out]
      refine C1'.out.mono ?_
      rintro e w1 ⟨rfl, b1'⟩
      have B1 : Hid (Below w.heap.size w w1) := hbW.out.trans (b1'.mono hbW.out.size)
      have q0 : w1.cell? ⟨w.heap.size, 1, none⟩ = some (.slice a2 ys.length c2) := by rw [b1'.cell (p := ⟨w.heap.size, 1, none⟩) (by show w.heap.size < _; have := hsW.out; omega), cell_heap g0.out]; rfl
      have q1 : w1.cell? ⟨w.heap.size + 1, 1, none⟩ = some (.slice b2 us.length d2) := by rw [b1'.cell (p := ⟨w.heap.size + 1, 1, none⟩) (by show w.heap.size + 1 < _; have := hsW.out; omega), cell_heap g1.out]; rfl
      clear b1'
      cases r with
      | false =>
        go_wp2_with fail
        go_ret
        exact ⟨ret_bool (by rw [E2.out]; rfl), B1.out⟩
      | true =>
        go_wp2_with fail
        refine (equalPut a2 b2 c2 d2 ys us w1 (H2.out.below B1.out) (H4.out.below B1.out) n2 n4).mono ?_
        rintro e w2 ⟨rfl, b2'⟩
        have B2 : Hid (Below w.heap.size w w2) := B1.out.trans (b2'.mono B1.out.size)
        clear b2'
        generalize (ys == us) = r2 at E2
        go_wp2_with fail
        go_ret
        exact ⟨ret_bool (by rw [E2.out]; rfl), B2.out⟩
end Go.Proofs.Ytgcencilgpilaaa.Own

namespace Go.Proofs.Ytgcencilgpilaaa.Own
open Go.RowKit
set_option linter.unusedVariables false
set_option linter.unusedSimpArgs false

set_option maxRecDepth 100000 in
set_option maxHeartbeats 4000000 in
theorem specExecSame (a1 a2 b1 b2 : Option Addr) (c1 c2 d1 d2 : Nat) (xs ys zs us : List P2) (v k v' k' : Int) (w : World) (h1 : Sl w a1 xs) (h2 : Sl w a2 ys) (h3 : Sl w b1 zs) (h4 : Sl w b2 us)
    (n1 : xs.length ≤ 2 ^ 40) (n2 : ys.length ≤ 2 ^ 40) (n3 : zs.length ≤ 2 ^ 40) (n4 : us.length ≤ 2 ^ 40) :
    Calls Try.prog 25 #[.agg #[.slice a1 xs.length c1, .slice a2 ys.length c2, .int .i64 v, .int .i64 k], .agg #[.slice b1 zs.length d1, .slice b2 us.length d2, .int .i64 v', .int .i64 k']] w fun e w' => e = .returned (.bool (sameRun xs ys zs us v k v' k')) ∧ Below w.heap.size w w' := by
  have H1 : Hid (Sl w a1 xs) := h1
  have H2 : Hid (Sl w a2 ys) := h2
  have H3 : Hid (Sl w b1 zs) := h3
  have H4 : Hid (Sl w b2 us) := h4
  clear h1 h2 h3 h4
  have E : Hid (sameRun xs ys zs us v k v' k' = (k == k' && v == v' && xs == zs && ys == us)) := rfl
  obtain ⟨W, hW⟩ : ∃ W, W = (w.alloc (.cells #[.slice a1 xs.length c1, .slice a2 ys.length c2, .int .i64 v, .int .i64 k] 27)).alloc (.cells #[.slice b1 zs.length d1, .slice b2 us.length d2, .int .i64 v', .int .i64 k'] 27) := ⟨_, rfl⟩
  have hbW : Hid (Below w.heap.size w W) := by
    show Below _ _ _
    rw [hW]; exact ((Below.refl _ _).alloc (Nat.le_refl _) _).alloc (by simp) _
  have hsW : Hid (W.heap.size = w.heap.size + 2) := by show _ = _; rw [hW]; simp
  have g0 : Hid (W.heap[w.heap.size]? = some (.cells #[.slice a1 xs.length c1, .slice a2 ys.length c2, .int .i64 v, .int .i64 k] 27 (0, 0))) := by
    show _ = _
    rw [hW]; exact heap_new1 _ _ _
  have g1 : Hid (W.heap[w.heap.size + 1]? = some (.cells #[.slice b1 zs.length d1, .slice b2 us.length d2, .int .i64 v', .int .i64 k'] 27 (0, 0))) := by
    show _ = _
    rw [hW]; exact heap_new2 _ _ _
  have CC : Hid (∀ wr, Below W.heap.size W wr → (wr.cell? ⟨w.heap.size, 0, none⟩ = some (.slice a1 xs.length c1) ∧ wr.cell? ⟨w.heap.size + 1, 0, none⟩ = some (.slice b1 zs.length d1)) ∧ wr.cell? ⟨w.heap.size, 1, none⟩ = some (.slice a2 ys.length c2) ∧ wr.cell? ⟨w.heap.size + 1, 1, none⟩ = some (.slice b2 us.length d2)) := by
    intro wr hB
    have e0 : ∀ o, wr.cell? ⟨w.heap.size, o, none⟩ = W.cell? ⟨w.heap.size, o, none⟩ := fun o => hB.cell (p := ⟨w.heap.size, o, none⟩) (by show w.heap.size < _; have := hsW.out; omega)
    have e1 : ∀ o, wr.cell? ⟨w.heap.size + 1, o, none⟩ = W.cell? ⟨w.heap.size + 1, o, none⟩ := fun o => hB.cell (p := ⟨w.heap.size + 1, o, none⟩) (by show w.heap.size + 1 < _; have := hsW.out; omega)
    rw [e0, e0, e1, e1, cell_heap g0.out, cell_heap g0.out, cell_heap g1.out, cell_heap g1.out]
    exact ⟨⟨rfl, rfl⟩, rfl, rfl⟩
  have HW : Hid (W = _) := hW
  clear hW
  obtain ⟨bad, hbad⟩ : ∃ b, b = (v != v' || (k != k' || ((xs.length : Int) != (zs.length : Int) || (ys.length : Int) != (us.length : Int)))) := ⟨_, rfl⟩
  have HBAD : Hid (bad = (v != v' || (k != k' || ((xs.length : Int) != (zs.length : Int) || (ys.length : Int) != (us.length : Int))))) := hbad
  clear hbad
  go_enter Try.func25, Try.ntmps25
  go_upto_region 1 with fail
  go_cut [36] from 7 to 36 (fun c wx => c = .bool bad ∧ wx = W)
  case first =>
    cases e1 : (v != v') with
    | true =>
      go_wp2_with fail
      go_meet
      exact ⟨by rw [HBAD.out, e1]; rfl, HW.out.symm⟩
    | false =>
      cases e2 : (k != k') with
      | true =>
        go_wp2_with fail
        go_meet
        exact ⟨by rw [HBAD.out, e1, e2]; rfl, HW.out.symm⟩
      | false =>
        cases e3 : ((xs.length : Int) != (zs.length : Int)) with
        | true =>
          go_wp2_with fail
          go_meet
          exact ⟨by rw [HBAD.out, e1, e2, e3]; rfl, HW.out.symm⟩
        | false =>
          go_wp2_with fail
          go_meet
          exact ⟨by rw [HBAD.out, e1, e2, e3]; rfl, HW.out.symm⟩
  case rest =>
    obtain ⟨rfl, hwc⟩ := hcut
    have hwc' := hwc.symm
    subst hwc'
    clear hwc
    cases bad with
    | true =>
      have F : Hid (sameRun xs ys zs us v k v' k' = false) := by
        show _ = _
        rw [Bool.eq_false_iff, E.out]
        intro h
        simp only [Bool.and_eq_true, beq_iff_eq] at h
        obtain ⟨⟨⟨rfl, rfl⟩, rfl⟩, rfl⟩ := h
        have := HBAD.out
        simp at this
      go_wp2_with fail
      go_ret
      exact ⟨ret_bool F.out.symm, hbW.out⟩
    | false =>
      have HE : Hid (v = v' ∧ k = k' ∧ xs.length = zs.length ∧ ys.length = us.length) := by
        have := HBAD.out.symm
        simp only [Bool.or_eq_false_iff, bne_eq_false_iff_eq] at this
        exact ⟨this.1, this.2.1, by omega, by omega⟩
      have E2 : Hid (sameRun xs ys zs us v k v' k' = (xs == zs && ys == us)) := by show _ = _; rw [E.out]; simp [HE.out.1, HE.out.2.1]
      clear HBAD E
      obtain ⟨⟨q0, q1⟩, _⟩ := CC.out W (Below.refl _ _)
      go_wp2_with fail
      clear q0 q1
      go_loopw [5] (fun i wr => ∃ j : Nat, j ≤ xs.length ∧ i = .int .i64 j ∧ Hid (xs.take j = zs.take j) ∧ Below W.heap.size W wr) (fun i _ => xs.length - (intOf i).toNat)
      case atStart => exact ⟨0, Nat.zero_le _, rfl, rfl, Below.refl _ _⟩
      case round =>
        obtain ⟨j, hj, rfl, hA, hB⟩ := hrel
        have HB : Hid (Below W.heap.size W wr) := hB
        obtain ⟨⟨q0, q1⟩, q2, q3⟩ := CC.out wr hB
        by_cases hlt : j < xs.length
        · have hlt2 : j < zs.length := by rw [← HE.out.2.2.1]; exact hlt
          rcases H1.out with h | ⟨b1', o1, rfl, h1⟩
          · subst h; simp at hlt
          rcases H3.out with h | ⟨b2', o2, rfl, h2⟩
          · subst h; simp at hlt2
          have H1' : Hid (BoxAt wr b1' o1 xs) := (h1.below hbW.out).below hB
          have H2' : Hid (BoxAt wr b2' o2 zs) := (h2.below hbW.out).below hB
          clear h1 h2 hB
          have HT : Hid ((xs.take (j + 1) = zs.take (j + 1)) ↔ (xs.getD j (0, 0) = zs.getD j (0, 0))) := by
            unfold Hid; rw [take_succ_eqG (0, 0) hlt hlt2]; exact ⟨fun h => h.2, fun h => ⟨hA, h⟩⟩
          obtain ⟨p, hp⟩ : ∃ p, p = xs.getD j (0, 0) := ⟨_, rfl⟩
          obtain ⟨q, hq⟩ : ∃ q, q = zs.getD j (0, 0) := ⟨_, rfl⟩
          obtain ⟨ca, cb⟩ := H1'.out.2 j hlt
          obtain ⟨da, db⟩ := H2'.out.2 j hlt2
          rw [← hp] at ca cb
          rw [← hq] at da db
          have HP : Hid (p = xs.getD j (0, 0)) := hp
          have HQ : Hid (q = zs.getD j (0, 0)) := hq
          clear hp hq
          obtain ⟨p1, p2⟩ := p
          obtain ⟨r1, r2⟩ := q
          have hne := fun w => neqRead p1 p2 r1 r2 w
          cases hpq : eq2 (p1, p2) (r1, r2) with
          | true =>
            have N : Hid (xs.take (j + 1) = zs.take (j + 1)) := by
              show _ = _
              apply HT.out.2
              rw [← HP.out, ← HQ.out]
              exact (eq2_iff _ _).1 hpq
            rw [hpq] at hne
            clear HT
            go_wp2
            go_quiet (fail)
            go_wp2
            go_roundw
            case rel => exact ⟨j + 1, by omega, by go_num, N, below_drewN HB.out _⟩
            case measure => simp [intOf]; omega
          | false =>
            have F : Hid ((xs == zs) = false) := by
              show _ = _
              apply ne_of_getDG (k := j) (0, 0)
              rw [← HP.out, ← HQ.out]
              exact (eq2_false _ _).1 hpq
            rw [hpq] at hne
            clear HT
            go_wp2
            go_quiet (fail)
            go_wp2
            go_ret
            exact ⟨ret_bool (by rw [E2.out, F.out]; rfl), below_drewN (hbW.out.trans (HB.out.mono hbW.out.size)) _⟩
        · have HA : Hid ((xs == zs) = true) := by
            show _ = _
            have h1 : j = xs.length := by omega
            have h := hA.out
            subst h1
            rw [List.take_length] at h
            have h3 := HE.out.2.2.1
            rw [List.take_of_length_le (by omega)] at h
            simp [h]
          clear hB hA
          go_wp2_with fail
          clear q0 q1 q2 q3 hlt
          go_loopw [6] (fun i ws => ∃ j : Nat, j ≤ ys.length ∧ i = .int .i64 j ∧ Hid (ys.take j = us.take j) ∧ Below W.heap.size W ws) (fun i _ => ys.length - (intOf i).toNat)
          case atStart => exact ⟨0, Nat.zero_le _, rfl, rfl, HB.out⟩
          case round =>
            clear HB
            obtain ⟨m, hm, rfl, hA, hB⟩ := hrel
            have HB : Hid (Below W.heap.size W wr) := hB
            obtain ⟨_, q2, q3⟩ := CC.out wr hB
            by_cases hlt : m < ys.length
            · have hlt2 : m < us.length := by rw [← HE.out.2.2.2]; exact hlt
              rcases H2.out with h | ⟨b1', o1, rfl, h1⟩
              · subst h; simp at hlt
              rcases H4.out with h | ⟨b2', o2, rfl, h2⟩
              · subst h; simp at hlt2
              have H1' : Hid (BoxAt wr b1' o1 ys) := (h1.below hbW.out).below hB
              have H2' : Hid (BoxAt wr b2' o2 us) := (h2.below hbW.out).below hB
              clear h1 h2 hB
              have HT : Hid ((ys.take (m + 1) = us.take (m + 1)) ↔ (ys.getD m (0, 0) = us.getD m (0, 0))) := by
                unfold Hid; rw [take_succ_eqG (0, 0) hlt hlt2]; exact ⟨fun h => h.2, fun h => ⟨hA, h⟩⟩
              obtain ⟨p, hp⟩ : ∃ p, p = ys.getD m (0, 0) := ⟨_, rfl⟩
              obtain ⟨q, hq⟩ : ∃ q, q = us.getD m (0, 0) := ⟨_, rfl⟩
              obtain ⟨ca, cb⟩ := H1'.out.2 m hlt
              obtain ⟨da, db⟩ := H2'.out.2 m hlt2
              rw [← hp] at ca cb
              rw [← hq] at da db
              have HP : Hid (p = ys.getD m (0, 0)) := hp
              have HQ : Hid (q = us.getD m (0, 0)) := hq
              clear hp hq
              obtain ⟨p1, p2⟩ := p
              obtain ⟨r1, r2⟩ := q
              have hne := fun w => neqPut p1 p2 r1 r2 w
              cases hpq : eq2 (p1, p2) (r1, r2) with
              | true =>
                have N : Hid (ys.take (m + 1) = us.take (m + 1)) := by
                  show _ = _
                  apply HT.out.2
                  rw [← HP.out, ← HQ.out]
                  exact (eq2_iff _ _).1 hpq
                rw [hpq] at hne
                clear HT
                go_wp2
                go_quiet (fail)
                go_wp2
                go_roundw
                case rel => exact ⟨m + 1, by omega, by go_num, N, below_drewN HB.out _⟩
                case measure => simp [intOf]; omega
              | false =>
                have F : Hid ((ys == us) = false) := by
                  show _ = _
                  apply ne_of_getDG (k := m) (0, 0)
                  rw [← HP.out, ← HQ.out]
                  exact (eq2_false _ _).1 hpq
                rw [hpq] at hne
                clear HT
                go_wp2
                go_quiet (fail)
                go_wp2
                go_ret
                exact ⟨ret_bool (by rw [E2.out, F.out]; simp), below_drewN (hbW.out.trans (HB.out.mono hbW.out.size)) _⟩
            · have HA2 : Hid ((ys == us) = true) := by
                show _ = _
                have h1 : m = ys.length := by omega
                have h := hA.out
                subst h1
                rw [List.take_length] at h
                have h3 := HE.out.2.2.2
                rw [List.take_of_length_le (by omega)] at h
                simp [h]
              clear hB hA
              go_wp2
              go_ret
              exact ⟨ret_bool (by rw [E2.out, HA.out, HA2.out]; rfl), hbW.out.trans (HB.out.mono hbW.out.size)⟩
end Go.Proofs.Ytgcencilgpilaaa.Own
