/-
  Own texts, bundled: MsgOkI, Wf4, Args4I, ArgsR, ArgsP, ArgsRun, ArgsEnt, ArgsVote, ArgsMsg.
-/
import Derived.Test.YtbbbfnfpmaogoaaPk13
import Derived.BigQuiet
import Derived.Laws.EntriesVeiled
import Derived.Lib.QuietBelow
import Derived.Deep.Cut
import Derived.Test.YtbbbfnfpmaogoaaPk2
import Derived.ProofKit
import Derived.Deep.Slices
import Derived.Test.YtbbbfnfpmaogoaaPk1
import Derived.Deep.SlicePairs
import Derived.Test.YtbbbfnfpmaogoaaPk4
import Derived.Test.YtbbbfnfpmaogoaaPk6
namespace Go.Proofs.Ytbbbfnfpmaogoaa.Own
open Go.RowKit Go.Sort
set_option linter.unusedVariables false
set_option linter.unusedSimpArgs false

def wordOf (kind : Int) : ByteArray := if kind = 1 then ⟨#[112, 114, 101, 112, 97, 114, 101]⟩ else if kind = 2 then ⟨#[112, 114, 111, 109, 105, 115, 101]⟩ else if kind = 3 then ⟨#[97, 99, 99, 101, 112, 116]⟩ else if kind = 4 then ⟨#[97, 99, 99, 101, 112, 116, 101, 100]⟩ else if kind = 5 then ⟨#[99, 104, 111, 115, 101, 110]⟩ else if kind = 6 then ⟨#[114, 101, 102, 117, 115, 101]⟩ else if kind = 7 then ⟨#[97, 115, 107]⟩ else if kind = 8 then ⟨#[110, 101, 101, 100]⟩ else ⟨#[]⟩
def isKind (kind : Int) : Bool := decide (1 ≤ kind) && decide (kind ≤ 8)
/-- The bounds of the ballot: two numbers. -/
def balOf (kind : Int) : Int × Int := if kind = 1 ∨ kind = 2 ∨ kind = 3 ∨ kind = 4 ∨ kind = 6 then (1, 3000) else (0, 0)
def slotOf (kind : Int) : Int × Int := if kind = 1 ∨ kind = 2 ∨ kind = 4 ∨ kind = 8 then (0, 40) else if kind = 3 ∨ kind = 5 then (0, 39) else (0, 0)
def votesOf (kind : Int) : Bool := decide (kind = 2)
def formV (kind : Int) : Value := .agg #[.string (wordOf kind), .int .i64 (balOf kind).1, .int .i64 (balOf kind).2, .int .i64 (slotOf kind).1, .int .i64 (slotOf kind).2, entFn kind, .bool (votesOf kind)]
theorem kind_cases (kind : Int) : kind = 1 ∨ kind = 2 ∨ kind = 3 ∨ kind = 4 ∨ kind = 5 ∨ kind = 6 ∨ kind = 7 ∨ kind = 8 ∨ (kind ≠ 1 ∧ kind ≠ 2 ∧ kind ≠ 3 ∧ kind ≠ 4 ∧ kind ≠ 5 ∧ kind ≠ 6 ∧ kind ≠ 7 ∧ kind ≠ 8) := by omega
theorem isKind_not {kind : Int} (h : kind ≠ 1 ∧ kind ≠ 2 ∧ kind ≠ 3 ∧ kind ≠ 4 ∧ kind ≠ 5 ∧ kind ≠ 6 ∧ kind ≠ 7 ∧ kind ≠ 8) : isKind kind = false := by
  unfold isKind
  by_cases h1 : 1 ≤ kind
  · have : ¬ kind ≤ 8 := by omega
    simp [this]
  · simp [h1]
/-- What is asked of a message, part by part. -/
theorem formOk_parts (kind bal slot : Int) (b : EB) (bs : List V) : formOk kind bal slot b bs = (isKind kind && inSpan (balOf kind).1 (balOf kind).2 bal && inSpan (slotOf kind).1 (slotOf kind).2 slot && entBy kind b && (if votesOf kind then votesOk bs && decide (slot + bs.length ≤ 40) else decide (bs.length = 0))) := by
  rcases kind_cases kind with rfl | rfl | rfl | rfl | rfl | rfl | rfl | rfl | h
  case inr.inr.inr.inr.inr.inr.inr.inr =>
    obtain ⟨g1, g2, g3, g4, g5, g6, g7, g8⟩ := h
    rw [isKind_not ⟨g1, g2, g3, g4, g5, g6, g7, g8⟩]
    simp [formOk, g1, g2, g3, g4, g5, g6, g7, g8]
  all_goals simp [formOk, isKind, balOf, slotOf, entBy, votesOf, isBal_span]
theorem word_list (kind : Int) : ((wordOf kind).toList = []) ↔ isKind kind = false := by
  rw [ByteArray.toList_eq]
  rcases kind_cases kind with rfl | rfl | rfl | rfl | rfl | rfl | rfl | rfl | h
  case inr.inr.inr.inr.inr.inr.inr.inr =>
    rw [isKind_not h]
    obtain ⟨g1, g2, g3, g4, g5, g6, g7, g8⟩ := h
    have : wordOf kind = ⟨#[]⟩ := by simp [wordOf, g1, g2, g3, g4, g5, g6, g7, g8]
    rw [this]
    simp
  all_goals simp [wordOf, isKind]

set_option maxRecDepth 100000 in
set_option maxHeartbeats 4000000 in
theorem implForm (kind : Int) (w : World) : Calls Try.prog 98 #[.int .i64 kind] w fun e w' => e = .returned (formV kind) ∧ Below w.heap.size w w' := by
  have B4 : ∀ o1 o2 o3 o4, Hid (Below w.heap.size w ((((w.alloc o1).alloc o2).alloc o3).alloc o4)) := fun o1 o2 o3 o4 => (((((Below.refl _ _).alloc (Nat.le_refl _) _).alloc (by simp) _).alloc (by simp; omega) _).alloc (by simp; omega) _)
  rcases kind_cases kind with rfl | rfl | rfl | rfl | rfl | rfl | rfl | rfl | h
  case inr.inr.inr.inr.inr.inr.inr.inr =>
    obtain ⟨g1, g2, g3, g4, g5, g6, g7, g8⟩ := h
    have k1 : (kind == 1) = false := by simpa using g1
    have k2 : (kind == 2) = false := by simpa using g2
    have k3 : (kind == 3) = false := by simpa using g3
    have k4 : (kind == 4) = false := by simpa using g4
    have k5 : (kind == 5) = false := by simpa using g5
    have k6 : (kind == 6) = false := by simpa using g6
    have k7 : (kind == 7) = false := by simpa using g7
    have k8 : (kind == 8) = false := by simpa using g8
    have E : Hid (formV kind = .agg #[.string ⟨#[]⟩, .int .i64 0, .int .i64 0, .int .i64 0, .int .i64 0, .nilFunc, .bool false]) := by show _ = _; simp [formV, wordOf, balOf, slotOf, entFn, votesOf, g1, g2, g3, g4, g5, g6, g7, g8]
    rw [E.out]
    clear E g1 g2 g3 g4 g5 g6 g7 g8
    go_enter Try.func98, Try.ntmps98
    go_wp2
    refine bodyPost_ret (v := .agg #[.string ⟨#[]⟩, .int .i64 0, .int .i64 0, .int .i64 0, .int .i64 0, .nilFunc, .bool false]) (by simp [results, Try.results98, go_sem]) rfl ⟨rfl, ?_⟩
    exact (B4 _ _ _ _).out
  · go_enter Try.func98, Try.ntmps98
    go_wp2
    refine bodyPost_ret (v := formV 1) (by simp [results, Try.results98, go_sem, formV, wordOf, balOf, slotOf, entFn, votesOf]) rfl ⟨rfl, (B4 _ _ _ _).out⟩
  · go_enter Try.func98, Try.ntmps98
    go_wp2
    refine bodyPost_ret (v := formV 2) (by simp [results, Try.results98, go_sem, formV, wordOf, balOf, slotOf, entFn, votesOf]) rfl ⟨rfl, (B4 _ _ _ _).out⟩
  · go_enter Try.func98, Try.ntmps98
    go_wp2
    refine bodyPost_ret (v := formV 3) (by simp [results, Try.results98, go_sem, formV, wordOf, balOf, slotOf, entFn, votesOf]) rfl ⟨rfl, (B4 _ _ _ _).out⟩
  · go_enter Try.func98, Try.ntmps98
    go_wp2
    refine bodyPost_ret (v := formV 4) (by simp [results, Try.results98, go_sem, formV, wordOf, balOf, slotOf, entFn, votesOf]) rfl ⟨rfl, (B4 _ _ _ _).out⟩
  · go_enter Try.func98, Try.ntmps98
    go_wp2
    refine bodyPost_ret (v := formV 5) (by simp [results, Try.results98, go_sem, formV, wordOf, balOf, slotOf, entFn, votesOf]) rfl ⟨rfl, (B4 _ _ _ _).out⟩
  · go_enter Try.func98, Try.ntmps98
    go_wp2
    refine bodyPost_ret (v := formV 6) (by simp [results, Try.results98, go_sem, formV, wordOf, balOf, slotOf, entFn, votesOf]) rfl ⟨rfl, (B4 _ _ _ _).out⟩
  · go_enter Try.func98, Try.ntmps98
    go_wp2
    refine bodyPost_ret (v := formV 7) (by simp [results, Try.results98, go_sem, formV, wordOf, balOf, slotOf, entFn, votesOf]) rfl ⟨rfl, (B4 _ _ _ _).out⟩
  · go_enter Try.func98, Try.ntmps98
    go_wp2
    refine bodyPost_ret (v := formV 8) (by simp [results, Try.results98, go_sem, formV, wordOf, balOf, slotOf, entFn, votesOf]) rfl ⟨rfl, (B4 _ _ _ _).out⟩

theorem slot_in {kind slot : Int} (h : inSpan (slotOf kind).1 (slotOf kind).2 slot = true) : 0 ≤ slot ∧ slot ≤ 40 := by
  unfold slotOf at h
  split at h
  · simpa [inSpan] using h
  · split at h
    · have : 0 ≤ slot ∧ slot ≤ 39 := by simpa [inSpan] using h
      omega
    · have : 0 ≤ slot ∧ slot ≤ 0 := by simpa [inSpan] using h
      omega

set_option maxRecDepth 100000 in
set_option maxHeartbeats 4000000 in
theorem implHolds (kd : Int) (x : MM) (w : World) (h : AtM w x) (f : FitM x) :
    Calls Try.prog 99 #[.agg #[.string (wordOf kd), .int .i64 (balOf kd).1, .int .i64 (balOf kd).2, .int .i64 (slotOf kd).1, .int .i64 (slotOf kd).2, entFn kd, .bool (votesOf kd)], .agg #[.int .i64 x.kind, .int .i64 x.src, .int .i64 x.dst, .int .i64 x.bal, .int .i64 x.slot, .bool x.b.n, .int .i64 x.b.p, .int .i64 x.b.q, .slice x.a1 x.b.xs.length x.c1, .slice x.a2 x.b.ys.length x.c2, .int .i64 x.b.v, .int .i64 x.b.k, .slice x.a x.vs.length x.c]] w fun e w' => e = .returned (.bool (formOk kd x.bal x.slot x.b (bodies x.vs))) ∧ Below w.heap.size w w' := by
  have H : Hid (AtM w x) := h
  have F : Hid (FitM x) := f
  clear h f
  have E : Hid (formOk kd x.bal x.slot x.b (bodies x.vs) = (isKind kd && inSpan (balOf kd).1 (balOf kd).2 x.bal && inSpan (slotOf kd).1 (slotOf kd).2 x.slot && entBy kd x.b && (if votesOf kd then votesOk (bodies x.vs) && decide (x.slot + x.vs.length ≤ 40) else decide (x.vs.length = 0)))) := by
    show _ = _
    rw [formOk_parts, bodies_len]
  generalize formOk kd x.bal x.slot x.b (bodies x.vs) = T at E ⊢
  obtain ⟨W, hW⟩ : ∃ W, W = (w.alloc (.cells #[.string (wordOf kd), .int .i64 (balOf kd).1, .int .i64 (balOf kd).2, .int .i64 (slotOf kd).1, .int .i64 (slotOf kd).2, entFn kd, .bool (votesOf kd)] 132)).alloc (.cells #[.int .i64 x.kind, .int .i64 x.src, .int .i64 x.dst, .int .i64 x.bal, .int .i64 x.slot, .bool x.b.n, .int .i64 x.b.p, .int .i64 x.b.q, .slice x.a1 x.b.xs.length x.c1, .slice x.a2 x.b.ys.length x.c2, .int .i64 x.b.v, .int .i64 x.b.k, .slice x.a x.vs.length x.c] 78) := ⟨_, rfl⟩
  have BW : Hid (Below w.heap.size w W) := by
    show Below _ _ _
    rw [hW]; exact ((Below.refl _ _).alloc (Nat.le_refl _) _).alloc (by simp) _
  have G0 : Hid (Blk W w.heap.size #[.string (wordOf kd), .int .i64 (balOf kd).1, .int .i64 (balOf kd).2, .int .i64 (slotOf kd).1, .int .i64 (slotOf kd).2, entFn kd, .bool (votesOf kd)] 132) := by show Blk _ _ _ _; rw [hW]; exact (Blk.new _ _ _).alloc _
  have G1 : Hid (Blk W (w.heap.size + 1) #[.int .i64 x.kind, .int .i64 x.src, .int .i64 x.dst, .int .i64 x.bal, .int .i64 x.slot, .bool x.b.n, .int .i64 x.b.p, .int .i64 x.b.q, .slice x.a1 x.b.xs.length x.c1, .slice x.a2 x.b.ys.length x.c2, .int .i64 x.b.v, .int .i64 x.b.k, .slice x.a x.vs.length x.c] 78) := by show Blk _ _ _ _; rw [hW]; exact Blk.new2 _ _ _ _
  have HW : Hid (W = _) := hW
  clear hW
  have CE : Hid (∀ w', Below w.heap.size w w' → Calls Try.prog 130 #[.agg #[.string (wordOf kd), .int .i64 (balOf kd).1, .int .i64 (balOf kd).2, .int .i64 (slotOf kd).1, .int .i64 (slotOf kd).2, entFn kd, .bool (votesOf kd)], .agg #[.bool x.b.n, .int .i64 x.b.p, .int .i64 x.b.q, .slice x.a1 x.b.xs.length x.c1, .slice x.a2 x.b.ys.length x.c2, .int .i64 x.b.v, .int .i64 x.b.k]] w' fun e w'' => e = .returned (.bool (entBy kd x.b)) ∧ Below w'.heap.size w' w'') := fun w' hb => implHoldsEntry kd _ _ _ _ _ _ x.b x.a1 x.a2 x.c1 x.c2 w' (H.out.1.below hb) (H.out.2.1.below hb) F.out.1 F.out.2.1
  have CV : Hid (0 ≤ x.slot ∧ x.slot ≤ 40 → ∀ w', Below w.heap.size w w' → Calls Try.prog 131 #[.agg #[.string (wordOf kd), .int .i64 (balOf kd).1, .int .i64 (balOf kd).2, .int .i64 (slotOf kd).1, .int .i64 (slotOf kd).2, entFn kd, .bool (votesOf kd)], .int .i64 x.slot, .slice x.a x.vs.length x.c] w' fun e w'' => e = .returned (.bool (if votesOf kd then votesOk (bodies x.vs) && decide (x.slot + x.vs.length ≤ 40) else decide (x.vs.length = 0))) ∧ Below w'.heap.size w' w'') := fun hs w' hb => implHoldsVotes (votesOf kd) _ _ _ _ _ _ x.slot x.a x.c x.vs w' (H.out.2.2.below hb) F.out.2.2.2.2.1 F.out.2.2.2.2.2 hs
  have SI : Hid (inSpan (slotOf kd).1 (slotOf kd).2 x.slot = true → 0 ≤ x.slot ∧ x.slot ≤ 40) := slot_in
  have hwn := word_list kd
  generalize (if votesOf kd then votesOk (bodies x.vs) && decide (x.slot + x.vs.length ≤ 40) else decide (x.vs.length = 0)) = vb at E CV
  generalize entBy kd x.b = eb at E CE
  cases hk : isKind kd with
  | false =>
    have X : Hid (T = false) := by show _ = _; rw [E.out, hk]; rfl
    rw [hk] at hwn
    simp only [iff_true, iff_false, Bool.true_eq_false, reduceCtorEq] at hwn
    clear E CE CV hk
    go_enter Try.func99, Try.ntmps99
    go_wp2_with fail
    go_ret
    exact ⟨ret_bool X.out.symm, by rw [← HW.out]; exact BW.out⟩
  | true =>
    have E1 : Hid (T = (inSpan (balOf kd).1 (balOf kd).2 x.bal && inSpan (slotOf kd).1 (slotOf kd).2 x.slot && eb && vb)) := by show _ = _; rw [E.out, hk]; simp only [Bool.true_and]
    rw [hk] at hwn
    simp only [iff_true, iff_false, Bool.true_eq_false, reduceCtorEq] at hwn
    clear E hk
    go_enter Try.func99, Try.ntmps99
    go_wp2_with fail
    rw [← HW.out]
    refine (implSpan _ _ x.bal W).mono ?_
    rintro e w1 ⟨rfl, b1⟩
    have B1 : Hid (Below w.heap.size w w1) := BW.out.trans (b1.mono BW.out.size)
    have W1 : Hid (Below W.heap.size W w1) := b1
    clear b1
    obtain ⟨q0, q1, q2, q3, q4, q5, q6⟩ := (G0.out.keep W1.out).cells7
    obtain ⟨r0, r1, r2, r3, r4, r5, r6, r7, r8, r9, r10, r11, r12⟩ := (G1.out.keep W1.out).cells13
    generalize inSpan (balOf kd).1 (balOf kd).2 x.bal = s1 at E1 ⊢
    cases s1 with
    | false =>
      have X : Hid (T = false) := by show _ = _; rw [E1.out]; rfl
      go_wp2_with fail
      go_ret
      exact ⟨ret_bool X.out.symm, B1.out⟩
    | true =>
      go_wp2_with fail
      refine (implSpan _ _ x.slot w1).mono ?_
      rintro e w2 ⟨rfl, b2⟩
      have B2 : Hid (Below w.heap.size w w2) := B1.out.trans (b2.mono B1.out.size)
      have W2 : Hid (Below W.heap.size W w2) := W1.out.trans (b2.mono W1.out.size)
      clear b2 q0 q1 q2 q3 q4 q5 q6 r0 r1 r2 r3 r4 r5 r6 r7 r8 r9 r10 r11 r12
      obtain ⟨q0, q1, q2, q3, q4, q5, q6⟩ := (G0.out.keep W2.out).cells7
      obtain ⟨r0, r1, r2, r3, r4, r5, r6, r7, r8, r9, r10, r11, r12⟩ := (G1.out.keep W2.out).cells13
      generalize inSpan (slotOf kd).1 (slotOf kd).2 x.slot = s2 at E1 SI ⊢
      cases s2 with
      | false =>
        have X : Hid (T = false) := by show _ = _; rw [E1.out]; rfl
        go_wp2_with fail
        go_ret
        exact ⟨ret_bool X.out.symm, B2.out⟩
      | true =>
        have SS : Hid (0 ≤ x.slot ∧ x.slot ≤ 40) := SI.out rfl
        clear SI
        go_wp2_with fail
        refine (CE.out w2 B2.out).mono ?_
        rintro e w3 ⟨rfl, b3⟩
        have B3 : Hid (Below w.heap.size w w3) := B2.out.trans (b3.mono B2.out.size)
        have W3 : Hid (Below W.heap.size W w3) := W2.out.trans (b3.mono W2.out.size)
        clear b3 q0 q1 q2 q3 q4 q5 q6 r0 r1 r2 r3 r4 r5 r6 r7 r8 r9 r10 r11 r12
        obtain ⟨q0, q1, q2, q3, q4, q5, q6⟩ := (G0.out.keep W3.out).cells7
        obtain ⟨r0, r1, r2, r3, r4, r5, r6, r7, r8, r9, r10, r11, r12⟩ := (G1.out.keep W3.out).cells13
        cases eb with
        | false =>
          have X : Hid (T = false) := by show _ = _; rw [E1.out]; rfl
          go_wp2_with fail
          go_ret
          exact ⟨ret_bool X.out.symm, B3.out⟩
        | true =>
          have X : Hid (T = vb) := by show _ = _; rw [E1.out]; rfl
          have ie : Hid ((wordOf kd).toList.isEmpty = false) := by show _ = _; simpa using hwn
          go_wp2_with fail
          refine (CV.out SS.out w3 B3.out).mono ?_
          rintro e w4 ⟨rfl, b4⟩
          have B4 : Hid (Below w.heap.size w w4) := B3.out.trans (b4.mono B3.out.size)
          clear b4 q0 q1 q2 q3 q4 q5 q6 r0 r1 r2 r3 r4 r5 r6 r7 r8 r9 r10 r11 r12
          go_wp2_with fail
          go_ret
          exact ⟨ret_bool (by rw [X.out, ie.out]; rfl), B4.out⟩

set_option maxRecDepth 100000 in
set_option maxHeartbeats 4000000 in
theorem implMsgOk (x : MM) (w : World) (h : AtM w x) (f : FitM x) :
    Calls Try.prog 44 #[.agg #[.int .i64 x.kind, .int .i64 x.src, .int .i64 x.dst, .int .i64 x.bal, .int .i64 x.slot, .bool x.b.n, .int .i64 x.b.p, .int .i64 x.b.q, .slice x.a1 x.b.xs.length x.c1, .slice x.a2 x.b.ys.length x.c2, .int .i64 x.b.v, .int .i64 x.b.k, .slice x.a x.vs.length x.c]] w fun e w' => e = .returned (.bool (msgOk x)) ∧ Below w.heap.size w w' := by
  have H : Hid (AtM w x) := h
  have F : Hid (FitM x) := f
  clear h f
  have E : Hid (msgOk x = (nodeId x.src && nodeId x.dst && x.src != x.dst && formOk x.kind x.bal x.slot x.b (bodies x.vs))) := rfl
  generalize msgOk x = T at E ⊢
  obtain ⟨W, hW⟩ : ∃ W, W = w.alloc (.cells #[.int .i64 x.kind, .int .i64 x.src, .int .i64 x.dst, .int .i64 x.bal, .int .i64 x.slot, .bool x.b.n, .int .i64 x.b.p, .int .i64 x.b.q, .slice x.a1 x.b.xs.length x.c1, .slice x.a2 x.b.ys.length x.c2, .int .i64 x.b.v, .int .i64 x.b.k, .slice x.a x.vs.length x.c] 78) := ⟨_, rfl⟩
  have BW : Hid (Below w.heap.size w W) := by show Below _ _ _; rw [hW]; exact (Below.refl _ _).alloc (Nat.le_refl _) _
  have G0 : Hid (Blk W w.heap.size #[.int .i64 x.kind, .int .i64 x.src, .int .i64 x.dst, .int .i64 x.bal, .int .i64 x.slot, .bool x.b.n, .int .i64 x.b.p, .int .i64 x.b.q, .slice x.a1 x.b.xs.length x.c1, .slice x.a2 x.b.ys.length x.c2, .int .i64 x.b.v, .int .i64 x.b.k, .slice x.a x.vs.length x.c] 78) := by show Blk _ _ _ _; rw [hW]; exact Blk.new _ _ _
  have HW : Hid (W = _) := hW
  clear hW
  have Q1 : Hid (∀ d os, Calls Try.prog 57 #[.int .i64 x.src] (grow (redrawn W d) os) fun e w'' => e = .returned (.bool (nodeId x.src)) ∧ ∃ p : Regrown, w'' = grow (redrawn W p.d) p.os) := fun d os => Calls.regrown_of (implIsNode x.src _)
  have Q2 : Hid (∀ d os, Calls Try.prog 57 #[.int .i64 x.dst] (grow (redrawn W d) os) fun e w'' => e = .returned (.bool (nodeId x.dst)) ∧ ∃ p : Regrown, w'' = grow (redrawn W p.d) p.os) := fun d os => Calls.regrown_of (implIsNode x.dst _)
  have Q3 : Hid (∀ d os, Calls Try.prog 98 #[.int .i64 x.kind] (grow (redrawn W d) os) fun e w'' => e = .returned (.agg #[.string (wordOf x.kind), .int .i64 (balOf x.kind).1, .int .i64 (balOf x.kind).2, .int .i64 (slotOf x.kind).1, .int .i64 (slotOf x.kind).2, entFn x.kind, .bool (votesOf x.kind)]) ∧ ∃ p : Regrown, w'' = grow (redrawn W p.d) p.os) := fun d os => Calls.regrown_of (implForm x.kind _)
  have Q4 : Hid (∀ d os, Calls Try.prog 99 #[.agg #[.string (wordOf x.kind), .int .i64 (balOf x.kind).1, .int .i64 (balOf x.kind).2, .int .i64 (slotOf x.kind).1, .int .i64 (slotOf x.kind).2, entFn x.kind, .bool (votesOf x.kind)], .agg #[.int .i64 x.kind, .int .i64 x.src, .int .i64 x.dst, .int .i64 x.bal, .int .i64 x.slot, .bool x.b.n, .int .i64 x.b.p, .int .i64 x.b.q, .slice x.a1 x.b.xs.length x.c1, .slice x.a2 x.b.ys.length x.c2, .int .i64 x.b.v, .int .i64 x.b.k, .slice x.a x.vs.length x.c]] (grow (redrawn W d) os) fun e w'' => e = .returned (.bool (formOk x.kind x.bal x.slot x.b (bodies x.vs))) ∧ ∃ p : Regrown, w'' = grow (redrawn W p.d) p.os) := fun d os => Calls.regrown_of (implHolds x.kind x _ ((H.out.below BW.out).below (below_regrown W d os)) F.out)
  obtain ⟨d0, d1, d2, d3, d4, d5, d6, d7, d8, d9, d10, d11, d12⟩ := G0.out.cells13
  have m0 := cell_regrown d0
  have m1 := cell_regrown d1
  have m2 := cell_regrown d2
  have m3 := cell_regrown d3
  have m4 := cell_regrown d4
  have m5 := cell_regrown d5
  have m6 := cell_regrown d6
  have m7 := cell_regrown d7
  have m8 := cell_regrown d8
  have m9 := cell_regrown d9
  have m10 := cell_regrown d10
  have m11 := cell_regrown d11
  have m12 := cell_regrown d12
  clear d0 d1 d2 d3 d4 d5 d6 d7 d8 d9 d10 d11 d12
  generalize formOk x.kind x.bal x.slot x.b (bodies x.vs) = fo at E Q4
  generalize nodeId x.src = n1 at E Q1
  generalize nodeId x.dst = n2 at E Q2
  cases n1 with
  | false =>
    have X : Hid (T = false) := by show _ = _; rw [E.out]; rfl
    clear E
    go_enter Try.func44, Try.ntmps44
    go_upto_region 1 with fail
    rw [← HW.out]
    refine wp_region_quiet_below (by kernel_rfl) (by kernel_rfl) ?_
    repeat (go_big_quiet_step (first | (go_at_call_of 57 (Value.int IntKind.i64 x.src); exact Q1.out _ _) | (go_at_call_of 57 (Value.int IntKind.i64 x.dst); exact Q2.out _ _) | (go_at_call 98; exact Q3.out _ _) | (go_at_call 99; exact Q4.out _ _)))
    refine wpQuiet_nil ?_
    intro Y hw'
    obtain ⟨⟨dq, osq⟩, hw''⟩ := hw'
    have hx : Below W.heap.size W Y := by rw [hw'']; exact below_regrown W dq osq
    have KY : Hid (Below w.heap.size w Y) := BW.out.trans (hx.mono BW.out.size)
    clear hx hw'' m0 m1 m2 m3 m4 m5 m6 m7 m8 m9 m10 m11 m12
    go_wp2_with fail
    go_ret
    exact ⟨ret_bool X.out.symm, KY.out⟩
  | true =>
    cases n2 with
    | false =>
      have X : Hid (T = false) := by show _ = _; rw [E.out]; rfl
      clear E
      go_enter Try.func44, Try.ntmps44
      go_upto_region 1 with fail
      rw [← HW.out]
      refine wp_region_quiet_below (by kernel_rfl) (by kernel_rfl) ?_
      repeat (go_big_quiet_step (first | (go_at_call_of 57 (Value.int IntKind.i64 x.src); exact Q1.out _ _) | (go_at_call_of 57 (Value.int IntKind.i64 x.dst); exact Q2.out _ _) | (go_at_call 98; exact Q3.out _ _) | (go_at_call 99; exact Q4.out _ _)))
      refine wpQuiet_nil ?_
      intro Y hw'
      obtain ⟨⟨dq, osq⟩, hw''⟩ := hw'
      have hx : Below W.heap.size W Y := by rw [hw'']; exact below_regrown W dq osq
      have KY : Hid (Below w.heap.size w Y) := BW.out.trans (hx.mono BW.out.size)
      clear hx hw'' m0 m1 m2 m3 m4 m5 m6 m7 m8 m9 m10 m11 m12
      go_wp2_with fail
      go_ret
      exact ⟨ret_bool X.out.symm, KY.out⟩
    | true =>
      cases hne : (x.src != x.dst) with
      | false =>
        have X : Hid (T = false) := by show _ = _; rw [E.out, hne]; rfl
        clear E
        go_enter Try.func44, Try.ntmps44
        go_upto_region 1 with fail
        rw [← HW.out]
        refine wp_region_quiet_below (by kernel_rfl) (by kernel_rfl) ?_
        repeat (go_big_quiet_step (first | (go_at_call_of 57 (Value.int IntKind.i64 x.src); exact Q1.out _ _) | (go_at_call_of 57 (Value.int IntKind.i64 x.dst); exact Q2.out _ _) | (go_at_call 98; exact Q3.out _ _) | (go_at_call 99; exact Q4.out _ _)))
        refine wpQuiet_nil ?_
        intro Y hw'
        obtain ⟨⟨dq, osq⟩, hw''⟩ := hw'
        have hx : Below W.heap.size W Y := by rw [hw'']; exact below_regrown W dq osq
        have KY : Hid (Below w.heap.size w Y) := BW.out.trans (hx.mono BW.out.size)
        clear hx hw'' m0 m1 m2 m3 m4 m5 m6 m7 m8 m9 m10 m11 m12
        go_wp2_with fail
        go_ret
        exact ⟨ret_bool X.out.symm, KY.out⟩
      | true =>
        have X : Hid (T = fo) := by show _ = _; rw [E.out, hne]; rfl
        clear E
        go_enter Try.func44, Try.ntmps44
        go_upto_region 1 with fail
        rw [← HW.out]
        refine wp_region_quiet_below (by kernel_rfl) (by kernel_rfl) ?_
        repeat (go_big_quiet_step (first | (go_at_call_of 57 (Value.int IntKind.i64 x.src); exact Q1.out _ _) | (go_at_call_of 57 (Value.int IntKind.i64 x.dst); exact Q2.out _ _) | (go_at_call 98; exact Q3.out _ _) | (go_at_call 99; exact Q4.out _ _)))
        refine wpQuiet_nil ?_
        intro Y hw'
        obtain ⟨⟨dq, osq⟩, hw''⟩ := hw'
        have hx : Below W.heap.size W Y := by rw [hw'']; exact below_regrown W dq osq
        have KY : Hid (Below w.heap.size w Y) := BW.out.trans (hx.mono BW.out.size)
        clear hx hw'' m0 m1 m2 m3 m4 m5 m6 m7 m8 m9 m10 m11 m12
        go_wp2_with fail
        go_ret
        exact ⟨ret_bool X.out.symm, KY.out⟩
end Go.Proofs.Ytbbbfnfpmaogoaa.Own

namespace Go.Proofs.Ytbbbfnfpmaogoaa.Own

def FitsQ (p : Q4) : Prop := Fits p.1 ∧ Fits p.2.1 ∧ Fits p.2.2.1 ∧ Fits p.2.2.2
def Wf4 (xs : List Q4) : Prop := ∀ k, k < xs.length → FitsQ (xs.getD k q0)

end Go.Proofs.Ytbbbfnfpmaogoaa.Own

namespace Go.Proofs.Ytbbbfnfpmaogoaa.Own
open Go.ChangeShapes Go.WideShapes Go.ChangeAt Go.RowKit

theorem add_eq4 (b off j : Nat) : (⟨b, off, none⟩ : Addr).add j = ⟨b, off + j, none⟩ := by unfold Addr.add; split <;> simp_all

theorem fits_of4 {z : Int} (h : (Lit.int .i64 z).wf = true) : Fits z := by
  simp [Lit.wf, IntKind.min, IntKind.max, IntKind.signed, IntKind.bits] at h
  exact ⟨by omega, by omega⟩

theorem int_cell {H : Type} {enc : TypeId × Value → H} {W : World} {n : Nat} {v : Value} {y : DataW H × List MemPlace} (t : DataW.trod enc Try.prog W 0 (fun _ => true) true n 3 [v] = some y) : ∃ z, v = .int .i64 z ∧ Fits z := by
  obtain ⟨z, e, _, f⟩ := DataW.trod_int Try.underlying3 t
  simp at e
  exact ⟨z, e, fits_of4 f⟩

theorem cellsInt : Try.prog.cellsOf 3 = 1 := by kernel_rfl
end Go.Proofs.Ytbbbfnfpmaogoaa.Own

namespace Go.Proofs.Ytbbbfnfpmaogoaa.Own
open Go.ChangeShapes Go.WideShapes Go.ChangeAt Go.RowKit


theorem openReads {H : Type} {enc : TypeId × Value → H} {W : World} {fuel : Nat} {a : Option Addr} {len cap : Nat} {x : DataW H × List MemPlace}
    (hf : DataW.trod enc Try.prog W 0 (fun _ => true) true fuel 55 [.slice a len cap] = some x) : ∃ xs : List (Int × Int), xs.length = len ∧ Sl W a xs ∧ xs.length ≤ maxLen := by
  rcases Deep.open_slice_pairs Try.underlying55 Try.underlying173 (by kernel_rfl) rfl rfl (by kernel_rfl) (by kernel_rfl) hf with ⟨hcs, _⟩ | ⟨ad, l, c, m, n, V0, V1, D0, D1, P0, P1, hcs, _, hl, hm, hmm, _, hx⟩
  · simp at hcs
    obtain ⟨rfl, rfl, rfl⟩ := hcs
    exact ⟨[], rfl, .inl rfl, by simp⟩
  · simp at hcs
    obtain ⟨rfl, rfl, rfl⟩ := hcs
    have hmm' : m = cap := by simpa using hmm
    subst hmm'
    have ex : ∀ i, i < m → ∃ p : Int × Int, W.cell? (ad.add (i * 2)) = some (.int .i64 p.1) ∧ W.cell? (ad.add (i * 2 + 1)) = some (.int .i64 p.2) := by
      intro i hi
      obtain ⟨c0, c1, t0, t1⟩ := hx i hi
      obtain ⟨z0, e0, _, _⟩ := DataW.trod_int Try.underlying3 t0
      obtain ⟨z1, e1, _, _⟩ := DataW.trod_int Try.underlying3 t1
      simp at e0 e1
      exact ⟨(z0, z1), by rw [c0, e0], by rw [c1, e1]⟩
    obtain ⟨f, hf2⟩ := Deep.choose_lt ex
    refine ⟨(List.range len).map f, by simp, ?_, by simp; omega⟩
    by_cases h0 : len = 0
    · left; simp [h0]
    right
    obtain ⟨b, off, spot⟩ := ad
    have c0 := (hf2 0 (by omega)).1
    have hspot : spot = none := by simpa [Addr.add] using World.cell?_spot c0
    subst hspot
    refine ⟨b, off, rfl, ?_, ?_⟩
    · have : W.cell? ⟨b, off, none⟩ = some (.int .i64 (f 0).1) := by simpa [Addr.add] using c0
      simp only [World.cell?] at this
      cases hq : W.heap[b]? with
      | none => simp [hq] at this
      | some o => exact (Array.getElem?_eq_some_iff.1 hq).1
    · intro i hi
      have hi' : i < len := by simpa using hi
      have := hf2 i (by omega)
      rw [add_eq4, add_eq4] at this
      have e : ((List.range len).map f).getD i (0, 0) = f i := by simp [List.getD, hi']
      rw [e]
      exact this

end Go.Proofs.Ytbbbfnfpmaogoaa.Own

namespace Go.Proofs.Ytbbbfnfpmaogoaa.Own
open Go.ChangeShapes Go.WideShapes Go.ChangeAt Go.RowKit


theorem openPuts {H : Type} {enc : TypeId × Value → H} {W : World} {fuel : Nat} {a : Option Addr} {len cap : Nat} {x : DataW H × List MemPlace}
    (hf : DataW.trod enc Try.prog W 0 (fun _ => true) true fuel 56 [.slice a len cap] = some x) : ∃ xs : List (Int × Int), xs.length = len ∧ Sl W a xs ∧ xs.length ≤ maxLen := by
  rcases Deep.open_slice_pairs Try.underlying56 Try.underlying175 (by kernel_rfl) rfl rfl (by kernel_rfl) (by kernel_rfl) hf with ⟨hcs, _⟩ | ⟨ad, l, c, m, n, V0, V1, D0, D1, P0, P1, hcs, _, hl, hm, hmm, _, hx⟩
  · simp at hcs
    obtain ⟨rfl, rfl, rfl⟩ := hcs
    exact ⟨[], rfl, .inl rfl, by simp⟩
  · simp at hcs
    obtain ⟨rfl, rfl, rfl⟩ := hcs
    have hmm' : m = cap := by simpa using hmm
    subst hmm'
    have ex : ∀ i, i < m → ∃ p : Int × Int, W.cell? (ad.add (i * 2)) = some (.int .i64 p.1) ∧ W.cell? (ad.add (i * 2 + 1)) = some (.int .i64 p.2) := by
      intro i hi
      obtain ⟨c0, c1, t0, t1⟩ := hx i hi
      obtain ⟨z0, e0, _, _⟩ := DataW.trod_int Try.underlying3 t0
      obtain ⟨z1, e1, _, _⟩ := DataW.trod_int Try.underlying3 t1
      simp at e0 e1
      exact ⟨(z0, z1), by rw [c0, e0], by rw [c1, e1]⟩
    obtain ⟨f, hf2⟩ := Deep.choose_lt ex
    refine ⟨(List.range len).map f, by simp, ?_, by simp; omega⟩
    by_cases h0 : len = 0
    · left; simp [h0]
    right
    obtain ⟨b, off, spot⟩ := ad
    have c0 := (hf2 0 (by omega)).1
    have hspot : spot = none := by simpa [Addr.add] using World.cell?_spot c0
    subst hspot
    refine ⟨b, off, rfl, ?_, ?_⟩
    · have : W.cell? ⟨b, off, none⟩ = some (.int .i64 (f 0).1) := by simpa [Addr.add] using c0
      simp only [World.cell?] at this
      cases hq : W.heap[b]? with
      | none => simp [hq] at this
      | some o => exact (Array.getElem?_eq_some_iff.1 hq).1
    · intro i hi
      have hi' : i < len := by simpa using hi
      have := hf2 i (by omega)
      rw [add_eq4, add_eq4] at this
      have e : ((List.range len).map f).getD i (0, 0) = f i := by simp [List.getD, hi']
      rw [e]
      exact this

end Go.Proofs.Ytbbbfnfpmaogoaa.Own

namespace Go.Proofs.Ytbbbfnfpmaogoaa.Own
open Go.ChangeShapes Go.WideShapes Go.ChangeAt Go.RowKit
set_option linter.unusedVariables false

theorem cellsRun : Try.prog.cellsOf 58 = 4 := by kernel_rfl
theorem cellsReads : Try.prog.cellsOf 55 = 1 := by kernel_rfl
theorem cellsPuts : Try.prog.cellsOf 56 = 1 := by kernel_rfl

theorem slice_cell {H : Type} {enc : TypeId × Value → H} {W : World} {n : Nat} {t e : TypeId} (ht : Try.prog.underlying t = some (.slice e)) {v : Value} {y : DataW H × List MemPlace} (h : DataW.trod enc Try.prog W 0 (fun _ => true) true n t [v] = some y) : ∃ a l c, v = .slice a l c ∧ l ≤ c ∧ c ≤ maxLen := by
  rcases Deep.open_slice ht h with ⟨hcs, _⟩ | ⟨ad, l, c, m, n, D, Pl, hcs, _, hl, hm, hmm, _, hx⟩
  · simp at hcs
    exact ⟨none, 0, 0, hcs, Nat.le_refl _, by unfold maxLen; omega⟩
  · simp at hcs
    exact ⟨_, _, _, hcs, hl, hm⟩

set_option maxRecDepth 100000 in
theorem openRun {H : Type} {enc : TypeId × Value → H} {W : World} {fuel : Nat} {cs : Array Value} {x : DataW H × List MemPlace}
    (hf : DataW.trod enc Try.prog W 0 (fun _ => true) true fuel 58 cs.toList = some x) :
    ∃ (a1 a2 : Option Addr) (c1 c2 : Nat) (xs ys : List (Int × Int)) (v k : Int), cs = #[.slice a1 xs.length c1, .slice a2 ys.length c2, .int .i64 v, .int .i64 k] ∧ Sl W a1 xs ∧ Sl W a2 ys ∧ xs.length ≤ c1 ∧ ys.length ≤ c2 ∧ c1 ≤ maxLen ∧ c2 ≤ maxLen ∧ Fits v ∧ Fits k := by
  obtain ⟨l⟩ := cs
  obtain ⟨xs, n, hk, hxy, hl, hxl, hfd⟩ := DataW.trod_struct Try.underlying58 hf
  rw [cellsRun] at hl
  match xs, hxl, l, hl with
  | [y0, y1, y2, y3], _, [v0, v1, v2, v3], _ =>
    have g0 := hfd 0 _ rfl
    have g1 := hfd 1 _ rfl
    have g2 := hfd 2 _ rfl
    have g3 := hfd 3 _ rfl
    simp [cellsInt, cellsReads, cellsPuts] at g0 g1 g2 g3
    obtain ⟨z2, rfl, f2⟩ := int_cell g2
    obtain ⟨z3, rfl, f3⟩ := int_cell g3
    obtain ⟨a1, l1, c1, rfl, hl1, hm1⟩ := slice_cell Try.underlying55 g0
    obtain ⟨a2, l2, c2, rfl, hl2, hm2⟩ := slice_cell Try.underlying56 g1
    obtain ⟨xs, rfl, s1, _⟩ := openReads g0
    obtain ⟨ys, rfl, s2, _⟩ := openPuts g1
    exact ⟨a1, a2, c1, c2, xs, ys, z2, z3, rfl, s1, s2, hl1, hl2, hm1, hm2, f2, f3⟩
end Go.Proofs.Ytbbbfnfpmaogoaa.Own

namespace Go.Proofs.Ytbbbfnfpmaogoaa.Own
open Go.ChangeShapes Go.WideShapes Go.ChangeAt Go.RowKit
set_option linter.unusedVariables false

theorem cellsEntry : Try.prog.cellsOf 60 = 7 := by kernel_rfl
theorem cellsReq : Try.prog.cellsOf 54 = 2 := by kernel_rfl
theorem cellsBool : Try.prog.cellsOf 4 = 1 := by kernel_rfl
theorem bool_cell {H : Type} {enc : TypeId × Value → H} {W : World} {n : Nat} {v : Value} {y : DataW H × List MemPlace} (t : DataW.trod enc Try.prog W 0 (fun _ => true) true n 4 [v] = some y) : ∃ z, v = .bool z := by
  obtain ⟨z, e, _⟩ := DataW.trod_bool Try.underlying4 t
  simp at e
  exact ⟨z, e⟩
theorem req_cells {H : Type} {enc : TypeId × Value → H} {W : World} {n : Nat} {v u : Value} {y : DataW H × List MemPlace} (t : DataW.trod enc Try.prog W 0 (fun _ => true) true n 54 [v, u] = some y) : ∃ z z', v = .int .i64 z ∧ u = .int .i64 z' ∧ Fits z ∧ Fits z' := by
  obtain ⟨xs, n, hk, hxy, hl, hxl, hfd⟩ := DataW.trod_struct Try.underlying54 t
  match xs, hxl with
  | [y0, y1], _ =>
    have g0 := hfd 0 _ rfl
    have g1 := hfd 1 _ rfl
    simp [cellsInt] at g0 g1
    obtain ⟨z0, rfl, f0⟩ := int_cell g0
    obtain ⟨z1, rfl, f1⟩ := int_cell g1
    exact ⟨z0, z1, rfl, rfl, f0, f1⟩

set_option maxRecDepth 100000 in
theorem openEntry {H : Type} {enc : TypeId × Value → H} {W : World} {fuel : Nat} {cs : Array Value} {x : DataW H × List MemPlace}
    (hf : DataW.trod enc Try.prog W 0 (fun _ => true) true fuel 60 cs.toList = some x) :
    ∃ (n : Bool) (p q : Int) (a1 a2 : Option Addr) (c1 c2 : Nat) (xs ys : List (Int × Int)) (v k : Int), cs = #[.bool n, .int .i64 p, .int .i64 q, .slice a1 xs.length c1, .slice a2 ys.length c2, .int .i64 v, .int .i64 k] ∧ Sl W a1 xs ∧ Sl W a2 ys ∧ xs.length ≤ c1 ∧ ys.length ≤ c2 ∧ c1 ≤ maxLen ∧ c2 ≤ maxLen ∧ Fits p ∧ Fits q ∧ Fits v ∧ Fits k := by
  obtain ⟨l⟩ := cs
  obtain ⟨xs, n, hk, hxy, hl, hxl, hfd⟩ := DataW.trod_struct Try.underlying60 hf
  rw [cellsEntry] at hl
  match xs, hxl, l, hl with
  | [y0, y1, y2], _, [v0, v1, v2, v3, v4, v5, v6], _ =>
    have g0 := hfd 0 _ rfl
    have g1 := hfd 1 _ rfl
    have g2 := hfd 2 _ rfl
    simp [cellsBool, cellsReq, cellsRun] at g0 g1 g2
    obtain ⟨b, rfl⟩ := bool_cell g0
    obtain ⟨p, q, rfl, rfl, fp, fq⟩ := req_cells g1
    obtain ⟨a1, a2, c1, c2, xs, ys, v, k, hcs, s1, s2, l1, l2, m1, m2, fv, fk⟩ := openRun (cs := #[v3, v4, v5, v6]) g2
    simp at hcs
    obtain ⟨rfl, rfl, rfl, rfl⟩ := hcs
    exact ⟨b, p, q, a1, a2, c1, c2, xs, ys, v, k, rfl, s1, s2, l1, l2, m1, m2, fp, fq, fv, fk⟩
end Go.Proofs.Ytbbbfnfpmaogoaa.Own

namespace Go.Proofs.Ytbbbfnfpmaogoaa.Own
open Go.ChangeShapes Go.WideShapes Go.ChangeAt Go.RowKit
set_option linter.unusedVariables false

theorem cellsVote : Try.prog.cellsOf 122 = 8 := by kernel_rfl
theorem cellsVotes : Try.prog.cellsOf 42 = 1 := by kernel_rfl

set_option maxRecDepth 100000 in
theorem openVotes {H : Type} {enc : TypeId × Value → H} {W : World} {fuel : Nat} {a : Option Addr} {len cap : Nat} {x : DataW H × List MemPlace}
    (hf : DataW.trod enc Try.prog W 0 (fun _ => true) true fuel 42 [.slice a len cap] = some x) : ∃ vs : List VM, vs.length = len ∧ SlV W a vs ∧ vs.length ≤ maxLen ∧ ∀ i, i < vs.length → (vs.getD i v0).b.xs.length ≤ maxLen ∧ (vs.getD i v0).b.ys.length ≤ maxLen := by
  rcases Deep.open_slice Try.underlying42 hf with ⟨hcs, _⟩ | ⟨ad, l, c, m, n, D, Pl, hcs, _, hl, hm, hmm, _, hx⟩
  · simp at hcs
    obtain ⟨rfl, rfl, rfl⟩ := hcs
    exact ⟨[], rfl, .inl rfl, by simp, fun k hk => by simp at hk⟩
  · simp at hcs
    obtain ⟨rfl, rfl, rfl⟩ := hcs
    have hmm' : m = cap := by simpa using hmm
    subst hmm'
    have ex : ∀ i, i < m → ∃ p : VM, ((W.cell? (ad.add (i * 8)) = some (.int .i64 p.bal) ∧ W.cell? (ad.add (i * 8 + 1)) = some (.bool p.b.n) ∧ W.cell? (ad.add (i * 8 + 2)) = some (.int .i64 p.b.p) ∧ W.cell? (ad.add (i * 8 + 3)) = some (.int .i64 p.b.q) ∧ W.cell? (ad.add (i * 8 + 4)) = some (.slice p.a1 p.b.xs.length p.c1) ∧ W.cell? (ad.add (i * 8 + 5)) = some (.slice p.a2 p.b.ys.length p.c2) ∧ W.cell? (ad.add (i * 8 + 6)) = some (.int .i64 p.b.v) ∧ W.cell? (ad.add (i * 8 + 7)) = some (.int .i64 p.b.k)) ∧ Sl W p.a1 p.b.xs ∧ Sl W p.a2 p.b.ys) ∧ p.b.xs.length ≤ maxLen ∧ p.b.ys.length ≤ maxLen := by
      intro i hi
      obtain ⟨cs', h1, h2⟩ := hx i hi
      rw [cellsVote] at h1
      obtain ⟨_, hlen, hcell⟩ := World.cells?_some h1
      obtain ⟨xs, k, hk, hxy, _, hxl, hfd⟩ := DataW.trod_struct Try.underlying122 h2
      match xs, hxl, cs', hlen with
      | [y0, y1], _, [u0, u1, u2, u3, u4, u5, u6, u7], _ =>
        have g0 := hfd 0 _ rfl
        have g1 := hfd 1 _ rfl
        simp [cellsInt, cellsEntry] at g0 g1
        obtain ⟨z0, rfl, f0⟩ := int_cell g0
        obtain ⟨en, ep, eq, a1, a2, c1, c2, xs, ys, v, kk, hcs, s1, s2, l1, l2, m1, m2, _⟩ := openEntry (cs := #[u1, u2, u3, u4, u5, u6, u7]) g1
        simp at hcs
        obtain ⟨rfl, rfl, rfl, rfl, rfl, rfl, rfl⟩ := hcs
        have e0 := hcell 0 (by omega)
        have e1 := hcell 1 (by omega)
        have e2 := hcell 2 (by omega)
        have e3 := hcell 3 (by omega)
        have e4 := hcell 4 (by omega)
        have e5 := hcell 5 (by omega)
        have e6 := hcell 6 (by omega)
        have e7 := hcell 7 (by omega)
        rw [Deep.add_add] at e0 e1 e2 e3 e4 e5 e6 e7
        exact ⟨⟨z0, ⟨en, ep, eq, xs, ys, v, kk⟩, a1, c1, a2, c2⟩, ⟨⟨by simpa using e0, by simpa using e1, by simpa using e2, by simpa using e3, by simpa using e4, by simpa using e5, by simpa using e6, by simpa using e7⟩, s1, s2⟩, Nat.le_trans l1 m1, Nat.le_trans l2 m2⟩
    obtain ⟨f, hf2⟩ := Deep.choose_lt ex
    have ge : ∀ i, i < len → ((List.range len).map f).getD i v0 = f i := fun i hi => by simp [List.getD, hi]
    refine ⟨(List.range len).map f, by simp, ?_, by simp; omega, fun i hi => ?_⟩
    case' refine_2 =>
      have hi' : i < len := by simpa using hi
      rw [ge i hi']; exact (hf2 i (by omega)).2
    by_cases h0 : len = 0
    · left; simp [h0]
    right
    obtain ⟨b, off, spot⟩ := ad
    have c0 := (hf2 0 (by omega)).1.1.1
    have hspot : spot = none := by simpa [Addr.add] using World.cell?_spot c0
    subst hspot
    refine ⟨b, off, rfl, ?_, ?_⟩
    · have : W.cell? ⟨b, off, none⟩ = some (.int .i64 (f 0).bal) := by simpa [Addr.add] using c0
      simp only [World.cell?] at this
      cases hq : W.heap[b]? with
      | none => simp [hq] at this
      | some o => exact (Array.getElem?_eq_some_iff.1 hq).1
    · intro i hi
      have hi' : i < len := by simpa using hi
      have := (hf2 i (by omega)).1
      rw [add_eq4, add_eq4, add_eq4, add_eq4, add_eq4, add_eq4, add_eq4, add_eq4] at this
      rw [ge i hi']
      exact this

end Go.Proofs.Ytbbbfnfpmaogoaa.Own

namespace Go.Proofs.Ytbbbfnfpmaogoaa.Own
open Go.ChangeShapes Go.WideShapes Go.ChangeAt Go.RowKit
set_option linter.unusedVariables false

theorem cellsMsg : Try.prog.cellsOf 74 = 13 := by kernel_rfl

set_option maxRecDepth 100000 in
theorem openMsg {H : Type} {enc : TypeId × Value → H} {W : World} {fuel : Nat} {cs : Array Value} {x : DataW H × List MemPlace}
    (hf : DataW.trod enc Try.prog W 0 (fun _ => true) true fuel 74 cs.toList = some x) :
    ∃ m : MM, cs = #[.int .i64 m.kind, .int .i64 m.src, .int .i64 m.dst, .int .i64 m.bal, .int .i64 m.slot, .bool m.b.n, .int .i64 m.b.p, .int .i64 m.b.q, .slice m.a1 m.b.xs.length m.c1, .slice m.a2 m.b.ys.length m.c2, .int .i64 m.b.v, .int .i64 m.b.k, .slice m.a m.vs.length m.c] ∧ InM W m ∧ Fits m.kind ∧ Fits m.src ∧ Fits m.dst ∧ Fits m.bal ∧ Fits m.slot := by
  obtain ⟨l⟩ := cs
  obtain ⟨xs, n, hk, hxy, hl, hxl, hfd⟩ := DataW.trod_struct Try.underlying74 hf
  rw [cellsMsg] at hl
  match xs, hxl, l, hl with
  | [y0, y1, y2, y3, y4, y5, y6], _, [u0, u1, u2, u3, u4, u5, u6, u7, u8, u9, u10, u11, u12], _ =>
    have g0 := hfd 0 _ rfl
    have g1 := hfd 1 _ rfl
    have g2 := hfd 2 _ rfl
    have g3 := hfd 3 _ rfl
    have g4 := hfd 4 _ rfl
    have g5 := hfd 5 _ rfl
    have g6 := hfd 6 _ rfl
    simp [cellsInt, cellsEntry, cellsVotes] at g0 g1 g2 g3 g4 g5 g6
    obtain ⟨z0, rfl, f0⟩ := int_cell g0
    obtain ⟨z1, rfl, f1⟩ := int_cell g1
    obtain ⟨z2, rfl, f2⟩ := int_cell g2
    obtain ⟨z3, rfl, f3⟩ := int_cell g3
    obtain ⟨z4, rfl, f4⟩ := int_cell g4
    obtain ⟨en, ep, eq, a1, a2, c1, c2, xs, ys, v, kk, hcs, s1, s2, l1, l2, m1, m2, _⟩ := openEntry (cs := #[u5, u6, u7, u8, u9, u10, u11]) g5
    simp at hcs
    obtain ⟨rfl, rfl, rfl, rfl, rfl, rfl, rfl⟩ := hcs
    obtain ⟨a, n, c, rfl, hl1, hm1⟩ := slice_cell Try.underlying42 g6
    obtain ⟨vs, rfl, t1, t2, t3⟩ := openVotes g6
    exact ⟨⟨z0, z1, z2, z3, z4, ⟨en, ep, eq, xs, ys, v, kk⟩, a1, c1, a2, c2, a, c, vs⟩, rfl, ⟨⟨s1, s2, t1⟩, Nat.le_trans l1 m1, Nat.le_trans l2 m2, t2, t3⟩, f0, f1, f2, f3, f4⟩
end Go.Proofs.Ytbbbfnfpmaogoaa.Own
