/-
  Own texts, bundled: MsgOkI, MsgTextM.
-/
import Derived.Test.YtmcpefikmcaemaaGreatDoorPk14
import Derived.BigQuiet
import Derived.Laws.EntriesVeiled
import Derived.Lib.QuietBelow
import Derived.Deep.Cut
import Derived.Test.YtmcpefikmcaemaaGreatDoorPk6
namespace Go.Proofs.YtmcpefikmcaemaaGreatDoor.Own
open Go.RowKit Go.Sort
set_option linter.unusedVariables false
set_option linter.unusedSimpArgs false

def wordOf (kind : Int) : ByteArray := if kind = 1 then ⟨#[112, 114, 101, 112, 97, 114, 101]⟩ else if kind = 2 then ⟨#[112, 114, 111, 109, 105, 115, 101]⟩ else if kind = 3 then ⟨#[97, 99, 99, 101, 112, 116]⟩ else if kind = 4 then ⟨#[97, 99, 99, 101, 112, 116, 101, 100]⟩ else if kind = 5 then ⟨#[99, 104, 111, 115, 101, 110]⟩ else if kind = 6 then ⟨#[114, 101, 102, 117, 115, 101]⟩ else if kind = 7 then ⟨#[97, 115, 107]⟩ else if kind = 8 then ⟨#[110, 101, 101, 100]⟩ else ⟨#[]⟩
def isKind (kind : Int) : Bool := decide (1 ≤ kind) && decide (kind ≤ 8)
/-- The bounds of the ballot: two numbers. -/
def balOf (kind : Int) : Int × Int := if kind = 1 ∨ kind = 2 ∨ kind = 3 ∨ kind = 4 ∨ kind = 6 then (1, 3000) else (0, 0)
def slotOf (kind : Int) : Int × Int := if kind = 1 ∨ kind = 2 ∨ kind = 4 ∨ kind = 8 then (0, 40) else if kind = 3 ∨ kind = 5 then (0, 39) else (0, 0)
def votesOf (kind : Int) : Bool := decide (kind = 2)
def formV (kind : Int) : Value := .agg #[.string (wordOf kind), .int .i64 (balOf kind).1, .int .i64 (balOf kind).2, .int .i64 (slotOf kind).1, .int .i64 (slotOf kind).2, entFn kind, .bool (votesOf kind)]
theorem kind_cases (kind : Int) : kind = 1 ∨ kind = 2 ∨ kind = 3 ∨ kind = 4 ∨ kind = 5 ∨ kind = 6 ∨ kind = 7 ∨ kind = 8 ∨ (kind ≠ 1 ∧ kind ≠ 2 ∧ kind ≠ 3 ∧ kind ≠ 4 ∧ kind ≠ 5 ∧ kind ≠ 6 ∧ kind ≠ 7 ∧ kind ≠ 8) := by omega
theorem isKind_not {kind : Int} (h : kind ≠ 1 ∧ kind ≠ 2 ∧ kind ≠ 3 ∧ kind ≠ 4 ∧ kind ≠ 5 ∧ kind ≠ 6 ∧ kind ≠ 7 ∧ kind ≠ 8) : isKind kind = false := by
  unfold isKind
  by_cases h1 : 1 ≤ kind
  · have : ¬ kind ≤ 8 := by omega
    simp [this]
  · simp [h1]
/-- What is asked of a message, part by part. -/
theorem formOk_parts (kind bal slot : Int) (b : EB) (bs : List V) : formOk kind bal slot b bs = (isKind kind && inSpan (balOf kind).1 (balOf kind).2 bal && inSpan (slotOf kind).1 (slotOf kind).2 slot && entBy kind b && (if votesOf kind then votesOk bs && decide (slot + bs.length ≤ 40) else decide (bs.length = 0))) := by
  rcases kind_cases kind with rfl | rfl | rfl | rfl | rfl | rfl | rfl | rfl | h
  case inr.inr.inr.inr.inr.inr.inr.inr =>
    obtain ⟨g1, g2, g3, g4, g5, g6, g7, g8⟩ := h
    rw [isKind_not ⟨g1, g2, g3, g4, g5, g6, g7, g8⟩]
    simp [formOk, g1, g2, g3, g4, g5, g6, g7, g8]
  all_goals simp [formOk, isKind, balOf, slotOf, entBy, votesOf, isBal_span]
theorem word_list (kind : Int) : ((wordOf kind).toList = []) ↔ isKind kind = false := by
  rw [ByteArray.toList_eq]
  rcases kind_cases kind with rfl | rfl | rfl | rfl | rfl | rfl | rfl | rfl | h
  case inr.inr.inr.inr.inr.inr.inr.inr =>
    rw [isKind_not h]
    obtain ⟨g1, g2, g3, g4, g5, g6, g7, g8⟩ := h
    have : wordOf kind = ⟨#[]⟩ := by simp [wordOf, g1, g2, g3, g4, g5, g6, g7, g8]
    rw [this]
    simp
  all_goals simp [wordOf, isKind]

set_option maxRecDepth 100000 in
set_option maxHeartbeats 4000000 in
theorem implForm (kind : Int) (w : World) : Calls Tryz.prog 36 #[.int .i64 kind] w fun e w' => e = .returned (formV kind) ∧ Below w.heap.size w w' := by
  have B4 : ∀ o1 o2 o3 o4, Hid (Below w.heap.size w ((((w.alloc o1).alloc o2).alloc o3).alloc o4)) := fun o1 o2 o3 o4 => (((((Below.refl _ _).alloc (Nat.le_refl _) _).alloc (by simp) _).alloc (by simp; omega) _).alloc (by simp; omega) _)
  rcases kind_cases kind with rfl | rfl | rfl | rfl | rfl | rfl | rfl | rfl | h
  case inr.inr.inr.inr.inr.inr.inr.inr =>
    obtain ⟨g1, g2, g3, g4, g5, g6, g7, g8⟩ := h
    have k1 : (kind == 1) = false := by simpa using g1
    have k2 : (kind == 2) = false := by simpa using g2
    have k3 : (kind == 3) = false := by simpa using g3
    have k4 : (kind == 4) = false := by simpa using g4
    have k5 : (kind == 5) = false := by simpa using g5
    have k6 : (kind == 6) = false := by simpa using g6
    have k7 : (kind == 7) = false := by simpa using g7
    have k8 : (kind == 8) = false := by simpa using g8
    have E : Hid (formV kind = .agg #[.string ⟨#[]⟩, .int .i64 0, .int .i64 0, .int .i64 0, .int .i64 0, .nilFunc, .bool false]) := by show _ = _; simp [formV, wordOf, balOf, slotOf, entFn, votesOf, g1, g2, g3, g4, g5, g6, g7, g8]
    rw [E.out]
    clear E g1 g2 g3 g4 g5 g6 g7 g8
    go_enter Tryz.func36, Tryz.ntmps36
    go_wp2
    refine bodyPost_ret (v := .agg #[.string ⟨#[]⟩, .int .i64 0, .int .i64 0, .int .i64 0, .int .i64 0, .nilFunc, .bool false]) (by simp [results, Tryz.results36, go_sem]) rfl ⟨rfl, ?_⟩
    exact (B4 _ _ _ _).out
  · go_enter Tryz.func36, Tryz.ntmps36
    go_wp2
    refine bodyPost_ret (v := formV 1) (by simp [results, Tryz.results36, go_sem, formV, wordOf, balOf, slotOf, entFn, votesOf]) rfl ⟨rfl, (B4 _ _ _ _).out⟩
  · go_enter Tryz.func36, Tryz.ntmps36
    go_wp2
    refine bodyPost_ret (v := formV 2) (by simp [results, Tryz.results36, go_sem, formV, wordOf, balOf, slotOf, entFn, votesOf]) rfl ⟨rfl, (B4 _ _ _ _).out⟩
  · go_enter Tryz.func36, Tryz.ntmps36
    go_wp2
    refine bodyPost_ret (v := formV 3) (by simp [results, Tryz.results36, go_sem, formV, wordOf, balOf, slotOf, entFn, votesOf]) rfl ⟨rfl, (B4 _ _ _ _).out⟩
  · go_enter Tryz.func36, Tryz.ntmps36
    go_wp2
    refine bodyPost_ret (v := formV 4) (by simp [results, Tryz.results36, go_sem, formV, wordOf, balOf, slotOf, entFn, votesOf]) rfl ⟨rfl, (B4 _ _ _ _).out⟩
  · go_enter Tryz.func36, Tryz.ntmps36
    go_wp2
    refine bodyPost_ret (v := formV 5) (by simp [results, Tryz.results36, go_sem, formV, wordOf, balOf, slotOf, entFn, votesOf]) rfl ⟨rfl, (B4 _ _ _ _).out⟩
  · go_enter Tryz.func36, Tryz.ntmps36
    go_wp2
    refine bodyPost_ret (v := formV 6) (by simp [results, Tryz.results36, go_sem, formV, wordOf, balOf, slotOf, entFn, votesOf]) rfl ⟨rfl, (B4 _ _ _ _).out⟩
  · go_enter Tryz.func36, Tryz.ntmps36
    go_wp2
    refine bodyPost_ret (v := formV 7) (by simp [results, Tryz.results36, go_sem, formV, wordOf, balOf, slotOf, entFn, votesOf]) rfl ⟨rfl, (B4 _ _ _ _).out⟩
  · go_enter Tryz.func36, Tryz.ntmps36
    go_wp2
    refine bodyPost_ret (v := formV 8) (by simp [results, Tryz.results36, go_sem, formV, wordOf, balOf, slotOf, entFn, votesOf]) rfl ⟨rfl, (B4 _ _ _ _).out⟩

theorem slot_in {kind slot : Int} (h : inSpan (slotOf kind).1 (slotOf kind).2 slot = true) : 0 ≤ slot ∧ slot ≤ 40 := by
  unfold slotOf at h
  split at h
  · simpa [inSpan] using h
  · split at h
    · have : 0 ≤ slot ∧ slot ≤ 39 := by simpa [inSpan] using h
      omega
    · have : 0 ≤ slot ∧ slot ≤ 0 := by simpa [inSpan] using h
      omega

set_option maxRecDepth 100000 in
set_option maxHeartbeats 4000000 in
theorem implHolds (kd : Int) (x : MM) (w : World) (h : AtM w x) (f : FitM x) :
    Calls Tryz.prog 37 #[.agg #[.string (wordOf kd), .int .i64 (balOf kd).1, .int .i64 (balOf kd).2, .int .i64 (slotOf kd).1, .int .i64 (slotOf kd).2, entFn kd, .bool (votesOf kd)], .agg #[.int .i64 x.kind, .int .i64 x.src, .int .i64 x.dst, .int .i64 x.bal, .int .i64 x.slot, .bool x.b.n, .int .i64 x.b.p, .int .i64 x.b.q, .slice x.a1 x.b.xs.length x.c1, .slice x.a2 x.b.ys.length x.c2, .int .i64 x.b.v, .int .i64 x.b.k, .slice x.a x.vs.length x.c]] w fun e w' => e = .returned (.bool (formOk kd x.bal x.slot x.b (bodies x.vs))) ∧ Below w.heap.size w w' := by
  have H : Hid (AtM w x) := h
  have F : Hid (FitM x) := f
  clear h f
  have E : Hid (formOk kd x.bal x.slot x.b (bodies x.vs) = (isKind kd && inSpan (balOf kd).1 (balOf kd).2 x.bal && inSpan (slotOf kd).1 (slotOf kd).2 x.slot && entBy kd x.b && (if votesOf kd then votesOk (bodies x.vs) && decide (x.slot + x.vs.length ≤ 40) else decide (x.vs.length = 0)))) := by
    show _ = _
    rw [formOk_parts, bodies_len]
  generalize formOk kd x.bal x.slot x.b (bodies x.vs) = T at E ⊢
  obtain ⟨W, hW⟩ : ∃ W, W = (w.alloc (.cells #[.string (wordOf kd), .int .i64 (balOf kd).1, .int .i64 (balOf kd).2, .int .i64 (slotOf kd).1, .int .i64 (slotOf kd).2, entFn kd, .bool (votesOf kd)] 104)).alloc (.cells #[.int .i64 x.kind, .int .i64 x.src, .int .i64 x.dst, .int .i64 x.bal, .int .i64 x.slot, .bool x.b.n, .int .i64 x.b.p, .int .i64 x.b.q, .slice x.a1 x.b.xs.length x.c1, .slice x.a2 x.b.ys.length x.c2, .int .i64 x.b.v, .int .i64 x.b.k, .slice x.a x.vs.length x.c] 33) := ⟨_, rfl⟩
  have BW : Hid (Below w.heap.size w W) := by
    show Below _ _ _
    rw [hW]; exact ((Below.refl _ _).alloc (Nat.le_refl _) _).alloc (by simp) _
  have G0 : Hid (Blk W w.heap.size #[.string (wordOf kd), .int .i64 (balOf kd).1, .int .i64 (balOf kd).2, .int .i64 (slotOf kd).1, .int .i64 (slotOf kd).2, entFn kd, .bool (votesOf kd)] 104) := by show Blk _ _ _ _; rw [hW]; exact (Blk.new _ _ _).alloc _
  have G1 : Hid (Blk W (w.heap.size + 1) #[.int .i64 x.kind, .int .i64 x.src, .int .i64 x.dst, .int .i64 x.bal, .int .i64 x.slot, .bool x.b.n, .int .i64 x.b.p, .int .i64 x.b.q, .slice x.a1 x.b.xs.length x.c1, .slice x.a2 x.b.ys.length x.c2, .int .i64 x.b.v, .int .i64 x.b.k, .slice x.a x.vs.length x.c] 33) := by show Blk _ _ _ _; rw [hW]; exact Blk.new2 _ _ _ _
  have HW : Hid (W = _) := hW
  clear hW
  have CE : Hid (∀ w', Below w.heap.size w w' → Calls Tryz.prog 85 #[.agg #[.string (wordOf kd), .int .i64 (balOf kd).1, .int .i64 (balOf kd).2, .int .i64 (slotOf kd).1, .int .i64 (slotOf kd).2, entFn kd, .bool (votesOf kd)], .agg #[.bool x.b.n, .int .i64 x.b.p, .int .i64 x.b.q, .slice x.a1 x.b.xs.length x.c1, .slice x.a2 x.b.ys.length x.c2, .int .i64 x.b.v, .int .i64 x.b.k]] w' fun e w'' => e = .returned (.bool (entBy kd x.b)) ∧ Below w'.heap.size w' w'') := fun w' hb => implHoldsEntry kd _ _ _ _ _ _ x.b x.a1 x.a2 x.c1 x.c2 w' (H.out.1.below hb) (H.out.2.1.below hb) F.out.1 F.out.2.1
  have CV : Hid (0 ≤ x.slot ∧ x.slot ≤ 40 → ∀ w', Below w.heap.size w w' → Calls Tryz.prog 86 #[.agg #[.string (wordOf kd), .int .i64 (balOf kd).1, .int .i64 (balOf kd).2, .int .i64 (slotOf kd).1, .int .i64 (slotOf kd).2, entFn kd, .bool (votesOf kd)], .int .i64 x.slot, .slice x.a x.vs.length x.c] w' fun e w'' => e = .returned (.bool (if votesOf kd then votesOk (bodies x.vs) && decide (x.slot + x.vs.length ≤ 40) else decide (x.vs.length = 0))) ∧ Below w'.heap.size w' w'') := fun hs w' hb => implHoldsVotes (votesOf kd) _ _ _ _ _ _ x.slot x.a x.c x.vs w' (H.out.2.2.below hb) F.out.2.2.2.2.1 F.out.2.2.2.2.2 hs
  have SI : Hid (inSpan (slotOf kd).1 (slotOf kd).2 x.slot = true → 0 ≤ x.slot ∧ x.slot ≤ 40) := slot_in
  have hwn := word_list kd
  generalize (if votesOf kd then votesOk (bodies x.vs) && decide (x.slot + x.vs.length ≤ 40) else decide (x.vs.length = 0)) = vb at E CV
  generalize entBy kd x.b = eb at E CE
  cases hk : isKind kd with
  | false =>
    have X : Hid (T = false) := by show _ = _; rw [E.out, hk]; rfl
    rw [hk] at hwn
    simp only [iff_true, iff_false, Bool.true_eq_false, reduceCtorEq] at hwn
    clear E CE CV hk
    go_enter Tryz.func37, Tryz.ntmps37
    go_wp2_with fail
    go_ret
    exact ⟨ret_bool X.out.symm, by rw [← HW.out]; exact BW.out⟩
  | true =>
    have E1 : Hid (T = (inSpan (balOf kd).1 (balOf kd).2 x.bal && inSpan (slotOf kd).1 (slotOf kd).2 x.slot && eb && vb)) := by show _ = _; rw [E.out, hk]; simp only [Bool.true_and]
    rw [hk] at hwn
    simp only [iff_true, iff_false, Bool.true_eq_false, reduceCtorEq] at hwn
    clear E hk
    go_enter Tryz.func37, Tryz.ntmps37
    go_wp2_with fail
    rw [← HW.out]
    refine (implSpan _ _ x.bal W).mono ?_
    rintro e w1 ⟨rfl, b1⟩
    have B1 : Hid (Below w.heap.size w w1) := BW.out.trans (b1.mono BW.out.size)
    have W1 : Hid (Below W.heap.size W w1) := b1
    clear b1
    obtain ⟨q0, q1, q2, q3, q4, q5, q6⟩ := (G0.out.keep W1.out).cells7
    obtain ⟨r0, r1, r2, r3, r4, r5, r6, r7, r8, r9, r10, r11, r12⟩ := (G1.out.keep W1.out).cells13
    generalize inSpan (balOf kd).1 (balOf kd).2 x.bal = s1 at E1 ⊢
    cases s1 with
    | false =>
      have X : Hid (T = false) := by show _ = _; rw [E1.out]; rfl
      go_wp2_with fail
      go_ret
      exact ⟨ret_bool X.out.symm, B1.out⟩
    | true =>
      go_wp2_with fail
      refine (implSpan _ _ x.slot w1).mono ?_
      rintro e w2 ⟨rfl, b2⟩
      have B2 : Hid (Below w.heap.size w w2) := B1.out.trans (b2.mono B1.out.size)
      have W2 : Hid (Below W.heap.size W w2) := W1.out.trans (b2.mono W1.out.size)
      clear b2 q0 q1 q2 q3 q4 q5 q6 r0 r1 r2 r3 r4 r5 r6 r7 r8 r9 r10 r11 r12
      obtain ⟨q0, q1, q2, q3, q4, q5, q6⟩ := (G0.out.keep W2.out).cells7
      obtain ⟨r0, r1, r2, r3, r4, r5, r6, r7, r8, r9, r10, r11, r12⟩ := (G1.out.keep W2.out).cells13
      generalize inSpan (slotOf kd).1 (slotOf kd).2 x.slot = s2 at E1 SI ⊢
      cases s2 with
      | false =>
        have X : Hid (T = false) := by show _ = _; rw [E1.out]; rfl
        go_wp2_with fail
        go_ret
        exact ⟨ret_bool X.out.symm, B2.out⟩
      | true =>
        have SS : Hid (0 ≤ x.slot ∧ x.slot ≤ 40) := SI.out rfl
        clear SI
        go_wp2_with fail
        refine (CE.out w2 B2.out).mono ?_
        rintro e w3 ⟨rfl, b3⟩
        have B3 : Hid (Below w.heap.size w w3) := B2.out.trans (b3.mono B2.out.size)
        have W3 : Hid (Below W.heap.size W w3) := W2.out.trans (b3.mono W2.out.size)
        clear b3 q0 q1 q2 q3 q4 q5 q6 r0 r1 r2 r3 r4 r5 r6 r7 r8 r9 r10 r11 r12
        obtain ⟨q0, q1, q2, q3, q4, q5, q6⟩ := (G0.out.keep W3.out).cells7
        obtain ⟨r0, r1, r2, r3, r4, r5, r6, r7, r8, r9, r10, r11, r12⟩ := (G1.out.keep W3.out).cells13
        cases eb with
        | false =>
          have X : Hid (T = false) := by show _ = _; rw [E1.out]; rfl
          go_wp2_with fail
          go_ret
          exact ⟨ret_bool X.out.symm, B3.out⟩
        | true =>
          have X : Hid (T = vb) := by show _ = _; rw [E1.out]; rfl
          have ie : Hid ((wordOf kd).toList.isEmpty = false) := by show _ = _; simpa using hwn
          go_wp2_with fail
          refine (CV.out SS.out w3 B3.out).mono ?_
          rintro e w4 ⟨rfl, b4⟩
          have B4 : Hid (Below w.heap.size w w4) := B3.out.trans (b4.mono B3.out.size)
          clear b4 q0 q1 q2 q3 q4 q5 q6 r0 r1 r2 r3 r4 r5 r6 r7 r8 r9 r10 r11 r12
          go_wp2_with fail
          go_ret
          exact ⟨ret_bool (by rw [X.out, ie.out]; rfl), B4.out⟩

set_option maxRecDepth 100000 in
set_option maxHeartbeats 4000000 in
theorem implMsgOk (x : MM) (w : World) (h : AtM w x) (f : FitM x) :
    Calls Tryz.prog 12 #[.agg #[.int .i64 x.kind, .int .i64 x.src, .int .i64 x.dst, .int .i64 x.bal, .int .i64 x.slot, .bool x.b.n, .int .i64 x.b.p, .int .i64 x.b.q, .slice x.a1 x.b.xs.length x.c1, .slice x.a2 x.b.ys.length x.c2, .int .i64 x.b.v, .int .i64 x.b.k, .slice x.a x.vs.length x.c]] w fun e w' => e = .returned (.bool (msgOk x)) ∧ Below w.heap.size w w' := by
  have H : Hid (AtM w x) := h
  have F : Hid (FitM x) := f
  clear h f
  have E : Hid (msgOk x = (nodeId x.src && nodeId x.dst && x.src != x.dst && formOk x.kind x.bal x.slot x.b (bodies x.vs))) := rfl
  generalize msgOk x = T at E ⊢
  obtain ⟨W, hW⟩ : ∃ W, W = w.alloc (.cells #[.int .i64 x.kind, .int .i64 x.src, .int .i64 x.dst, .int .i64 x.bal, .int .i64 x.slot, .bool x.b.n, .int .i64 x.b.p, .int .i64 x.b.q, .slice x.a1 x.b.xs.length x.c1, .slice x.a2 x.b.ys.length x.c2, .int .i64 x.b.v, .int .i64 x.b.k, .slice x.a x.vs.length x.c] 33) := ⟨_, rfl⟩
  have BW : Hid (Below w.heap.size w W) := by show Below _ _ _; rw [hW]; exact (Below.refl _ _).alloc (Nat.le_refl _) _
  have G0 : Hid (Blk W w.heap.size #[.int .i64 x.kind, .int .i64 x.src, .int .i64 x.dst, .int .i64 x.bal, .int .i64 x.slot, .bool x.b.n, .int .i64 x.b.p, .int .i64 x.b.q, .slice x.a1 x.b.xs.length x.c1, .slice x.a2 x.b.ys.length x.c2, .int .i64 x.b.v, .int .i64 x.b.k, .slice x.a x.vs.length x.c] 33) := by show Blk _ _ _ _; rw [hW]; exact Blk.new _ _ _
  have HW : Hid (W = _) := hW
  clear hW
  have Q1 : Hid (∀ d os, Calls Tryz.prog 35 #[.int .i64 x.src] (grow (redrawn W d) os) fun e w'' => e = .returned (.bool (nodeId x.src)) ∧ ∃ p : Regrown, w'' = grow (redrawn W p.d) p.os) := fun d os => Calls.regrown_of (implIsNode x.src _)
  have Q2 : Hid (∀ d os, Calls Tryz.prog 35 #[.int .i64 x.dst] (grow (redrawn W d) os) fun e w'' => e = .returned (.bool (nodeId x.dst)) ∧ ∃ p : Regrown, w'' = grow (redrawn W p.d) p.os) := fun d os => Calls.regrown_of (implIsNode x.dst _)
  have Q3 : Hid (∀ d os, Calls Tryz.prog 36 #[.int .i64 x.kind] (grow (redrawn W d) os) fun e w'' => e = .returned (.agg #[.string (wordOf x.kind), .int .i64 (balOf x.kind).1, .int .i64 (balOf x.kind).2, .int .i64 (slotOf x.kind).1, .int .i64 (slotOf x.kind).2, entFn x.kind, .bool (votesOf x.kind)]) ∧ ∃ p : Regrown, w'' = grow (redrawn W p.d) p.os) := fun d os => Calls.regrown_of (implForm x.kind _)
  have Q4 : Hid (∀ d os, Calls Tryz.prog 37 #[.agg #[.string (wordOf x.kind), .int .i64 (balOf x.kind).1, .int .i64 (balOf x.kind).2, .int .i64 (slotOf x.kind).1, .int .i64 (slotOf x.kind).2, entFn x.kind, .bool (votesOf x.kind)], .agg #[.int .i64 x.kind, .int .i64 x.src, .int .i64 x.dst, .int .i64 x.bal, .int .i64 x.slot, .bool x.b.n, .int .i64 x.b.p, .int .i64 x.b.q, .slice x.a1 x.b.xs.length x.c1, .slice x.a2 x.b.ys.length x.c2, .int .i64 x.b.v, .int .i64 x.b.k, .slice x.a x.vs.length x.c]] (grow (redrawn W d) os) fun e w'' => e = .returned (.bool (formOk x.kind x.bal x.slot x.b (bodies x.vs))) ∧ ∃ p : Regrown, w'' = grow (redrawn W p.d) p.os) := fun d os => Calls.regrown_of (implHolds x.kind x _ ((H.out.below BW.out).below (below_regrown W d os)) F.out)
  obtain ⟨d0, d1, d2, d3, d4, d5, d6, d7, d8, d9, d10, d11, d12⟩ := G0.out.cells13
  have m0 := cell_regrown d0
  have m1 := cell_regrown d1
  have m2 := cell_regrown d2
  have m3 := cell_regrown d3
  have m4 := cell_regrown d4
  have m5 := cell_regrown d5
  have m6 := cell_regrown d6
  have m7 := cell_regrown d7
  have m8 := cell_regrown d8
  have m9 := cell_regrown d9
  have m10 := cell_regrown d10
  have m11 := cell_regrown d11
  have m12 := cell_regrown d12
  clear d0 d1 d2 d3 d4 d5 d6 d7 d8 d9 d10 d11 d12
  generalize formOk x.kind x.bal x.slot x.b (bodies x.vs) = fo at E Q4
  generalize nodeId x.src = n1 at E Q1
  generalize nodeId x.dst = n2 at E Q2
  cases n1 with
  | false =>
    have X : Hid (T = false) := by show _ = _; rw [E.out]; rfl
    clear E
    go_enter Tryz.func12, Tryz.ntmps12
    go_upto_region 1 with fail
    rw [← HW.out]
    refine wp_region_quiet_below (by kernel_rfl) (by kernel_rfl) ?_
    repeat (go_big_quiet_step (first | (go_at_call_of 35 (Value.int IntKind.i64 x.src); exact Q1.out _ _) | (go_at_call_of 35 (Value.int IntKind.i64 x.dst); exact Q2.out _ _) | (go_at_call 36; exact Q3.out _ _) | (go_at_call 37; exact Q4.out _ _)))
    refine wpQuiet_nil ?_
    intro Y hw'
    obtain ⟨⟨dq, osq⟩, hw''⟩ := hw'
    have hx : Below W.heap.size W Y := by rw [hw'']; exact below_regrown W dq osq
    have KY : Hid (Below w.heap.size w Y) := BW.out.trans (hx.mono BW.out.size)
    clear hx hw'' m0 m1 m2 m3 m4 m5 m6 m7 m8 m9 m10 m11 m12
    go_wp2_with fail
    go_ret
    exact ⟨ret_bool X.out.symm, KY.out⟩
  | true =>
    cases n2 with
    | false =>
      have X : Hid (T = false) := by show _ = _; rw [E.out]; rfl
      clear E
      go_enter Tryz.func12, Tryz.ntmps12
      go_upto_region 1 with fail
      rw [← HW.out]
      refine wp_region_quiet_below (by kernel_rfl) (by kernel_rfl) ?_
      repeat (go_big_quiet_step (first | (go_at_call_of 35 (Value.int IntKind.i64 x.src); exact Q1.out _ _) | (go_at_call_of 35 (Value.int IntKind.i64 x.dst); exact Q2.out _ _) | (go_at_call 36; exact Q3.out _ _) | (go_at_call 37; exact Q4.out _ _)))
      refine wpQuiet_nil ?_
      intro Y hw'
      obtain ⟨⟨dq, osq⟩, hw''⟩ := hw'
      have hx : Below W.heap.size W Y := by rw [hw'']; exact below_regrown W dq osq
      have KY : Hid (Below w.heap.size w Y) := BW.out.trans (hx.mono BW.out.size)
      clear hx hw'' m0 m1 m2 m3 m4 m5 m6 m7 m8 m9 m10 m11 m12
      go_wp2_with fail
      go_ret
      exact ⟨ret_bool X.out.symm, KY.out⟩
    | true =>
      cases hne : (x.src != x.dst) with
      | false =>
        have X : Hid (T = false) := by show _ = _; rw [E.out, hne]; rfl
        clear E
        go_enter Tryz.func12, Tryz.ntmps12
        go_upto_region 1 with fail
        rw [← HW.out]
        refine wp_region_quiet_below (by kernel_rfl) (by kernel_rfl) ?_
        repeat (go_big_quiet_step (first | (go_at_call_of 35 (Value.int IntKind.i64 x.src); exact Q1.out _ _) | (go_at_call_of 35 (Value.int IntKind.i64 x.dst); exact Q2.out _ _) | (go_at_call 36; exact Q3.out _ _) | (go_at_call 37; exact Q4.out _ _)))
        refine wpQuiet_nil ?_
        intro Y hw'
        obtain ⟨⟨dq, osq⟩, hw''⟩ := hw'
        have hx : Below W.heap.size W Y := by rw [hw'']; exact below_regrown W dq osq
        have KY : Hid (Below w.heap.size w Y) := BW.out.trans (hx.mono BW.out.size)
        clear hx hw'' m0 m1 m2 m3 m4 m5 m6 m7 m8 m9 m10 m11 m12
        go_wp2_with fail
        go_ret
        exact ⟨ret_bool X.out.symm, KY.out⟩
      | true =>
        have X : Hid (T = fo) := by show _ = _; rw [E.out, hne]; rfl
        clear E
        go_enter Tryz.func12, Tryz.ntmps12
        go_upto_region 1 with fail
        rw [← HW.out]
        refine wp_region_quiet_below (by kernel_rfl) (by kernel_rfl) ?_
        repeat (go_big_quiet_step (first | (go_at_call_of 35 (Value.int IntKind.i64 x.src); exact Q1.out _ _) | (go_at_call_of 35 (Value.int IntKind.i64 x.dst); exact Q2.out _ _) | (go_at_call 36; exact Q3.out _ _) | (go_at_call 37; exact Q4.out _ _)))
        refine wpQuiet_nil ?_
        intro Y hw'
        obtain ⟨⟨dq, osq⟩, hw''⟩ := hw'
        have hx : Below W.heap.size W Y := by rw [hw'']; exact below_regrown W dq osq
        have KY : Hid (Below w.heap.size w Y) := BW.out.trans (hx.mono BW.out.size)
        clear hx hw'' m0 m1 m2 m3 m4 m5 m6 m7 m8 m9 m10 m11 m12
        go_wp2_with fail
        go_ret
        exact ⟨ret_bool X.out.symm, KY.out⟩
end Go.Proofs.YtmcpefikmcaemaaGreatDoor.Own

namespace Go.Proofs.YtmcpefikmcaemaaGreatDoor.Own
open Go.RowKit
set_option linter.unusedVariables false

def WfV (x : V) : Prop := Fits x.1 ∧ WfE x.2
def WfVs (bs : List V) : Prop := ∀ i, i < bs.length → WfV (bs.getD i (0, e0))
def WfM (x : MM) : Prop := Fits x.kind ∧ Fits x.src ∧ Fits x.dst ∧ Fits x.bal ∧ Fits x.slot ∧ WfE x.b ∧ WfVs (bodies x.vs)
def numText (z : Int) : List UInt8 := 32 :: Lib.itoa z
def voteText (x : V) : List UInt8 := numText x.1 ++ (if x.1 = 0 then [] else entText x.2)
/-- The first k votes, behind what is there already. -/
def votesTo (l : List UInt8) (bs : List V) : Nat → List UInt8
  | 0 => l
  | k + 1 => votesTo l bs k ++ voteText (bs.getD k (0, e0))
def hasEnt (kind : Int) : Bool := decide (kind = 3) || decide (kind = 5) || decide (kind = 7)
/-- The word, and the four numbers. -/
def headM (x : MM) : List UInt8 := (wordOf x.kind).data.toList ++ numText x.src ++ numText x.dst ++ numText x.bal ++ numText x.slot
def midM (x : MM) : List UInt8 := if hasEnt x.kind then headM x ++ (32 :: entText x.b) else headM x
def coreText (x : MM) : List UInt8 := votesTo (midM x) (bodies x.vs) (bodies x.vs).length
def msgText (x : MM) : List UInt8 := if msgOk x then coreText x else []
theorem coreText_cp (x : MM) (g : GM) : coreText (cpM g x) = coreText x := by
  have e : bodies (cpM g x).vs = bodies x.vs := vmsOf_bodies _ _
  unfold coreText
  rw [e]
  rfl
theorem msgText_cp (x : MM) (g : GM) : msgText (cpM g x) = msgText x := by
  unfold msgText
  rw [msgOk_cp, coreText_cp]
theorem word_len (kind : Int) : (wordOf kind).data.toList.length ≤ 9 := by
  rcases kind_cases kind with rfl | rfl | rfl | rfl | rfl | rfl | rfl | rfl | h
  case inr.inr.inr.inr.inr.inr.inr.inr =>
    obtain ⟨g1, g2, g3, g4, g5, g6, g7, g8⟩ := h
    have : wordOf kind = ⟨#[]⟩ := by simp [wordOf, g1, g2, g3, g4, g5, g6, g7, g8]
    rw [this]
    simp
  all_goals simp [wordOf]
theorem num_len (z : Int) (h : Fits z) : (numText z).length ≤ 22 := by
  have := itoa_len z h
  simp only [numText, List.length_cons]; omega
theorem headM_len (x : MM) (h : WfM x) : (headM x).length ≤ 97 := by
  obtain ⟨_, f1, f2, f3, f4, _⟩ := h
  have := word_len x.kind
  have := num_len _ f1; have := num_len _ f2; have := num_len _ f3; have := num_len _ f4
  simp only [headM, List.length_append]; omega
theorem midM_len (x : MM) (h : WfM x) (hs : x.b.xs.length + x.b.ys.length ≤ 2 ^ 21) : (midM x).length ≤ 2 ^ 28 := by
  have h1 := headM_len x h
  have h2 := entText_len x.b h.2.2.2.2.2.1
  unfold midM
  split
  · simp only [List.length_append, List.length_cons]; omega
  · omega
theorem voteText_len (x : V) (h : WfV x) (hs : x.2.xs.length + x.2.ys.length ≤ 2 ^ 21) : (voteText x).length ≤ 2 ^ 28 := by
  have h1 := num_len _ h.1
  have h2 := entText_len x.2 h.2
  unfold voteText
  split
  · simp only [List.length_append, List.length_nil]; omega
  · simp only [List.length_append]; omega
theorem votesTo_len (l : List UInt8) (bs : List V) (h : WfVs bs) (hs : ∀ i, i < bs.length → (bs.getD i (0, e0)).2.xs.length + (bs.getD i (0, e0)).2.ys.length ≤ 2 ^ 21) (k : Nat) (hk : k ≤ bs.length) : (votesTo l bs k).length ≤ l.length + 2 ^ 28 * k := by
  induction k with
  | zero => simp [votesTo]
  | succ k ih =>
    have := ih (by omega)
    have := voteText_len _ (h k (by omega)) (hs k (by omega))
    simp only [votesTo, List.length_append]
    omega
theorem hasEnt_iff {kind : Int} : hasEnt kind = true ↔ (kind = 3 ∨ kind = 5 ∨ kind = 7) := by simp [hasEnt, or_assoc]
/-- Of a message that is one: its votes are at most 40, and there are some in promises alone; each is right or none. -/
theorem msgOk_votes {x : MM} (h : msgOk x = true) : (bodies x.vs).length ≤ 40 ∧ (x.kind ≠ 2 → bodies x.vs = []) ∧ ∀ i, i < (bodies x.vs).length → voteOk ((bodies x.vs).getD i (0, e0)) = true := by
  have hf : formOk x.kind x.bal x.slot x.b (bodies x.vs) = true := by
    simp [msgOk] at h
    exact h.2
  by_cases hk : x.kind = 2
  · rw [hk] at hf
    simp [formOk] at hf
    have hv : votesOk (bodies x.vs) = true := hf.2.1
    unfold votesOk at hv
    rw [Bool.and_eq_true] at hv
    refine ⟨by simpa using hv.1, fun h => absurd hk h, fun i hi => ?_⟩
    have := hv.2
    rw [List.all_eq_true] at this
    exact this _ (by simp [List.getD, hi])
  · have : bodies x.vs = [] := by
      by_cases h0 : 0 < (bodies x.vs).length
      · rw [form_votes hk h0] at hf; cases hf
      · exact List.eq_nil_of_length_eq_zero (by omega)
    rw [this]
    exact ⟨by simp, fun _ => rfl, fun i hi => by simp at hi⟩
theorem msgOk_kind {x : MM} (h : msgOk x = true) : 1 ≤ x.kind ∧ x.kind ≤ 8 := by
  have hf : formOk x.kind x.bal x.slot x.b (bodies x.vs) = true := by
    simp [msgOk] at h
    exact h.2
  rw [formOk_parts] at hf
  simp at hf
  have := hf.1.1.1.1
  simpa [isKind] using this
theorem voteOk_pos {x : V} (h : voteOk x = true) : x.1 = 0 ∨ 0 < x.1 := by
  unfold voteOk at h
  split at h
  · left; assumption
  · rw [Bool.and_eq_true] at h
    have := isBal_iff.1 h.1
    right; omega
end Go.Proofs.YtmcpefikmcaemaaGreatDoor.Own
