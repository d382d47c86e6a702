/-
  Own texts, bundled: ExecOkI2, EntOkI, BalB, AccMath, EntOkC, SameVote, VotesI, BestI.
-/
import Derived.Test.YtbbbfnfpmaogoaaPk5
import Derived.Test.YtbbbfnfpmaogoaaPk1
import Derived.Test.YtbbbfnfpmaogoaaPk2
import Derived.Deep.Cut
import Derived.Deep.CutRange
namespace Go.Proofs.Ytbbbfnfpmaogoaa.Own
open Go.RowKit
set_option linter.unusedVariables false
set_option linter.unusedSimpArgs false

set_option maxRecDepth 100000 in
set_option maxHeartbeats 1000000 in
theorem putsOkC (a : Option Addr) (c : Nat) (xs : List P2) (w : World) (h : Sl w a xs) (hn : xs.length ≤ 2 ^ 40) :
    Calls Try.prog 184 #[.slice a xs.length c] w fun e w' => e = .returned (.bool (okAll numOk xs)) ∧ Below w.heap.size w w' := by
  have H1 : Hid (Sl w a xs) := h
  clear h
  go_enter Try.func184, Try.ntmps184
  go_wp2
  go_loopw [8] (fun i wr => ∃ k : Nat, k ≤ xs.length ∧ i = .int .i64 k ∧ Hid (∀ i, i < k → okAt numOk xs i = true) ∧ MarksAt wr w.heap.size 0 (seen xs k) ∧ Below w.heap.size w wr) (fun i _ => xs.length - (intOf i).toNat)
  case atStart => exact ⟨0, Nat.zero_le _, rfl, fun i hi => by omega, (marks_new w _).congr fun j _ => (seen_zero xs j).symm, (Below.refl _ _).alloc (Nat.le_refl _) _⟩
  case round =>
    obtain ⟨k, hk, rfl, hA, hM, hB⟩ := hrel
    by_cases hlt : k < xs.length
    · rcases H1.out with h | ⟨b1, o1, rfl, h1⟩
      · subst h; simp at hlt
      have H1' : Hid (BoxAt w b1 o1 xs) := h1
      clear h1
      obtain ⟨p, hp⟩ : ∃ p, p = xs.getD k (0, 0) := ⟨_, rfl⟩
      obtain ⟨ca, cb⟩ := H1'.out.2 k hlt
      rw [← hB.cell H1'.out.1, ← hp] at ca cb
      have HP : Hid (p = xs.getD k (0, 0)) := hp
      have HB : Hid (Below w.heap.size w wr) := hB
      have HM : Hid (MarksAt wr w.heap.size 0 (seen xs k)) := hM
      clear hp hB hM
      obtain ⟨p1, p2⟩ := p
      have F : Hid (okAt numOk xs k = false → okAll numOk xs = false) := fun t => okAll_false hlt t
      have HBa : ∀ o, Hid (Below w.heap.size w (wr.alloc o)) := fun o => HB.out.alloc HB.out.size _
      cases hr : regOk p1 with
      | false =>
        have F' : Hid (okAll numOk xs = false) := F.out (by unfold okAt; rw [← HP.out]; simp only [hr, Bool.false_and])
        have HR : Hid (regOk p1 = false) := hr
        clear F hr
        go_wp2_with fail
        refine (firstNone _ p1 _ HR.out).mono ?_
        rintro e w1 ⟨rfl, rfl⟩
        go_wp2
        go_ret
        exact ⟨ret_bool F'.out.symm, (HBa _).out⟩
      | true =>
        obtain ⟨j, hj, rfl⟩ := regOk_nat hr
        clear hr
        have HJ : Hid ((xs.getD k (0, 0)).1 = (j : Int)) := by show _ = _; rw [← HP.out]
        have HS : Hid (okAt numOk xs k = (regOk (j : Int) && numOk p2 && !seen xs k j)) := by
          show _ = _
          rw [okAt_seen numOk xs k j HJ.out, ← HP.out]
        cases hs : seen xs k j with
        | true =>
          have F' : Hid (okAll numOk xs = false) := F.out (by rw [HS.out, hs]; simp)
          have hc : Hid (∀ o, (wr.alloc o).cell? ⟨w.heap.size, 0 + j, none⟩ = some (.bool true)) := fun o => by
            have := (HM.out.alloc o).2.1 j hj
            rw [hs] at this; exact this
          clear F hs
          go_wp2_with fail
          refine (firstTwice w.heap.size 0 j _ hj (hc.out _)).mono ?_
          rintro e w1 ⟨rfl, rfl⟩
          go_wp2
          go_ret
          exact ⟨ret_bool F'.out.symm, (HBa _).out⟩
        | false =>
          have hc : Hid (∀ o, (wr.alloc o).cell? ⟨w.heap.size, 0 + j, none⟩ = some (.bool false) ∧ (wr.alloc o).frozen? ⟨w.heap.size, 0 + j, none⟩ = false) := fun o => by
            have := (HM.out.alloc o).2.1 j hj
            rw [hs] at this; exact ⟨this, (HM.out.alloc o).2.2 _⟩
          have HS' : Hid (seen xs k j = false) := hs
          clear hs
          have AF : Hid (∀ w1, w1 = (wr.alloc (.cells #[.int .i64 (j : Int), .int .i64 p2] 162)).setCell ⟨w.heap.size, 0 + j, none⟩ (.bool true) → w1.cell? ⟨wr.heap.size, 1, none⟩ = some (.int .i64 p2) ∧ Hid (MarksAt w1 w.heap.size 0 (seen xs (k + 1))) ∧ Hid (Below w.heap.size w w1)) := by
            intro w1 hw
            have hsz : w.heap.size < wr.heap.size := HM.out.1
            refine ⟨?_, ?_, ?_⟩
            · rw [hw, World.cell?_setCell_other _ _ _ _ (by intro e; injection e with e1; omega), cell_heap (heap_new _ _)]; rfl
            · rw [hw]; exact ((HM.out.alloc _).set j hj).congr fun i hi => (seen_step hlt HJ.out i).symm
            · rw [hw]; exact (HBa _).out.setCell (Nat.le_refl _) _
          cases t1 : numOk p2 with
          | false =>
            have F' : Hid (okAll numOk xs = false) := F.out (by rw [HS.out, t1]; simp)
            clear F
            go_wp2_with fail
            refine (firstYes w.heap.size 0 j _ hj (hc.out _).1 (hc.out _).2).mono ?_
            rintro e w1 ⟨rfl, hw⟩
            obtain ⟨c1, M1, B1⟩ := AF.out w1 hw
            clear hw AF
            go_wp2_with fail
            refine (isNumberC p2 _).mono ?_
            rintro e w2 ⟨rfl, rfl⟩
            rw [t1]
            go_wp2
            go_ret
            exact ⟨ret_bool F'.out.symm, B1.out⟩
          | true =>
            have N : Hid (∀ i, i < k + 1 → okAt numOk xs i = true) := by
              intro i hi
              by_cases e : i = k
              · subst e
                rw [HS.out, HS'.out, regOk_of j hj, t1]; rfl
              · exact hA.out i (by omega)
            clear F
            go_wp2_with fail
            refine (firstYes w.heap.size 0 j _ hj (hc.out _).1 (hc.out _).2).mono ?_
            rintro e w1 ⟨rfl, hw⟩
            obtain ⟨c1, M1, B1⟩ := AF.out w1 hw
            clear hw AF
            go_wp2_with fail
            refine (isNumberC p2 _).mono ?_
            rintro e w2 ⟨rfl, rfl⟩
            rw [t1]
            go_wp2
            go_roundw
            case rel => exact ⟨k + 1, by omega, by go_num, N, M1.out, B1.out⟩
            case measure => simp [intOf]; omega
    · go_wp2
      go_ret
      have : k = xs.length := by omega
      subst this
      exact ⟨ret_bool (okAll_iff.2 hA.out).symm, hB⟩

set_option maxRecDepth 100000 in
set_option maxHeartbeats 1000000 in
theorem endOkC (a1 a2 : Option Addr) (n1 c1 n2 c2 : Nat) (v k : Int) (w : World) :
    Calls Try.prog 172 #[.agg #[.slice a1 n1 c1, .slice a2 n2 c2, .int .i64 v, .int .i64 k]] w fun e w' => e = .returned (.bool (endOk k v n1 n2)) ∧ Below w.heap.size w w' := by
  by_cases h0 : k = 0
  · subst h0
    rw [endOk_0]
    go_enter Try.func172, Try.ntmps172
    go_wp2_with fail
    refine (isNumberC v _).mono ?_
    rintro e w2 ⟨rfl, rfl⟩
    go_wp2
    go_ret
    exact ⟨rfl, (Below.refl _ _).alloc (Nat.le_refl _) _⟩
  by_cases h1 : k = 1
  · subst h1
    rw [endOk_1]
    cases hv : (v == 0) with
    | false =>
      go_enter Try.func172, Try.ntmps172
      go_wp2
      go_ret
      exact ⟨rfl, (Below.refl _ _).alloc (Nat.le_refl _) _⟩
    | true =>
      have E : Hid (decide (n2 = 0) = ((n2 : Int) == 0)) := by show _ = _; rw [Bool.eq_iff_iff]; simp
      go_enter Try.func172, Try.ntmps172
      go_wp2
      go_ret
      exact ⟨ret_bool (by rw [E.out]; simp), (Below.refl _ _).alloc (Nat.le_refl _) _⟩
  by_cases h2 : k = 2
  · subst h2
    rw [endOk_2]
    cases hv : (v == 0) with
    | false =>
      go_enter Try.func172, Try.ntmps172
      go_wp2
      go_ret
      exact ⟨rfl, (Below.refl _ _).alloc (Nat.le_refl _) _⟩
    | true =>
      have E : Hid (decide (n2 = 0) = ((n2 : Int) == 0)) := by show _ = _; rw [Bool.eq_iff_iff]; simp
      go_enter Try.func172, Try.ntmps172
      go_wp2
      go_ret
      exact ⟨ret_bool (by rw [E.out]; simp), (Below.refl _ _).alloc (Nat.le_refl _) _⟩
  by_cases h3 : k = 3
  · subst h3
    rw [endOk_3]
    cases hv : (v == 0) with
    | false =>
      go_enter Try.func172, Try.ntmps172
      go_wp2
      go_ret
      exact ⟨rfl, (Below.refl _ _).alloc (Nat.le_refl _) _⟩
    | true =>
      have E : Hid (decide (n2 = 0) = ((n2 : Int) == 0)) := by show _ = _; rw [Bool.eq_iff_iff]; simp
      have E1 : Hid (decide (n1 = 0) = ((n1 : Int) == 0)) := by show _ = _; rw [Bool.eq_iff_iff]; simp
      cases hn : ((n2 : Int) == 0) with
      | false =>
        go_enter Try.func172, Try.ntmps172
        go_wp2
        go_ret
        exact ⟨ret_bool (by rw [E.out, hn]; simp), (Below.refl _ _).alloc (Nat.le_refl _) _⟩
      | true =>
        go_enter Try.func172, Try.ntmps172
        go_wp2
        go_ret
        exact ⟨ret_bool (by rw [E.out, E1.out, hn]; simp), (Below.refl _ _).alloc (Nat.le_refl _) _⟩
  rw [endOk_no v n1 n2 ⟨h0, h1, h2, h3⟩]
  have e0 : (k == 0) = false := by simpa using h0
  have e1 : (k == 1) = false := by simpa using h1
  have e2 : (k == 2) = false := by simpa using h2
  have e3 : (k == 3) = false := by simpa using h3
  clear h0 h1 h2 h3
  go_enter Try.func172, Try.ntmps172
  go_wp2
  go_ret
  exact ⟨rfl, (Below.refl _ _).alloc (Nat.le_refl _) _⟩

set_option maxRecDepth 100000 in
set_option maxHeartbeats 1000000 in
theorem implExecOk (a1 a2 : Option Addr) (c1 c2 : Nat) (xs ys : List P2) (v k : Int) (w : World) (h1 : Sl w a1 xs) (h2 : Sl w a2 ys) (hn1 : xs.length ≤ 2 ^ 40) (hn2 : ys.length ≤ 2 ^ 40) :
    Calls Try.prog 182 #[.agg #[.slice a1 xs.length c1, .slice a2 ys.length c2, .int .i64 v, .int .i64 k]] w fun e w' => e = .returned (.bool (execOk xs ys v k)) ∧ Below w.heap.size w w' := by
  have H1 : Hid (Sl w a1 xs) := h1
  have H2 : Hid (Sl w a2 ys) := h2
  clear h1 h2
  have E : Hid (execOk xs ys v k = (endOk k v xs.length ys.length && okAll verOk xs && okAll numOk ys)) := rfl
  have CE := fun W => endOkC a1 a2 xs.length c1 ys.length c2 v k W
  generalize endOk k v xs.length ys.length = r at E CE
  have CE' : Hid (∀ W, Calls Try.prog 172 #[.agg #[.slice a1 xs.length c1, .slice a2 ys.length c2, .int .i64 v, .int .i64 k]] W fun e w' => e = .returned (.bool r) ∧ Below W.heap.size W w') := CE
  clear CE
  have B0 : ∀ o, Hid (Below w.heap.size w (w.alloc o)) := fun o => (Below.refl _ _).alloc (Nat.le_refl _) _
  cases r with
  | false =>
    go_enter Try.func182, Try.ntmps182
    go_wp2_with fail
    refine (CE'.out _).mono ?_
    rintro e w1 ⟨rfl, b1⟩
    have B1 : Hid (Below w.heap.size w w1) := (B0 _).out.trans (b1.mono (B0 _).out.size)
    clear b1
    go_wp2
    go_ret
    exact ⟨ret_bool (by rw [E.out]; rfl), B1.out⟩
  | true =>
    go_enter Try.func182, Try.ntmps182
    go_wp2_with fail
    refine (CE'.out _).mono ?_
    rintro e w1 ⟨rfl, b1⟩
    have B1 : Hid (Below w.heap.size w w1) := (B0 _).out.trans (b1.mono (B0 _).out.size)
    have C1 : Hid (∀ o, w1.cell? ⟨w.heap.size, o, none⟩ = (#[.slice a1 xs.length c1, .slice a2 ys.length c2, .int .i64 v, .int .i64 k] : Array Value)[o]?) := fun o => by
      rw [b1.cell (p := ⟨w.heap.size, o, none⟩) (by show w.heap.size < _; rw [size_new]; omega), cell_heap (heap_new _ _)]
    have S1 : Hid (w.heap.size < w1.heap.size) := by show _ < _; have := b1.size; rw [size_new] at this; omega
    have q0 : w1.cell? ⟨w.heap.size, 0, none⟩ = some (.slice a1 xs.length c1) := C1.out 0
    clear b1
    have RC := fun W h => readsOkC a1 c1 xs W h hn1
    generalize okAll verOk xs = r2 at E RC
    have RC' : Hid (∀ W, Sl W a1 xs → Calls Try.prog 183 #[.slice a1 xs.length c1] W fun e w' => e = .returned (.bool r2) ∧ Below W.heap.size W w') := RC
    clear RC
    cases r2 with
    | false =>
      go_wp2_with fail
      refine (RC'.out _ (H1.out.below B1.out)).mono ?_
      rintro e w2 ⟨rfl, b2⟩
      have B2 : Hid (Below w.heap.size w w2) := B1.out.trans (b2.mono B1.out.size)
      clear b2
      go_wp2
      go_ret
      exact ⟨ret_bool (by rw [E.out]; rfl), B2.out⟩
    | true =>
      go_wp2_with fail
      refine (RC'.out _ (H1.out.below B1.out)).mono ?_
      rintro e w2 ⟨rfl, b2⟩
      have B2 : Hid (Below w.heap.size w w2) := B1.out.trans (b2.mono B1.out.size)
      have q1 : w2.cell? ⟨w.heap.size, 1, none⟩ = some (.slice a2 ys.length c2) := by rw [b2.cell (p := ⟨w.heap.size, 1, none⟩) S1.out]; exact C1.out 1
      clear b2 q0
      go_wp2_with fail
      refine (putsOkC a2 c2 ys _ (H2.out.below B2.out) hn2).mono ?_
      rintro e w3 ⟨rfl, b3⟩
      have B3 : Hid (Below w.heap.size w w3) := B2.out.trans (b3.mono B2.out.size)
      clear b3
      generalize okAll numOk ys = r3 at E
      go_wp2
      go_ret
      exact ⟨ret_bool (by rw [E.out]; rfl), B3.out⟩
end Go.Proofs.Ytbbbfnfpmaogoaa.Own

namespace Go.Proofs.Ytbbbfnfpmaogoaa.Own
open Go.RowKit
set_option linter.unusedVariables false
set_option linter.unusedSimpArgs false

/-- A request is right. -/
def reqOk (p q : Int) : Bool := decide (0 ≤ p) && decide (p < 3) && decide (1 ≤ q) && decide (q ≤ 1000)
/-- An entry is right. -/
def entOk (n : Bool) (p q : Int) (xs ys : List P2) (v k : Int) : Bool := if n then likeE n true (p, q) (0, 0) xs ys [] [] v k 0 0 else reqOk p q && execOk xs ys v k && k != 3

theorem implReqOk (p q : Int) (w : World) : Calls Try.prog 171 #[.agg #[.int .i64 p, .int .i64 q]] w fun e w' => e = .returned (.bool (reqOk p q)) ∧ Below w.heap.size w w' := by
  have R : Hid (reqOk p q = (decide (0 ≤ p) && decide (p < 3) && decide (1 ≤ q) && decide (q ≤ 1000))) := rfl
  have B0 : ∀ o, Hid (Below w.heap.size w (w.alloc o)) := fun o => (Below.refl _ _).alloc (Nat.le_refl _) _
  cases h1 : decide (0 ≤ p) with
  | false =>
    go_enter Try.func171, Try.ntmps171
    go_wp2
    go_ret
    exact ⟨ret_bool (by rw [R.out, h1]; rfl), (B0 _).out⟩
  | true =>
    cases h2 : decide (p < 3) with
    | false =>
      go_enter Try.func171, Try.ntmps171
      go_wp2
      go_ret
      exact ⟨ret_bool (by rw [R.out, h1, h2]; rfl), (B0 _).out⟩
    | true =>
      cases h3 : decide (1 ≤ q) with
      | false =>
        go_enter Try.func171, Try.ntmps171
        go_wp2
        go_ret
        exact ⟨ret_bool (by rw [R.out, h1, h2, h3]; rfl), (B0 _).out⟩
      | true =>
        go_enter Try.func171, Try.ntmps171
        go_wp2
        go_ret
        exact ⟨ret_bool (by rw [R.out, h1, h2, h3]; rfl), (B0 _).out⟩

theorem implEntryOf (n : Bool) (p q : Value) (s1 s2 v k : Value) (w : World) : Calls Try.prog 141 #[.agg #[.bool n, p, q, s1, s2, v, k]] w fun e w' => e = .returned (.iface (if n then 186 else 187) (.agg #[.bool n, p, q, s1, s2, v, k])) ∧ Below w.heap.size w w' := by
  cases n with
  | false =>
    go_enter Try.func141, Try.ntmps141
    go_wp2
    go_ret
    exact ⟨rfl, (Below.refl _ _).alloc (Nat.le_refl _) _⟩
  | true =>
    go_enter Try.func141, Try.ntmps141
    go_wp2
    go_ret
    exact ⟨rfl, (Below.refl _ _).alloc (Nat.le_refl _) _⟩

set_option maxRecDepth 100000 in
set_option maxHeartbeats 1000000 in
theorem implEmptyRight (n : Bool) (p q : Int) (a1 a2 : Option Addr) (c1 c2 : Nat) (xs ys : List P2) (v k : Int) (w : World) (h1 : Sl w a1 xs) (h2 : Sl w a2 ys) (n1 : xs.length ≤ 2 ^ 40) (n2 : ys.length ≤ 2 ^ 40) :
    Calls Try.prog 179 #[.agg #[.bool n, .int .i64 p, .int .i64 q, .slice a1 xs.length c1, .slice a2 ys.length c2, .int .i64 v, .int .i64 k]] w fun e w' => e = .returned (.bool (likeE n true (p, q) (0, 0) xs ys [] [] v k 0 0)) ∧ Below w.heap.size w w' := by
  have H1 : Hid (Sl w a1 xs) := h1
  have H2 : Hid (Sl w a2 ys) := h2
  clear h1 h2
  obtain ⟨W, hW⟩ : ∃ W, W = w.alloc (.cells #[.bool n, .int .i64 p, .int .i64 q, .slice a1 xs.length c1, .slice a2 ys.length c2, .int .i64 v, .int .i64 k] 186) := ⟨_, rfl⟩
  have BW : Hid (Below w.heap.size w W) := by show Below _ _ _; rw [hW]; exact (Below.refl _ _).alloc (Nat.le_refl _) _
  have HW : Hid (W = _) := hW
  clear hW
  go_enter Try.func179, Try.ntmps179
  go_wp2_with fail
  rw [← HW.out]
  refine (implCertLike n true p q 0 0 a1 a2 none none c1 c2 0 0 xs ys [] [] v k 0 0 W (H1.out.below BW.out) (H2.out.below BW.out) (.inl rfl) (.inl rfl) n1 n2 (by simp) (by simp)).mono ?_
  rintro e w1 ⟨rfl, b1⟩
  have B1 : Hid (Below w.heap.size w w1) := BW.out.trans (b1.mono BW.out.size)
  clear b1
  generalize hr : likeE n true (p, q) (0, 0) xs ys [] [] v k 0 0 = r
  have HR : Hid (_ = r) := hr
  clear hr
  go_wp2_with fail
  go_ret
  exact ⟨ret_bool HR.out.symm, B1.out⟩

set_option maxRecDepth 100000 in
set_option maxHeartbeats 1000000 in
theorem implRunRight (n : Bool) (p q : Int) (a1 a2 : Option Addr) (c1 c2 : Nat) (xs ys : List P2) (v k : Int) (w : World) (h1 : Sl w a1 xs) (h2 : Sl w a2 ys) (n1 : xs.length ≤ 2 ^ 40) (n2 : ys.length ≤ 2 ^ 40) :
    Calls Try.prog 181 #[.agg #[.bool n, .int .i64 p, .int .i64 q, .slice a1 xs.length c1, .slice a2 ys.length c2, .int .i64 v, .int .i64 k]] w fun e w' => e = .returned (.bool (reqOk p q && execOk xs ys v k && k != 3)) ∧ Below w.heap.size w w' := by
  have H1 : Hid (Sl w a1 xs) := h1
  have H2 : Hid (Sl w a2 ys) := h2
  clear h1 h2
  obtain ⟨W, hW⟩ : ∃ W, W = w.alloc (.cells #[.bool n, .int .i64 p, .int .i64 q, .slice a1 xs.length c1, .slice a2 ys.length c2, .int .i64 v, .int .i64 k] 187) := ⟨_, rfl⟩
  have BW : Hid (Below w.heap.size w W) := by show Below _ _ _; rw [hW]; exact (Below.refl _ _).alloc (Nat.le_refl _) _
  have G0 : Hid (Blk W w.heap.size #[.bool n, .int .i64 p, .int .i64 q, .slice a1 xs.length c1, .slice a2 ys.length c2, .int .i64 v, .int .i64 k] 187) := by show Blk _ _ _ _; rw [hW]; exact Blk.new _ _ _
  have HW : Hid (W = _) := hW
  clear hW
  obtain ⟨T, hT⟩ : ∃ T, T = (reqOk p q && execOk xs ys v k && k != 3) := ⟨_, rfl⟩
  have HT : Hid (T = (reqOk p q && execOk xs ys v k && k != 3)) := hT
  rw [← hT]
  clear hT
  go_enter Try.func181, Try.ntmps181
  go_wp2_with fail
  rw [← HW.out]
  refine (implReqOk p q W).mono ?_
  rintro e w1 ⟨rfl, b1⟩
  have B1 : Hid (Below w.heap.size w w1) := BW.out.trans (b1.mono BW.out.size)
  have D0 : Hid (Blk w1 w.heap.size _ _) := G0.out.keep b1
  obtain ⟨q0, q1, q2, q3, q4, q5, q6⟩ := D0.out.cells7
  clear b1
  generalize reqOk p q = r1 at HT ⊢
  cases r1 with
  | false =>
    have F : Hid (T = false) := by show _ = _; rw [HT.out]; rfl
    go_wp2_with fail
    go_ret
    exact ⟨ret_bool F.out.symm, B1.out⟩
  | true =>
    go_wp2_with fail
    refine (implExecOk a1 a2 c1 c2 xs ys v k w1 (H1.out.below B1.out) (H2.out.below B1.out) n1 n2).mono ?_
    rintro e w2 ⟨rfl, b2⟩
    have B2 : Hid (Below w.heap.size w w2) := B1.out.trans (b2.mono B1.out.size)
    obtain ⟨r0, r1, r2, r3, r4, r5, r6⟩ := (D0.out.keep b2).cells7
    clear b2 q0 q1 q2 q3 q4 q5 q6
    generalize execOk xs ys v k = r2' at HT ⊢
    cases r2' with
    | false =>
      have F : Hid (T = false) := by show _ = _; rw [HT.out]; rfl
      go_wp2_with fail
      go_ret
      exact ⟨ret_bool F.out.symm, B2.out⟩
    | true =>
      have F : Hid (T = (k != 3)) := by show _ = _; rw [HT.out]; rfl
      go_wp2_with fail
      go_ret
      exact ⟨ret_bool F.out.symm, B2.out⟩
end Go.Proofs.Ytbbbfnfpmaogoaa.Own

namespace Go.Proofs.Ytbbbfnfpmaogoaa.Own
open Go.RowKit
set_option linter.unusedVariables false

/-- A ballot is 1 to 3000. -/
def isBal (n : Int) : Bool := decide (1 ≤ n) && decide (n ≤ 3000)
theorem isBal_iff {n : Int} : isBal n = true ↔ 1 ≤ n ∧ n ≤ 3000 := by simp [isBal]
theorem isBal_not {n : Int} : isBal n = false ↔ (n < 1 ∨ 3000 < n) := by
  rw [← Bool.not_eq_true, isBal_iff]; omega
set_option maxRecDepth 100000 in
set_option maxHeartbeats 1000000 in
theorem implIsBallot (n : Int) (w : World) : Calls Try.prog 109 #[.int .i64 n] w fun e w' => e = .returned (.bool (isBal n)) ∧ w' = w := by
  by_cases h1 : 1 ≤ n
  · by_cases h2 : n ≤ 3000
    · have e : isBal n = true := isBal_iff.2 ⟨h1, h2⟩
      rw [e]
      go_enter Try.func109, Try.ntmps109
      go_wp2
      go_ret
      first | exact ⟨rfl, rfl⟩ | (refine ⟨?_, rfl⟩; simp [h1, h2])
    · have e : isBal n = false := isBal_not.2 (by omega)
      rw [e]
      go_enter Try.func109, Try.ntmps109
      go_wp2
      go_ret
      first | exact ⟨rfl, rfl⟩ | (refine ⟨?_, rfl⟩; simp [h1, h2])
  · have e : isBal n = false := isBal_not.2 (by omega)
    rw [e]
    go_enter Try.func109, Try.ntmps109
    go_wp2
    go_ret
    first | exact ⟨rfl, rfl⟩ | (refine ⟨?_, rfl⟩; simp [h1])

set_option maxRecDepth 100000 in
set_option maxHeartbeats 1000000 in
theorem specBal (n : Int) (w : World) : Calls Try.prog 97 #[.int .i64 n] w fun e w' => e = .returned (.bool (isBal n)) ∧ w' = w := by
  by_cases h1 : 1 ≤ n
  · by_cases h2 : n ≤ 3000
    · have e : isBal n = true := isBal_iff.2 ⟨h1, h2⟩
      rw [e]
      go_enter Try.func97, Try.ntmps97
      go_wp2
      go_ret
      first | exact ⟨rfl, rfl⟩ | (refine ⟨?_, rfl⟩; simp [h1, h2])
    · have e : isBal n = false := isBal_not.2 (by omega)
      rw [e]
      go_enter Try.func97, Try.ntmps97
      go_wp2
      go_ret
      first | exact ⟨rfl, rfl⟩ | (refine ⟨?_, rfl⟩; simp [h1, h2])
  · have e : isBal n = false := isBal_not.2 (by omega)
    rw [e]
    go_enter Try.func97, Try.ntmps97
    go_wp2
    go_ret
    first | exact ⟨rfl, rfl⟩ | (refine ⟨?_, rfl⟩; simp [h1])
end Go.Proofs.Ytbbbfnfpmaogoaa.Own

namespace Go.Proofs.Ytbbbfnfpmaogoaa.Own
open Go.RowKit
set_option linter.unusedVariables false

/-- An entry that is not there. -/
def noneE (e : EB) : Bool := likeE e.n false (e.p, e.q) (0, 0) e.xs e.ys [] [] e.v e.k 0 0
/-- An entry that is right. -/
def rightE (e : EB) : Bool := entOk e.n e.p e.q e.xs e.ys e.v e.k
/-- A vote that is right, or none. -/
def voteOk (x : V) : Bool := if x.1 = 0 then noneE x.2 else isBal x.1 && rightE x.2
def votesOk (bs : List V) : Bool := decide (bs.length ≤ 40) && bs.all voteOk
/-- A vote that nobody can have whose last ballot is m. -/
def barsV (m : Int) (x : V) : Bool := if x.1 == 0 && noneE x.2 then false else !isBal x.1 || decide (m < x.1) || !rightE x.2
def votesUpto (m : Int) (bs : List V) : Bool := decide (bs.length ≤ 40) && !bs.any (barsV m)
def accOk (m : Int) (bs : List V) : Bool := decide (0 ≤ m) && decide (m ≤ 3000) && votesOk bs && bs.all fun x => decide (x.1 ≤ m)
theorem bars_eq {m : Int} (hm : 0 ≤ m) (x : V) : barsV m x = !(voteOk x && decide (x.1 ≤ m)) := by
  obtain ⟨b, e⟩ := x
  unfold barsV voteOk
  by_cases h : b = 0
  · subst h
    have hb : isBal 0 = false := by decide
    simp [hb, hm]
  · have hb : (b == 0) = false := by simpa using h
    simp only [hb, h, if_false, Bool.false_and, Bool.not_and, Bool.false_eq_true]
    by_cases hl : m < b
    · have : ¬ b ≤ m := by omega
      simp [hl, this]
    · have : b ≤ m := by omega
      simp [hl, this]
theorem bars_top (x : V) : barsV 3000 x = !voteOk x := by
  rw [bars_eq (by omega)]
  congr 1
  obtain ⟨b, e⟩ := x
  unfold voteOk
  by_cases h : b = 0
  · subst h; simp
  · simp only [h, if_false]
    cases hb : isBal b with
    | false => simp
    | true =>
      have := (isBal_iff.1 hb).2
      simp [this]
theorem votesUpto_top (bs : List V) : votesUpto 3000 bs = votesOk bs := by
  unfold votesUpto votesOk
  congr 1
  rw [show barsV 3000 = fun x => !voteOk x from funext bars_top]
  induction bs with
  | nil => rfl
  | cons x xs ih => simp [ih]
theorem votesUpto_acc {m : Int} (hm : 0 ≤ m) (bs : List V) : votesUpto m bs = (votesOk bs && bs.all fun x => decide (x.1 ≤ m)) := by
  unfold votesUpto votesOk
  rw [show barsV m = fun x => !(voteOk x && decide (x.1 ≤ m)) from funext (bars_eq hm), Bool.and_assoc]
  congr 1
  induction bs with
  | nil => rfl
  | cons x xs ih =>
    simp only [List.any_cons, List.all_cons, Bool.not_or, Bool.not_not, ih]
    cases voteOk x <;> cases decide (x.1 ≤ m) <;> simp
theorem accOk_upto (m : Int) (bs : List V) : accOk m bs = (decide (0 ≤ m) && decide (m ≤ 3000) && votesUpto m bs) := by
  unfold accOk
  by_cases h : 0 ≤ m
  · rw [votesUpto_acc h]; simp only [Bool.and_assoc]
  · simp [h]
theorem accOk_iff {m : Int} {bs : List V} (h : accOk m bs = true) : 0 ≤ m ∧ m ≤ 3000 ∧ votesOk bs = true ∧ ∀ x, x ∈ bs → x.1 ≤ m := by
  simp [accOk] at h
  exact ⟨h.1.1.1, h.1.1.2, h.1.2, fun x hx => h.2 x.1 x.2 hx⟩

/-- Two votes are one. -/
def sameV (x y : V) : Bool := x.1 == y.1 && likeE x.2.n y.2.n (x.2.p, x.2.q) (y.2.p, y.2.q) x.2.xs x.2.ys y.2.xs y.2.ys x.2.v x.2.k y.2.v y.2.k
def sameVs (xs ys : List V) : Bool := decide (xs.length = ys.length) && (List.range xs.length).all fun i => sameV (xs.getD i (0, e0)) (ys.getD i (0, e0))
theorem sameVs_len {xs ys : List V} (h : xs.length ≠ ys.length) : sameVs xs ys = false := by simp [sameVs, h]
theorem sameVs_not {xs ys : List V} {i : Nat} (hi : i < xs.length) (h : sameV (xs.getD i (0, e0)) (ys.getD i (0, e0)) = false) : sameVs xs ys = false := by
  unfold sameVs
  have : ((List.range xs.length).all fun i => sameV (xs.getD i (0, e0)) (ys.getD i (0, e0))) = false := by
    rw [Bool.eq_false_iff]
    intro e
    rw [List.all_eq_true] at e
    have := e i (List.mem_range.2 hi)
    rw [h] at this
    cases this
  rw [this, Bool.and_false]
theorem sameVs_all {xs ys : List V} (hl : xs.length = ys.length) (h : ∀ i, i < xs.length → sameV (xs.getD i (0, e0)) (ys.getD i (0, e0)) = true) : sameVs xs ys = true := by
  unfold sameVs
  rw [Bool.and_eq_true]
  refine ⟨by simpa using hl, ?_⟩
  rw [List.all_eq_true]
  exact fun i hi => h i (List.mem_range.1 hi)
theorem allV_at {α : Type} {p : α → Bool} {l : List α} (d : α) (h : ∀ i, i < l.length → p (l.getD i d) = true) : l.all p = true := by
  rw [List.all_eq_true]
  intro x hx
  obtain ⟨i, hi, rfl⟩ := List.getElem_of_mem hx
  have := h i hi
  simpa [List.getD, hi] using this
theorem allV_not {α : Type} {p : α → Bool} {l : List α} (d : α) {i : Nat} (hi : i < l.length) (h : p (l.getD i d) = false) : l.all p = false := by
  rw [Bool.eq_false_iff]
  intro e
  rw [List.all_eq_true] at e
  have := e (l.getD i d) (by simp [List.getD, hi])
  rw [h] at this
  cases this
theorem anyV_at {α : Type} {p : α → Bool} {l : List α} (d : α) (h : ∀ i, i < l.length → p (l.getD i d) = false) : l.any p = false := by
  rw [Bool.eq_false_iff]
  intro e
  rw [List.any_eq_true] at e
  obtain ⟨x, hx, e⟩ := e
  obtain ⟨i, hi, rfl⟩ := List.getElem_of_mem hx
  have := h i hi
  simp [List.getD, hi] at this
  rw [this] at e
  cases e
theorem anyV_hit {α : Type} {p : α → Bool} {l : List α} (d : α) {i : Nat} (hi : i < l.length) (h : p (l.getD i d) = true) : l.any p = true := by
  rw [List.any_eq_true]
  exact ⟨l.getD i d, by simp [List.getD, hi], h⟩
end Go.Proofs.Ytbbbfnfpmaogoaa.Own

namespace Go.Proofs.Ytbbbfnfpmaogoaa.Own
open Go.RowKit
set_option linter.unusedVariables false
set_option linter.unusedSimpArgs false

set_option maxRecDepth 100000 in
set_option maxHeartbeats 1000000 in
theorem implCertEntry (n : Bool) (p q : Int) (a1 a2 : Option Addr) (c1 c2 : Nat) (xs ys : List P2) (v k : Int) (w : World) (h1 : Sl w a1 xs) (h2 : Sl w a2 ys) (n1 : xs.length ≤ 2 ^ 40) (n2 : ys.length ≤ 2 ^ 40) :
    Calls Try.prog 121 #[.agg #[.bool n, .int .i64 p, .int .i64 q, .slice a1 xs.length c1, .slice a2 ys.length c2, .int .i64 v, .int .i64 k]] w fun e w' => e = .returned (.bool (entOk n p q xs ys v k)) ∧ Below w.heap.size w w' := by
  have H1 : Hid (Sl w a1 xs) := h1
  have H2 : Hid (Sl w a2 ys) := h2
  clear h1 h2
  obtain ⟨W, hW⟩ : ∃ W, W = w.alloc (.cells #[.bool n, .int .i64 p, .int .i64 q, .slice a1 xs.length c1, .slice a2 ys.length c2, .int .i64 v, .int .i64 k] 34) := ⟨_, rfl⟩
  have BW : Hid (Below w.heap.size w W) := by show Below _ _ _; rw [hW]; exact (Below.refl _ _).alloc (Nat.le_refl _) _
  have HW : Hid (W = _) := hW
  clear hW
  cases n with
  | false =>
    have E : Hid (entOk false p q xs ys v k = (reqOk p q && execOk xs ys v k && k != 3)) := rfl
    go_enter Try.func121, Try.ntmps121
    go_wp2_with fail
    rw [← HW.out]
    refine (implEntryOf _ _ _ _ _ _ _ W).mono ?_
    rintro e w1 ⟨rfl, b1⟩
    have B1 : Hid (Below w.heap.size w w1) := BW.out.trans (b1.mono BW.out.size)
    clear b1
    simp only [Bool.false_eq_true, if_false]
    go_wp2_with fail
    refine (implRunRight false p q a1 a2 c1 c2 xs ys v k w1 (H1.out.below B1.out) (H2.out.below B1.out) n1 n2).mono ?_
    rintro e w2 ⟨rfl, b2⟩
    have B2 : Hid (Below w.heap.size w w2) := B1.out.trans (b2.mono B1.out.size)
    clear b2
    rw [← E.out]
    generalize hr : entOk false p q xs ys v k = r
    have HR : Hid (_ = r) := hr
    clear hr
    go_wp2_with fail
    go_ret
    exact ⟨ret_bool HR.out.symm, B2.out⟩
  | true =>
    have E : Hid (entOk true p q xs ys v k = likeE true true (p, q) (0, 0) xs ys [] [] v k 0 0) := rfl
    go_enter Try.func121, Try.ntmps121
    go_wp2_with fail
    rw [← HW.out]
    refine (implEntryOf _ _ _ _ _ _ _ W).mono ?_
    rintro e w1 ⟨rfl, b1⟩
    have B1 : Hid (Below w.heap.size w w1) := BW.out.trans (b1.mono BW.out.size)
    clear b1
    simp only [if_true]
    go_wp2_with fail
    refine (implEmptyRight true p q a1 a2 c1 c2 xs ys v k w1 (H1.out.below B1.out) (H2.out.below B1.out) n1 n2).mono ?_
    rintro e w2 ⟨rfl, b2⟩
    have B2 : Hid (Below w.heap.size w w2) := B1.out.trans (b2.mono B1.out.size)
    clear b2
    rw [← E.out]
    generalize hr : entOk true p q xs ys v k = r
    have HR : Hid (_ = r) := hr
    clear hr
    go_wp2_with fail
    go_ret
    exact ⟨ret_bool HR.out.symm, B2.out⟩
end Go.Proofs.Ytbbbfnfpmaogoaa.Own

namespace Go.Proofs.Ytbbbfnfpmaogoaa.Own
open Go.RowKit
set_option linter.unusedVariables false
set_option linter.unusedSimpArgs false

set_option maxRecDepth 100000 in
set_option maxHeartbeats 1000000 in
theorem implSameVote (m m' : Int) (n n' : Bool) (p q p' q' : Int) (a1 a2 b1 b2 : Option Addr) (c1 c2 d1 d2 : Nat) (xs ys zs us : List P2) (v k v' k' : Int) (w : World) (h1 : Sl w a1 xs) (h2 : Sl w a2 ys) (h3 : Sl w b1 zs) (h4 : Sl w b2 us)
    (n1 : xs.length ≤ 2 ^ 40) (n2 : ys.length ≤ 2 ^ 40) (n3 : zs.length ≤ 2 ^ 40) (n4 : us.length ≤ 2 ^ 40) :
    Calls Try.prog 107 #[.agg #[.int .i64 m, .bool n, .int .i64 p, .int .i64 q, .slice a1 xs.length c1, .slice a2 ys.length c2, .int .i64 v, .int .i64 k], .agg #[.int .i64 m', .bool n', .int .i64 p', .int .i64 q', .slice b1 zs.length d1, .slice b2 us.length d2, .int .i64 v', .int .i64 k']] w fun e w' => e = .returned (.bool (sameV (m, ⟨n, p, q, xs, ys, v, k⟩) (m', ⟨n', p', q', zs, us, v', k'⟩))) ∧ Below w.heap.size w w' := by
  have H1 : Hid (Sl w a1 xs) := h1
  have H2 : Hid (Sl w a2 ys) := h2
  have H3 : Hid (Sl w b1 zs) := h3
  have H4 : Hid (Sl w b2 us) := h4
  clear h1 h2 h3 h4
  have E : Hid (sameV (m, ⟨n, p, q, xs, ys, v, k⟩) (m', ⟨n', p', q', zs, us, v', k'⟩) = (m == m' && likeE n n' (p, q) (p', q') xs ys zs us v k v' k')) := rfl
  generalize sameV (m, ⟨n, p, q, xs, ys, v, k⟩) (m', ⟨n', p', q', zs, us, v', k'⟩) = T at E ⊢
  obtain ⟨W, hW⟩ : ∃ W, W = (w.alloc (.cells #[.int .i64 m, .bool n, .int .i64 p, .int .i64 q, .slice a1 xs.length c1, .slice a2 ys.length c2, .int .i64 v, .int .i64 k] 86)).alloc (.cells #[.int .i64 m', .bool n', .int .i64 p', .int .i64 q', .slice b1 zs.length d1, .slice b2 us.length d2, .int .i64 v', .int .i64 k'] 86) := ⟨_, rfl⟩
  have BW : Hid (Below w.heap.size w W) := by
    show Below _ _ _
    rw [hW]; exact ((Below.refl _ _).alloc (Nat.le_refl _) _).alloc (by simp) _
  have HW : Hid (W = _) := hW
  clear hW
  cases hm : (m == m') with
  | false =>
    have F : Hid (T = false) := by show _ = _; rw [E.out, hm]; rfl
    clear E
    go_enter Try.func107, Try.ntmps107
    go_wp2_with fail
    go_ret
    exact ⟨ret_bool F.out.symm, by rw [← HW.out]; exact BW.out⟩
  | true =>
    have F : Hid (T = likeE n n' (p, q) (p', q') xs ys zs us v k v' k') := by show _ = _; rw [E.out, hm]; rfl
    clear E
    go_enter Try.func107, Try.ntmps107
    go_wp2_with fail
    rw [← HW.out]
    refine (implCertLike n n' p q p' q' a1 a2 b1 b2 c1 c2 d1 d2 xs ys zs us v k v' k' W (H1.out.below BW.out) (H2.out.below BW.out) (H3.out.below BW.out) (H4.out.below BW.out) n1 n2 n3 n4).mono ?_
    rintro e w1 ⟨rfl, b1'⟩
    have B1 : Hid (Below w.heap.size w w1) := BW.out.trans (b1'.mono BW.out.size)
    clear b1'
    generalize likeE n n' (p, q) (p', q') xs ys zs us v k v' k' = r at F ⊢
    go_wp2_with fail
    go_ret
    exact ⟨ret_bool F.out.symm, B1.out⟩

set_option maxRecDepth 100000 in
set_option maxHeartbeats 1000000 in
theorem implCast (m : Int) (n : Bool) (p q : Int) (a1 a2 : Option Addr) (c1 c2 : Nat) (xs ys : List P2) (v k : Int) (w : World) :
    Calls Try.prog 137 #[.agg #[.int .i64 m, .bool n, .int .i64 p, .int .i64 q, .slice a1 xs.length c1, .slice a2 ys.length c2, .int .i64 v, .int .i64 k]] w fun e w' => e = .returned (.bool (isBal m)) ∧ Below w.heap.size w w' := by
  obtain ⟨W, hW⟩ : ∃ W, W = w.alloc (.cells #[.int .i64 m, .bool n, .int .i64 p, .int .i64 q, .slice a1 xs.length c1, .slice a2 ys.length c2, .int .i64 v, .int .i64 k] 86) := ⟨_, rfl⟩
  have BW : Hid (Below w.heap.size w W) := by show Below _ _ _; rw [hW]; exact (Below.refl _ _).alloc (Nat.le_refl _) _
  have HW : Hid (W = _) := hW
  clear hW
  go_enter Try.func137, Try.ntmps137
  go_wp2_with fail
  rw [← HW.out]
  refine (implIsBallot m W).mono ?_
  rintro e w1 ⟨rfl, rfl⟩
  go_wp2_with fail
  go_ret
  exact ⟨rfl, BW.out⟩

set_option maxRecDepth 100000 in
set_option maxHeartbeats 2000000 in
theorem implBars (l m : Int) (n : Bool) (p q : Int) (a1 a2 : Option Addr) (c1 c2 : Nat) (xs ys : List P2) (v k : Int) (w : World) (h1 : Sl w a1 xs) (h2 : Sl w a2 ys) (n1 : xs.length ≤ 2 ^ 40) (n2 : ys.length ≤ 2 ^ 40) :
    Calls Try.prog 114 #[.int .i64 l, .agg #[.int .i64 m, .bool n, .int .i64 p, .int .i64 q, .slice a1 xs.length c1, .slice a2 ys.length c2, .int .i64 v, .int .i64 k]] w fun e w' => e = .returned (.bool (barsV l (m, ⟨n, p, q, xs, ys, v, k⟩))) ∧ Below w.heap.size w w' := by
  have H1 : Hid (Sl w a1 xs) := h1
  have H2 : Hid (Sl w a2 ys) := h2
  clear h1 h2
  have E : Hid (barsV l (m, ⟨n, p, q, xs, ys, v, k⟩) = if sameV (m, ⟨n, p, q, xs, ys, v, k⟩) (0, ⟨false, 0, 0, [], [], 0, 0⟩) then false else !isBal m || decide (m > l) || !entOk n p q xs ys v k) := rfl
  generalize barsV l (m, ⟨n, p, q, xs, ys, v, k⟩) = T at E ⊢
  obtain ⟨W, hW⟩ : ∃ W, W = w.alloc (.cells #[.int .i64 m, .bool n, .int .i64 p, .int .i64 q, .slice a1 xs.length c1, .slice a2 ys.length c2, .int .i64 v, .int .i64 k] 86) := ⟨_, rfl⟩
  have BW : Hid (Below w.heap.size w W) := by show Below _ _ _; rw [hW]; exact (Below.refl _ _).alloc (Nat.le_refl _) _
  have G0 : Hid (Blk W w.heap.size #[.int .i64 m, .bool n, .int .i64 p, .int .i64 q, .slice a1 xs.length c1, .slice a2 ys.length c2, .int .i64 v, .int .i64 k] 86) := by show Blk _ _ _ _; rw [hW]; exact Blk.new _ _ _
  have HW : Hid (W = _) := hW
  clear hW
  go_enter Try.func114, Try.ntmps114
  go_wp2_with fail
  rw [← HW.out]
  refine (implSameVote m 0 n false p q 0 0 a1 a2 none none c1 c2 0 0 xs ys [] [] v k 0 0 W (H1.out.below BW.out) (H2.out.below BW.out) (.inl rfl) (.inl rfl) n1 n2 (by simp) (by simp)).mono ?_
  rintro e w1 ⟨rfl, b1'⟩
  have B1 : Hid (Below w.heap.size w w1) := BW.out.trans (b1'.mono BW.out.size)
  have G1 : Hid (Blk w1 w.heap.size #[.int .i64 m, .bool n, .int .i64 p, .int .i64 q, .slice a1 xs.length c1, .slice a2 ys.length c2, .int .i64 v, .int .i64 k] 86) := G0.out.keep b1'
  obtain ⟨q0, q1, q2, q3, q4, q5, q6, q7⟩ := G1.out.cells8
  clear b1'
  generalize sameV (m, ⟨n, p, q, xs, ys, v, k⟩) (0, ⟨false, 0, 0, [], [], 0, 0⟩) = s at E ⊢
  cases s with
  | true =>
    have F : Hid (T = false) := by show _ = _; rw [E.out]; rfl
    clear E
    go_wp2_with fail
    go_ret
    exact ⟨ret_bool F.out.symm, B1.out⟩
  | false =>
    have E2 : Hid (T = (!isBal m || decide (m > l) || !entOk n p q xs ys v k)) := by show _ = _; rw [E.out]; rfl
    clear E
    go_wp2_with fail
    refine (implCast m n p q a1 a2 c1 c2 xs ys v k w1).mono ?_
    rintro e w2 ⟨rfl, b2⟩
    have B2 : Hid (Below w.heap.size w w2) := B1.out.trans (b2.mono B1.out.size)
    obtain ⟨p0, p1, p2, p3, p4, p5, p6, p7⟩ := (G1.out.keep b2).cells8
    clear b2 q0 q1 q2 q3 q4 q5 q6 q7
    generalize isBal m = r at E2 ⊢
    cases r with
    | false =>
      have F : Hid (T = true) := by show _ = _; rw [E2.out]; rfl
      clear E2
      go_wp2_with fail
      go_ret
      exact ⟨ret_bool F.out.symm, B2.out⟩
    | true =>
      by_cases hl : m > l
      · have F : Hid (T = true) := by show _ = _; rw [E2.out]; simp [hl]
        clear E2
        go_wp2_with fail
        go_ret
        exact ⟨ret_bool F.out.symm, B2.out⟩
      · have F : Hid (T = (decide (l < m) || !entOk n p q xs ys v k)) := by show _ = _; rw [E2.out]; simp
        clear E2
        go_wp2_with fail
        refine (implCertEntry n p q a1 a2 c1 c2 xs ys v k w2 (H1.out.below B2.out) (H2.out.below B2.out) n1 n2).mono ?_
        rintro e w3 ⟨rfl, b3⟩
        have B3 : Hid (Below w.heap.size w w3) := B2.out.trans (b3.mono B2.out.size)
        clear b3
        generalize entOk n p q xs ys v k = r3 at F ⊢
        go_wp2_with fail
        go_ret
        exact ⟨ret_bool F.out.symm, B3.out⟩
end Go.Proofs.Ytbbbfnfpmaogoaa.Own

namespace Go.Proofs.Ytbbbfnfpmaogoaa.Own
open Go.RowKit
set_option linter.unusedVariables false
set_option linter.unusedSimpArgs false

set_option maxRecDepth 100000 in
set_option maxHeartbeats 2000000 in
theorem indexBars (l : Int) (a : Option Addr) (c : Nat) (vs : List VM) (w : World) (h : SlV w a vs) (hn : vs.length ≤ 2 ^ 40) (hl : VLs vs) :
    Calls Try.prog 136 #[.slice a vs.length c, .func (.func 114) #[.int .i64 l] #[]] w fun e w' => (∃ z : Int, e = .returned (.int .i64 z) ∧ decide (0 ≤ z) = (bodies vs).any (barsV l)) ∧ Below w.heap.size w w' := by
  have HS : Hid (SlV w a vs) := h
  have HL : Hid (VLs vs) := hl
  clear h hl
  have E2 : Hid (∀ i, i < vs.length → barsV l (vs.getD i v0).body = true → (bodies vs).any (barsV l) = true) := fun i hi h => anyV_hit (0, e0) (i := i) (by rw [bodies_len]; exact hi) (by rw [bodies_getD]; exact h)
  have E3 : Hid ((∀ i, i < vs.length → barsV l (vs.getD i v0).body = false) → (bodies vs).any (barsV l) = false) := fun h2 => anyV_at (0, e0) (fun i hi => by rw [bodies_getD]; exact h2 i (by rw [bodies_len] at hi; exact hi))
  generalize (bodies vs).any (barsV l) = T at E2 E3 ⊢
  go_enter Try.func136, Try.ntmps136
  go_wp2_with fail
  go_loopw [8] (fun i wr => ∃ k : Nat, k ≤ vs.length ∧ i = .int .i64 k ∧ Hid (∀ j, j < k → barsV l (vs.getD j v0).body = false) ∧ Hid (Below w.heap.size w wr)) (fun i _ => vs.length - (intOf i).toNat)
  case atStart => exact ⟨0, Nat.zero_le _, rfl, fun j hj => by omega, Below.refl _ _⟩
  case round =>
    obtain ⟨k, hk, rfl, HA, KB⟩ := hrel
    by_cases hlt : k < vs.length
    · have hki : (k : Int) < (vs.length : Int) := by omega
      rcases HS.out.below KB.out with hh | ⟨b, off, rfl, _, hh⟩
      · rw [hh] at hlt; simp at hlt
      obtain ⟨⟨d0, d1, d2, d3, d4, d5, d6, d7⟩, s1, s2⟩ := hh k hlt
      have NX : Hid (∀ y, barsV l (vs.getD k v0).body = y → (y = true → T = true) ∧ (y = false → ∀ j, j < k + 1 → barsV l (vs.getD j v0).body = false)) := fun y hy => ⟨fun h => E2.out k hlt (by rw [hy, h]), fun h j hj => by
        by_cases e : j = k
        · subst e; rw [hy, h]
        · exact HA.out j (by omega)⟩
      have LX := HL.out k hlt
      have SX : Hid (Sl wr (vs.getD k v0).a1 (vs.getD k v0).b.xs ∧ Sl wr (vs.getD k v0).a2 (vs.getD k v0).b.ys) := ⟨s1, s2⟩
      clear hh s1 s2
      obtain ⟨x, hx⟩ : ∃ x, x = vs.getD k v0 := ⟨_, rfl⟩
      rw [← hx] at d0 d1 d2 d3 d4 d5 d6 d7 LX SX
      have NX2 : Hid (∀ y, barsV l x.body = y → (y = true → T = true) ∧ (y = false → ∀ j, j < k + 1 → barsV l (vs.getD j v0).body = false)) := fun y hy => NX.out y (by rw [← hx]; exact hy)
      clear NX hx
      obtain ⟨xbal, ⟨xn, xp, xq, xxs, xys, xv, xk⟩, xa1, xc1, xa2, xc2⟩ := x
      simp only [VM.body] at d0 d1 d2 d3 d4 d5 d6 d7 LX SX NX2
      go_wp2_with fail
      refine (implBars l xbal xn xp xq xa1 xa2 xc1 xc2 xxs xys xv xk wr SX.out.1 SX.out.2 LX.1 LX.2.1).mono ?_
      rintro e w1 ⟨rfl, hw⟩
      have B1 : Hid (Below w.heap.size w w1) := KB.out.trans (hw.mono KB.out.size)
      have N3 := NX2.out _ rfl
      clear hw NX2 d0 d1 d2 d3 d4 d5 d6 d7
      generalize barsV l (xbal, ⟨xn, xp, xq, xxs, xys, xv, xk⟩) = y at N3 ⊢
      cases y with
      | true =>
        have F : Hid (T = true) := N3.1 rfl
        clear N3
        go_wp2_with fail
        go_ret
        exact ⟨⟨(k : Int), rfl, by rw [F.out]; simp⟩, B1.out⟩
      | false =>
        have F : Hid (∀ j, j < k + 1 → barsV l (vs.getD j v0).body = false) := N3.2 rfl
        clear N3
        go_wp2_with fail
        go_roundw
        case rel => exact ⟨k + 1, by omega, by go_num, F.out, B1.out⟩
        case measure => simp [intOf]; omega
    · have hki : ¬ (k : Int) < (vs.length : Int) := by omega
      have F : Hid (T = false) := E3.out (fun i hi => HA.out i (by omega))
      go_wp2_with fail
      go_ret
      exact ⟨⟨-1, rfl, by rw [F.out]; decide⟩, KB.out⟩

set_option maxRecDepth 100000 in
set_option maxHeartbeats 1000000 in
theorem containsBars (l : Int) (a : Option Addr) (c : Nat) (vs : List VM) (w : World) (h : SlV w a vs) (hn : vs.length ≤ 2 ^ 40) (hl : VLs vs) :
    Calls Try.prog 113 #[.slice a vs.length c, .func (.func 114) #[.int .i64 l] #[]] w fun e w' => e = .returned (.bool ((bodies vs).any (barsV l))) ∧ Below w.heap.size w w' := by
  have HC : Hid _ := indexBars l a c vs w h hn hl
  clear h hl
  generalize (bodies vs).any (barsV l) = T at HC ⊢
  go_enter Try.func113, Try.ntmps113
  go_wp2_with fail
  refine Calls.mono HC.out ?_
  rintro e w1 ⟨⟨z, rfl, hz⟩, b1⟩
  have B1 : Hid (Below w.heap.size w w1) := b1
  have HZ : Hid (decide (0 ≤ z) = T) := hz
  clear b1 hz
  go_wp2_with fail
  go_ret
  exact ⟨ret_bool HZ.out, B1.out⟩

set_option maxRecDepth 100000 in
set_option maxHeartbeats 1000000 in
theorem implVotesOk (l : Int) (a : Option Addr) (c : Nat) (vs : List VM) (w : World) (h : SlV w a vs) (hn : vs.length ≤ 2 ^ 40) (hl : VLs vs) :
    Calls Try.prog 69 #[.slice a vs.length c, .int .i64 l] w fun e w' => e = .returned (.bool (votesUpto l (bodies vs))) ∧ Below w.heap.size w w' := by
  have E : Hid (votesUpto l (bodies vs) = (decide (vs.length ≤ 40) && !(bodies vs).any (barsV l))) := by show _ = _; unfold votesUpto; rw [bodies_len]
  have HC : Hid _ := containsBars l a c vs w h hn hl
  clear h hl
  generalize votesUpto l (bodies vs) = T at E ⊢
  generalize (bodies vs).any (barsV l) = U at E HC
  by_cases h40 : vs.length ≤ 40
  · have F : Hid (T = !U) := by show _ = _; rw [E.out]; simp [h40]
    have hd : decide ((vs.length : Int) ≤ 40) = true := decide_eq_true (by omega)
    have hmf : ∀ (fn : Fn) (first cap : Array Value) (w : World), (Instr.makeFunc fn first cap).run Try.prog w = .ok (.func fn first cap) w := fun _ _ _ _ => rfl
    clear E h40
    go_enter Try.func69, Try.ntmps69
    go_wp2_with fail
    refine Calls.mono HC.out ?_
    rintro e w1 ⟨rfl, b1⟩
    have B1 : Hid (Below w.heap.size w w1) := b1
    clear b1
    go_wp2_with fail
    go_ret
    exact ⟨ret_bool F.out.symm, B1.out⟩
  · have F : Hid (T = false) := by show _ = _; rw [E.out]; simp [h40]
    have hd : decide ((vs.length : Int) ≤ 40) = false := decide_eq_false (by omega)
    clear E h40
    go_enter Try.func69, Try.ntmps69
    go_wp2_with fail
    go_ret
    exact ⟨ret_bool F.out.symm, Below.refl _ _⟩
end Go.Proofs.Ytbbbfnfpmaogoaa.Own

namespace Go.Proofs.Ytbbbfnfpmaogoaa.Own
open Go.RowKit
set_option linter.unusedVariables false
set_option linter.unusedSimpArgs false

def bestAt (A B : List V) (i : Nat) : V := if i < B.length ∧ (A.getD i (0, e0)).1 < (B.getD i (0, e0)).1 then B.getD i (0, e0) else A.getD i (0, e0)
/-- So far the better vote stands at each of the first j places. -/
def BestTo (A B : List V) (j : Nat) (L : List VM) : Prop := L.length = max A.length B.length ∧ ∀ i, (L.getD i v0).body = if i < j then bestAt A B i else A.getD i (0, e0)
theorem BestTo.step {A B : List V} {j : Nat} {L : List VM} (h : BestTo A B j L) (hj : j < B.length) {y : VM} (hy : y.body = B.getD j (0, e0)) (hlt : (A.getD j (0, e0)).1 < (B.getD j (0, e0)).1) : BestTo A B (j + 1) (L.set j y) := by
  refine ⟨by rw [List.length_set]; exact h.1, fun i => ?_⟩
  rw [getD_setV _ _ _ _ (by rw [h.1]; omega)]
  by_cases e : j = i
  · subst e
    rw [if_pos rfl, if_pos (by omega), hy]
    unfold bestAt
    rw [if_pos ⟨hj, hlt⟩]
  · rw [if_neg e, h.2 i]
    by_cases e2 : i < j
    · rw [if_pos e2, if_pos (by omega)]
    · rw [if_neg e2, if_neg (by omega)]
theorem BestTo.stay {A B : List V} {j : Nat} {L : List VM} (h : BestTo A B j L) (hlt : ¬ (A.getD j (0, e0)).1 < (B.getD j (0, e0)).1) : BestTo A B (j + 1) L := by
  refine ⟨h.1, fun i => ?_⟩
  rw [h.2 i]
  by_cases e : i < j
  · rw [if_pos e, if_pos (by omega)]
  · rw [if_neg e]
    by_cases e2 : i < j + 1
    · obtain rfl : i = j := by omega
      rw [if_pos e2]
      unfold bestAt
      rw [if_neg (fun h => hlt h.2)]
    · rw [if_neg e2]
theorem padV_getD (us : List VM) (k i : Nat) : (padV us k).getD i v0 = us.getD i v0 := by
  unfold padV
  by_cases h : i < us.length
  · simp [List.getD, List.getElem?_append_left h]
  · simp only [List.getD, List.getElem?_append_right (Nat.le_of_not_lt h), List.getElem?_replicate, List.getElem?_eq_none (Nat.le_of_not_lt h)]
    split <;> rfl
theorem BestTo.start (vs us : List VM) (B : List V) (he : bodies us = bodies vs) : BestTo (bodies vs) B 0 (padV us (B.length - us.length)) := by
  have hl := (bodies_eq he).1
  refine ⟨by rw [padV_len, bodies_len]; omega, fun i => ?_⟩
  rw [if_neg (by omega), padV_getD, ← he, bodies_getD]

/-- What impl.AccBest leaves of right votes: a list of one's own. -/
def BestPost (w0 w : World) (v : Value) (A B : List V) : Prop := ∃ (a : Option Addr) (n cap : Nat) (L : List VM), v = .slice a n cap ∧ L.length = n ∧ BestTo A B B.length L ∧ (0 < n → ∃ g, a = some ⟨g, 0, none⟩ ∧ OwnVs w w0.heap.size g L ∧ Sep g L) ∧ Below w0.heap.size w0 w

set_option maxRecDepth 100000 in
set_option maxHeartbeats 2000000 in
theorem implAccBest (a b : Option Addr) (c d : Nat) (vs us : List VM) (w : World) (h1 : SlV w a vs) (h2 : SlV w b us) (l1 : VLs vs) (l2 : VLs us) (n1 : vs.length ≤ 2 ^ 30) (n2 : us.length ≤ 2 ^ 30) :
    Calls Try.prog 37 #[.slice a vs.length c, .slice b us.length d] w fun e w' => ∃ v, e = .returned v ∧ (if votesUpto 3000 (bodies vs) && votesUpto 3000 (bodies us) then BestPost w w' v (bodies vs) (bodies us) else v = .slice none 0 0 ∧ Below w.heap.size w w') := by
  have H1 : Hid (SlV w a vs) := h1
  have H2 : Hid (SlV w b us) := h2
  have L1 : Hid (VLs vs) := l1
  have L2 : Hid (VLs us) := l2
  clear h1 h2 l1 l2
  generalize hk1 : votesUpto 3000 (bodies vs) = K1
  generalize hk2 : votesUpto 3000 (bodies us) = K2
  have HK1 : Hid (votesUpto 3000 (bodies vs) = K1) := hk1
  have HK2 : Hid (votesUpto 3000 (bodies us) = K2) := hk2
  clear hk1 hk2
  go_enter Try.func37, Try.ntmps37
  go_wp2_with fail
  refine (implVotesOk 3000 a c vs w H1.out (by omega) L1.out).mono ?_
  rintro e w1 ⟨rfl, b1⟩
  rw [HK1.out]
  have B1 : Hid (Below w.heap.size w w1) := b1
  clear b1
  cases K1 with
  | false =>
    go_wp2_with fail
    go_ret
    exact ⟨_, rfl, rfl, B1.out⟩
  | true =>
    go_wp2_with fail
    refine (implVotesOk 3000 b d us w1 (H2.out.below B1.out) (by omega) L2.out).mono ?_
    rintro e w2 ⟨rfl, b2⟩
    rw [HK2.out]
    have B2 : Hid (Below w.heap.size w w2) := B1.out.trans (b2.mono B1.out.size)
    clear b2
    cases K2 with
    | false =>
      go_wp2_with fail
      go_ret
      exact ⟨_, rfl, rfl, B2.out⟩
    | true =>
      go_wp2_with fail
      refine (listCopied a c vs w2 (H1.out.below B2.out) L1.out n1).mono ?_
      rintro e w3 ⟨v3, xs, rfl, o3, hbd, b3⟩
      have O3 : Hid (OwnL w3 w2.heap.size v3 xs) := o3
      have EB : Hid (bodies xs = bodies vs) := hbd
      have B3 : Hid (Below w2.heap.size w2 w3) := b3
      have hxl := (bodies_eq hbd).1
      clear o3 hbd b3
      go_wp2_with fail
      refine (listGrown v3 xs us.length w3 w2.heap.size O3.out B3.out.size (by omega) n2).mono ?_
      rintro e w4 ⟨v4, rfl, o4, b4⟩
      have ST : Hid (BestTo (bodies vs) (bodies us) 0 (padV xs ((bodies us).length - xs.length))) := BestTo.start vs xs (bodies us) EB.out
      have O4 : Hid (OwnL w4 w.heap.size v4 (padV xs ((bodies us).length - xs.length))) := by
        show OwnL _ _ _ _
        rw [bodies_len]
        exact ⟨⟨o4.row.1, by
          rcases o4.row.2 with h | ⟨g, cap, cur, hv, hg, r⟩
          · exact .inl h
          · exact .inr ⟨g, cap, cur, hv, Nat.le_trans B2.out.size hg, r⟩⟩, fun i hi => (o4.one i hi).weaken B2.out.size, o4.out, o4.all⟩
      have B4 : Hid (Below w.heap.size w w4) := B2.out.trans ((B3.out.trans b4).mono B2.out.size)
      clear o4 b4
      obtain ⟨P, hP⟩ : ∃ P, P = padV xs ((bodies us).length - xs.length) := ⟨_, rfl⟩
      rw [← hP] at ST O4
      clear hP hxl
      obtain ⟨a4, c4, rfl⟩ := O4.out.form
      have PN : Hid (0 < P.length → ∃ g, a4 = some ⟨g, 0, none⟩ ∧ OwnVs w4 w.heap.size g P ∧ Sep g P) := fun h => by
        obtain ⟨g, cap, hv, _, ho, hs⟩ := O4.out.vs (List.length_pos_iff.1 h)
        injection hv with e1
        exact ⟨g, e1, ho, hs⟩
      obtain ⟨n, hn⟩ : ∃ n, n = P.length := ⟨_, rfl⟩
      rw [← hn] at PN ⊢
      have HN : Hid (P.length = n) := hn.symm
      have un : us.length ≤ n := by rw [hn, ST.out.1, bodies_len, bodies_len]; omega
      clear hn
      go_wp2_with fail
      go_loopw [23] (fun i wr => ∃ (j : Nat) (L : List VM), j ≤ us.length ∧ i = .int .i64 j ∧ Hid (L.length = n) ∧ Hid (BestTo (bodies vs) (bodies us) j L) ∧ Hid (0 < n → ∃ g, a4 = some ⟨g, 0, none⟩ ∧ OwnVs wr w.heap.size g L ∧ Sep g L) ∧ Hid (Below w.heap.size w wr)) (fun i _ => us.length - (intOf i).toNat)
      case atStart => exact ⟨0, P, Nat.zero_le _, rfl, HN.out, ST.out, PN.out, B4.out⟩
      case round =>
        obtain ⟨j, L, hj, rfl, LN, LB, LO, LW⟩ := hrel
        by_cases hlt : j < us.length
        · have hji : (j : Int) < (us.length : Int) := by omega
          obtain ⟨x, hx⟩ : ∃ x, x = us.getD j v0 := ⟨_, rfl⟩
          rcases H2.out with h0 | ⟨b', off, rfl, hat⟩
          · rw [h0] at hlt; simp at hlt
          obtain ⟨c8, s1, s2⟩ := (hat.below LW.out).2 j hlt
          have VX := L2.out j hlt
          rw [← hx] at c8 s1 s2 VX
          obtain ⟨q0, q1, q2, q3, q4, q5, q6, q7⟩ := c8
          have S1 : Hid (Sl wr x.a1 x.b.xs) := s1
          have S2 : Hid (Sl wr x.a2 x.b.ys) := s2
          have HXB : Hid (x.body = (bodies us).getD j (0, e0)) := by show _ = _; rw [bodies_getD, hx]
          clear hat s1 s2 hx
          have hjn : j < n := by omega
          obtain ⟨g, ha4, OW0, SE0⟩ := LO.out (by omega)
          subst ha4
          have OW : Hid (OwnVs wr w.heap.size g L) := OW0
          have SE : Hid (Sep g L) := SE0
          have hjL : j < L.length := by rw [LN.out]; exact hjn
          obtain ⟨z, hz⟩ : ∃ z, z = (L.getD j v0).bal := ⟨_, rfl⟩
          have HZ : Hid (z = (L.getD j v0).bal) := hz
          have AB : Hid (z = ((bodies vs).getD j (0, e0)).1) := by
            have := LB.out.2 j
            rw [if_neg (by omega)] at this
            show _ = _
            rw [← this, hz]; rfl
          clear hz OW0 SE0 LO
          go_upto_region 7 with fail
          obtain ⟨X, hX⟩ : ∃ X, X = wr.alloc (.cells #[.int .i64 x.bal, .bool x.b.n, .int .i64 x.b.p, .int .i64 x.b.q, .slice x.a1 x.b.xs.length x.c1, .slice x.a2 x.b.ys.length x.c2, .int .i64 x.b.v, .int .i64 x.b.k] 86) := ⟨_, rfl⟩
          rw [← hX]
          have GX : Hid (Blk X wr.heap.size x.cells 86) := by show Blk _ _ _ _; rw [hX]; exact Blk.new _ _ _
          have BX : Hid (Below wr.heap.size wr X) := by show Below _ _ _; rw [hX]; exact (Below.refl _ _).alloc (Nat.le_refl _) _
          clear hX q0 q1 q2 q3 q4 q5 q6 q7
          obtain ⟨q0, q1, q2, q3, q4, q5, q6, q7⟩ := Blk.cells8 GX.out
          have d0 : X.cell? ⟨g, j * 8, none⟩ = some (.int .i64 z) := by
            rw [HZ.out, BX.out.cell (p := ⟨g, j * 8, none⟩) OW.out.lt]; exact (OW.out.cell j hjL).1
          have hX : Hid (X = X) := rfl
          go_cut [35] from 28 to 35 (fun p wx => p = .bool (decide (z < x.bal)) ∧ wx = X.drew)
          case first =>
            go_region
            all_goals
              go_wp2_with fail
              go_meet
              exact ⟨rfl, rfl⟩
          case rest =>
            obtain ⟨rfl, rfl⟩ := hcut
            have hgb := OW.out.lt
            have BD : Hid (Below wr.heap.size wr X.drew) := BX.out.drew
            have GD : Hid (Blk X.drew wr.heap.size x.cells 86) := GX.out
            have WD : Hid (Below w.heap.size w X.drew) := LW.out.trans (BD.out.mono LW.out.size)
            clear q0 q1 q2 q3 q4 q5 q6 q7 d0 hX GX BX
            obtain ⟨q0, q1, q2, q3, q4, q5, q6, q7⟩ := Blk.cells8 GD.out
            by_cases hgt : z < x.bal
            · have hd : decide (z < x.bal) = true := by simpa using hgt
              rw [hd]
              go_wp2_with fail
              refine (voteCopied x X.drew (S1.out.below BD.out) (S2.out.below BD.out) VX.1 VX.2.1).mono ?_
              rintro e w5 ⟨y, rfl, hyb, hy, b5⟩
              have BW5 : Hid (Below wr.heap.size wr w5) := BD.out.trans (b5.mono BD.out.size)
              have Y5 : Hid (OneOwn w5 wr.heap.size y) := hy.weaken BD.out.size
              have YB : Hid (y.body = (bodies us).getD j (0, e0)) := hyb.trans HXB.out
              have Z := OW.out.put SE.out BW5.out Y5.out LW.out.size j hjL
              have ZH : Hid (OwnVs (set8 w5 g (j * 8) y) w.heap.size g (L.set j y) ∧ Sep g (L.set j y)) := Z
              have NB : Hid (BestTo (bodies vs) (bodies us) (j + 1) (L.set j y)) := LB.out.step (by rw [bodies_len]; exact hlt) YB.out (by rw [← AB.out, ← HXB.out]; exact hgt)
              have SB : Hid (Below w.heap.size w (set8 w5 g (j * 8) y)) := set8_below (LW.out.trans (BW5.out.mono LW.out.size)) OW.out.lo _ _
              have LS : Hid ((L.set j y).length = n) := by show _ = _; rw [List.length_set]; exact LN.out
              clear hyb hy b5 Z q0 q1 q2 q3 q4 q5 q6 q7 hd
              simp only [VM.cells]
              obtain ⟨c0, c1, c2, c3, c4', c5, c6, c7⟩ : C8 w5 g (j * 8) (L.getD j v0) := (OW.out.cell j hjL).congr fun l hl => BW5.out.cell (p := ⟨g, j * 8 + l, none⟩) hgb
              have fr : ∀ o, w5.frozen? ⟨g, o, none⟩ = false := fun o => by rw [BW5.out.frozen (p := ⟨g, o, none⟩) hgb]; exact OW.out.fr o
              go_wp2_with fail
              refine ⟨⟨j + 1, L.set j y, by omega, by go_num, LS.out, NB.out, fun _ => ⟨g, rfl, ZH.out.1, ZH.out.2⟩, SB.out⟩, by simp only [intOf]; omega⟩
            · have hd : decide (z < x.bal) = false := by simpa using hgt
              rw [hd]
              have NB : Hid (BestTo (bodies vs) (bodies us) (j + 1) L) := LB.out.stay (by rw [← AB.out, ← HXB.out]; exact hgt)
              go_wp2_with fail
              refine ⟨⟨j + 1, L, by omega, by go_num, LN.out, NB.out, fun _ => ⟨g, rfl, ?_, SE.out⟩, WD.out⟩, by simp only [intOf]; omega⟩
              exact ⟨Nat.lt_of_lt_of_le hgb BD.out.size, OW.out.lo, fun o => by rw [BD.out.frozen (p := ⟨g, o, none⟩) hgb]; exact OW.out.fr o, fun i hi => (OW.out.cell i hi).congr fun l hl => BD.out.cell (p := ⟨g, i * 8 + l, none⟩) hgb, fun i hi => ⟨(OW.out.own i hi).1.below BD.out, (OW.out.own i hi).2.below BD.out⟩⟩
        · have hji : ¬ (j : Int) < (us.length : Int) := by omega
          obtain rfl : j = us.length := by omega
          go_wp2_with fail
          go_ret
          exact ⟨_, rfl, a4, n, c4, L, rfl, LN.out, by rw [bodies_len]; exact LB.out, LO.out, LW.out⟩
end Go.Proofs.Ytbbbfnfpmaogoaa.Own
