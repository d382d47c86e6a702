/-
  Own texts, bundled: ExecOkI2, EntOkI, BalB, AccMath, EntOkC, SameVote, VotesI, BestI, MarkVoteS, HeldVoteS, MarkVote0, EntOps, EqVote.
-/
import Derived.Test.YtfifiobcmdmefaaPk3
import Derived.Test.YtfifiobcmdmefaaPk6
import Derived.Test.YtfifiobcmdmefaaPk1
import Derived.Test.YtfifiobcmdmefaaPk2
import Derived.Deep.Cut
import Derived.Deep.CutRange
import Derived.BigQuiet
import Derived.Lib.QuietBelow
namespace Go.Proofs.Ytfifiobcmdmefaa.Own
open Go.RowKit
set_option linter.unusedVariables false
set_option linter.unusedSimpArgs false

set_option maxRecDepth 100000 in
set_option maxHeartbeats 1000000 in
theorem putsOkC (a : Option Addr) (c : Nat) (xs : List P2) (w : World) (h : Sl w a xs) (hn : xs.length ≤ 2 ^ 40) :
    Calls Try.prog 212 #[.slice a xs.length c] w fun e w' => e = .returned (.bool (okAll numOk xs)) ∧ Below w.heap.size w w' := by
  have H1 : Hid (Sl w a xs) := h
  clear h
  go_enter Try.func212, Try.ntmps212
  go_wp2
  go_loopw [8] (fun i wr => ∃ k : Nat, k ≤ xs.length ∧ i = .int .i64 k ∧ Hid (∀ i, i < k → okAt numOk xs i = true) ∧ MarksAt wr w.heap.size 0 (seen xs k) ∧ Below w.heap.size w wr) (fun i _ => xs.length - (intOf i).toNat)
  case atStart => exact ⟨0, Nat.zero_le _, rfl, fun i hi => by omega, (marks_new w _).congr fun j _ => (seen_zero xs j).symm, (Below.refl _ _).alloc (Nat.le_refl _) _⟩
  case round =>
    obtain ⟨k, hk, rfl, hA, hM, hB⟩ := hrel
    by_cases hlt : k < xs.length
    · rcases H1.out with h | ⟨b1, o1, rfl, h1⟩
      · subst h; simp at hlt
      have H1' : Hid (BoxAt w b1 o1 xs) := h1
      clear h1
      obtain ⟨p, hp⟩ : ∃ p, p = xs.getD k (0, 0) := ⟨_, rfl⟩
      obtain ⟨ca, cb⟩ := H1'.out.2 k hlt
      rw [← hB.cell H1'.out.1, ← hp] at ca cb
      have HP : Hid (p = xs.getD k (0, 0)) := hp
      have HB : Hid (Below w.heap.size w wr) := hB
      have HM : Hid (MarksAt wr w.heap.size 0 (seen xs k)) := hM
      clear hp hB hM
      obtain ⟨p1, p2⟩ := p
      have F : Hid (okAt numOk xs k = false → okAll numOk xs = false) := fun t => okAll_false hlt t
      have HBa : ∀ o, Hid (Below w.heap.size w (wr.alloc o)) := fun o => HB.out.alloc HB.out.size _
      cases hr : regOk p1 with
      | false =>
        have F' : Hid (okAll numOk xs = false) := F.out (by unfold okAt; rw [← HP.out]; simp only [hr, Bool.false_and])
        have HR : Hid (regOk p1 = false) := hr
        clear F hr
        go_wp2_with fail
        refine (firstNone _ p1 _ HR.out).mono ?_
        rintro e w1 ⟨rfl, rfl⟩
        go_wp2
        go_ret
        exact ⟨ret_bool F'.out.symm, (HBa _).out⟩
      | true =>
        obtain ⟨j, hj, rfl⟩ := regOk_nat hr
        clear hr
        have HJ : Hid ((xs.getD k (0, 0)).1 = (j : Int)) := by show _ = _; rw [← HP.out]
        have HS : Hid (okAt numOk xs k = (regOk (j : Int) && numOk p2 && !seen xs k j)) := by
          show _ = _
          rw [okAt_seen numOk xs k j HJ.out, ← HP.out]
        cases hs : seen xs k j with
        | true =>
          have F' : Hid (okAll numOk xs = false) := F.out (by rw [HS.out, hs]; simp)
          have hc : Hid (∀ o, (wr.alloc o).cell? ⟨w.heap.size, 0 + j, none⟩ = some (.bool true)) := fun o => by
            have := (HM.out.alloc o).2.1 j hj
            rw [hs] at this; exact this
          clear F hs
          go_wp2_with fail
          refine (firstTwice w.heap.size 0 j _ hj (hc.out _)).mono ?_
          rintro e w1 ⟨rfl, rfl⟩
          go_wp2
          go_ret
          exact ⟨ret_bool F'.out.symm, (HBa _).out⟩
        | false =>
          have hc : Hid (∀ o, (wr.alloc o).cell? ⟨w.heap.size, 0 + j, none⟩ = some (.bool false) ∧ (wr.alloc o).frozen? ⟨w.heap.size, 0 + j, none⟩ = false) := fun o => by
            have := (HM.out.alloc o).2.1 j hj
            rw [hs] at this; exact ⟨this, (HM.out.alloc o).2.2 _⟩
          have HS' : Hid (seen xs k j = false) := hs
          clear hs
          have AF : Hid (∀ w1, w1 = (wr.alloc (.cells #[.int .i64 (j : Int), .int .i64 p2] 143)).setCell ⟨w.heap.size, 0 + j, none⟩ (.bool true) → w1.cell? ⟨wr.heap.size, 1, none⟩ = some (.int .i64 p2) ∧ Hid (MarksAt w1 w.heap.size 0 (seen xs (k + 1))) ∧ Hid (Below w.heap.size w w1)) := by
            intro w1 hw
            have hsz : w.heap.size < wr.heap.size := HM.out.1
            refine ⟨?_, ?_, ?_⟩
            · rw [hw, World.cell?_setCell_other _ _ _ _ (by intro e; injection e with e1; omega), cell_heap (heap_new _ _)]; rfl
            · rw [hw]; exact ((HM.out.alloc _).set j hj).congr fun i hi => (seen_step hlt HJ.out i).symm
            · rw [hw]; exact (HBa _).out.setCell (Nat.le_refl _) _
          cases t1 : numOk p2 with
          | false =>
            have F' : Hid (okAll numOk xs = false) := F.out (by rw [HS.out, t1]; simp)
            clear F
            go_wp2_with fail
            refine (firstYes w.heap.size 0 j _ hj (hc.out _).1 (hc.out _).2).mono ?_
            rintro e w1 ⟨rfl, hw⟩
            obtain ⟨c1, M1, B1⟩ := AF.out w1 hw
            clear hw AF
            go_wp2_with fail
            refine (isNumberC p2 _).mono ?_
            rintro e w2 ⟨rfl, rfl⟩
            rw [t1]
            go_wp2
            go_ret
            exact ⟨ret_bool F'.out.symm, B1.out⟩
          | true =>
            have N : Hid (∀ i, i < k + 1 → okAt numOk xs i = true) := by
              intro i hi
              by_cases e : i = k
              · subst e
                rw [HS.out, HS'.out, regOk_of j hj, t1]; rfl
              · exact hA.out i (by omega)
            clear F
            go_wp2_with fail
            refine (firstYes w.heap.size 0 j _ hj (hc.out _).1 (hc.out _).2).mono ?_
            rintro e w1 ⟨rfl, hw⟩
            obtain ⟨c1, M1, B1⟩ := AF.out w1 hw
            clear hw AF
            go_wp2_with fail
            refine (isNumberC p2 _).mono ?_
            rintro e w2 ⟨rfl, rfl⟩
            rw [t1]
            go_wp2
            go_roundw
            case rel => exact ⟨k + 1, by omega, by go_num, N, M1.out, B1.out⟩
            case measure => simp [intOf]; omega
    · go_wp2
      go_ret
      have : k = xs.length := by omega
      subst this
      exact ⟨ret_bool (okAll_iff.2 hA.out).symm, hB⟩

set_option maxRecDepth 100000 in
set_option maxHeartbeats 1000000 in
theorem endOkC (a1 a2 : Option Addr) (n1 c1 n2 c2 : Nat) (v k : Int) (w : World) :
    Calls Try.prog 196 #[.agg #[.slice a1 n1 c1, .slice a2 n2 c2, .int .i64 v, .int .i64 k]] w fun e w' => e = .returned (.bool (endOk k v n1 n2)) ∧ Below w.heap.size w w' := by
  by_cases h0 : k = 0
  · subst h0
    rw [endOk_0]
    go_enter Try.func196, Try.ntmps196
    go_wp2_with fail
    refine (isNumberC v _).mono ?_
    rintro e w2 ⟨rfl, rfl⟩
    go_wp2
    go_ret
    exact ⟨rfl, (Below.refl _ _).alloc (Nat.le_refl _) _⟩
  by_cases h1 : k = 1
  · subst h1
    rw [endOk_1]
    cases hv : (v == 0) with
    | false =>
      go_enter Try.func196, Try.ntmps196
      go_wp2
      go_ret
      exact ⟨rfl, (Below.refl _ _).alloc (Nat.le_refl _) _⟩
    | true =>
      have E : Hid (decide (n2 = 0) = ((n2 : Int) == 0)) := by show _ = _; rw [Bool.eq_iff_iff]; simp
      go_enter Try.func196, Try.ntmps196
      go_wp2
      go_ret
      exact ⟨ret_bool (by rw [E.out]; simp), (Below.refl _ _).alloc (Nat.le_refl _) _⟩
  by_cases h2 : k = 2
  · subst h2
    rw [endOk_2]
    cases hv : (v == 0) with
    | false =>
      go_enter Try.func196, Try.ntmps196
      go_wp2
      go_ret
      exact ⟨rfl, (Below.refl _ _).alloc (Nat.le_refl _) _⟩
    | true =>
      have E : Hid (decide (n2 = 0) = ((n2 : Int) == 0)) := by show _ = _; rw [Bool.eq_iff_iff]; simp
      go_enter Try.func196, Try.ntmps196
      go_wp2
      go_ret
      exact ⟨ret_bool (by rw [E.out]; simp), (Below.refl _ _).alloc (Nat.le_refl _) _⟩
  by_cases h3 : k = 3
  · subst h3
    rw [endOk_3]
    cases hv : (v == 0) with
    | false =>
      go_enter Try.func196, Try.ntmps196
      go_wp2
      go_ret
      exact ⟨rfl, (Below.refl _ _).alloc (Nat.le_refl _) _⟩
    | true =>
      have E : Hid (decide (n2 = 0) = ((n2 : Int) == 0)) := by show _ = _; rw [Bool.eq_iff_iff]; simp
      have E1 : Hid (decide (n1 = 0) = ((n1 : Int) == 0)) := by show _ = _; rw [Bool.eq_iff_iff]; simp
      cases hn : ((n2 : Int) == 0) with
      | false =>
        go_enter Try.func196, Try.ntmps196
        go_wp2
        go_ret
        exact ⟨ret_bool (by rw [E.out, hn]; simp), (Below.refl _ _).alloc (Nat.le_refl _) _⟩
      | true =>
        go_enter Try.func196, Try.ntmps196
        go_wp2
        go_ret
        exact ⟨ret_bool (by rw [E.out, E1.out, hn]; simp), (Below.refl _ _).alloc (Nat.le_refl _) _⟩
  rw [endOk_no v n1 n2 ⟨h0, h1, h2, h3⟩]
  have e0 : (k == 0) = false := by simpa using h0
  have e1 : (k == 1) = false := by simpa using h1
  have e2 : (k == 2) = false := by simpa using h2
  have e3 : (k == 3) = false := by simpa using h3
  clear h0 h1 h2 h3
  go_enter Try.func196, Try.ntmps196
  go_wp2
  go_ret
  exact ⟨rfl, (Below.refl _ _).alloc (Nat.le_refl _) _⟩

set_option maxRecDepth 100000 in
set_option maxHeartbeats 1000000 in
theorem implExecOk (a1 a2 : Option Addr) (c1 c2 : Nat) (xs ys : List P2) (v k : Int) (w : World) (h1 : Sl w a1 xs) (h2 : Sl w a2 ys) (hn1 : xs.length ≤ 2 ^ 40) (hn2 : ys.length ≤ 2 ^ 40) :
    Calls Try.prog 210 #[.agg #[.slice a1 xs.length c1, .slice a2 ys.length c2, .int .i64 v, .int .i64 k]] w fun e w' => e = .returned (.bool (execOk xs ys v k)) ∧ Below w.heap.size w w' := by
  have H1 : Hid (Sl w a1 xs) := h1
  have H2 : Hid (Sl w a2 ys) := h2
  clear h1 h2
  have E : Hid (execOk xs ys v k = (endOk k v xs.length ys.length && okAll verOk xs && okAll numOk ys)) := rfl
  have CE := fun W => endOkC a1 a2 xs.length c1 ys.length c2 v k W
  generalize endOk k v xs.length ys.length = r at E CE
  have CE' : Hid (∀ W, Calls Try.prog 196 #[.agg #[.slice a1 xs.length c1, .slice a2 ys.length c2, .int .i64 v, .int .i64 k]] W fun e w' => e = .returned (.bool r) ∧ Below W.heap.size W w') := CE
  clear CE
  have B0 : ∀ o, Hid (Below w.heap.size w (w.alloc o)) := fun o => (Below.refl _ _).alloc (Nat.le_refl _) _
  cases r with
  | false =>
    go_enter Try.func210, Try.ntmps210
    go_wp2_with fail
    refine (CE'.out _).mono ?_
    rintro e w1 ⟨rfl, b1⟩
    have B1 : Hid (Below w.heap.size w w1) := (B0 _).out.trans (b1.mono (B0 _).out.size)
    clear b1
    go_wp2
    go_ret
    exact ⟨ret_bool (by rw [E.out]; rfl), B1.out⟩
  | true =>
    go_enter Try.func210, Try.ntmps210
    go_wp2_with fail
    refine (CE'.out _).mono ?_
    rintro e w1 ⟨rfl, b1⟩
    have B1 : Hid (Below w.heap.size w w1) := (B0 _).out.trans (b1.mono (B0 _).out.size)
    have C1 : Hid (∀ o, w1.cell? ⟨w.heap.size, o, none⟩ = (#[.slice a1 xs.length c1, .slice a2 ys.length c2, .int .i64 v, .int .i64 k] : Array Value)[o]?) := fun o => by
      rw [b1.cell (p := ⟨w.heap.size, o, none⟩) (by show w.heap.size < _; rw [size_new]; omega), cell_heap (heap_new _ _)]
    have S1 : Hid (w.heap.size < w1.heap.size) := by show _ < _; have := b1.size; rw [size_new] at this; omega
    have q0 : w1.cell? ⟨w.heap.size, 0, none⟩ = some (.slice a1 xs.length c1) := C1.out 0
    clear b1
    have RC := fun W h => readsOkC a1 c1 xs W h hn1
    generalize okAll verOk xs = r2 at E RC
    have RC' : Hid (∀ W, Sl W a1 xs → Calls Try.prog 211 #[.slice a1 xs.length c1] W fun e w' => e = .returned (.bool r2) ∧ Below W.heap.size W w') := RC
    clear RC
    cases r2 with
    | false =>
      go_wp2_with fail
      refine (RC'.out _ (H1.out.below B1.out)).mono ?_
      rintro e w2 ⟨rfl, b2⟩
      have B2 : Hid (Below w.heap.size w w2) := B1.out.trans (b2.mono B1.out.size)
      clear b2
      go_wp2
      go_ret
      exact ⟨ret_bool (by rw [E.out]; rfl), B2.out⟩
    | true =>
      go_wp2_with fail
      refine (RC'.out _ (H1.out.below B1.out)).mono ?_
      rintro e w2 ⟨rfl, b2⟩
      have B2 : Hid (Below w.heap.size w w2) := B1.out.trans (b2.mono B1.out.size)
      have q1 : w2.cell? ⟨w.heap.size, 1, none⟩ = some (.slice a2 ys.length c2) := by rw [b2.cell (p := ⟨w.heap.size, 1, none⟩) S1.out]; exact C1.out 1
      clear b2 q0
      go_wp2_with fail
      refine (putsOkC a2 c2 ys _ (H2.out.below B2.out) hn2).mono ?_
      rintro e w3 ⟨rfl, b3⟩
      have B3 : Hid (Below w.heap.size w w3) := B2.out.trans (b3.mono B2.out.size)
      clear b3
      generalize okAll numOk ys = r3 at E
      go_wp2
      go_ret
      exact ⟨ret_bool (by rw [E.out]; rfl), B3.out⟩
end Go.Proofs.Ytfifiobcmdmefaa.Own

namespace Go.Proofs.Ytfifiobcmdmefaa.Own
open Go.RowKit
set_option linter.unusedVariables false
set_option linter.unusedSimpArgs false

/-- A request is right. -/
def reqOk (p q : Int) : Bool := decide (0 ≤ p) && decide (p < 3) && decide (1 ≤ q) && decide (q ≤ 1000)
/-- An entry is right. -/
def entOk (n : Bool) (p q : Int) (xs ys : List P2) (v k : Int) : Bool := if n then likeE n true (p, q) (0, 0) xs ys [] [] v k 0 0 else reqOk p q && execOk xs ys v k && k != 3

theorem implReqOk (p q : Int) (w : World) : Calls Try.prog 195 #[.agg #[.int .i64 p, .int .i64 q]] w fun e w' => e = .returned (.bool (reqOk p q)) ∧ Below w.heap.size w w' := by
  have R : Hid (reqOk p q = (decide (0 ≤ p) && decide (p < 3) && decide (1 ≤ q) && decide (q ≤ 1000))) := rfl
  have B0 : ∀ o, Hid (Below w.heap.size w (w.alloc o)) := fun o => (Below.refl _ _).alloc (Nat.le_refl _) _
  cases h1 : decide (0 ≤ p) with
  | false =>
    go_enter Try.func195, Try.ntmps195
    go_wp2
    go_ret
    exact ⟨ret_bool (by rw [R.out, h1]; rfl), (B0 _).out⟩
  | true =>
    cases h2 : decide (p < 3) with
    | false =>
      go_enter Try.func195, Try.ntmps195
      go_wp2
      go_ret
      exact ⟨ret_bool (by rw [R.out, h1, h2]; rfl), (B0 _).out⟩
    | true =>
      cases h3 : decide (1 ≤ q) with
      | false =>
        go_enter Try.func195, Try.ntmps195
        go_wp2
        go_ret
        exact ⟨ret_bool (by rw [R.out, h1, h2, h3]; rfl), (B0 _).out⟩
      | true =>
        go_enter Try.func195, Try.ntmps195
        go_wp2
        go_ret
        exact ⟨ret_bool (by rw [R.out, h1, h2, h3]; rfl), (B0 _).out⟩

theorem implEntryOf (n : Bool) (p q : Value) (s1 s2 v k : Value) (w : World) : Calls Try.prog 131 #[.agg #[.bool n, p, q, s1, s2, v, k]] w fun e w' => e = .returned (.iface (if n then 219 else 220) (.agg #[.bool n, p, q, s1, s2, v, k])) ∧ Below w.heap.size w w' := by
  cases n with
  | false =>
    go_enter Try.func131, Try.ntmps131
    go_wp2
    go_ret
    exact ⟨rfl, (Below.refl _ _).alloc (Nat.le_refl _) _⟩
  | true =>
    go_enter Try.func131, Try.ntmps131
    go_wp2
    go_ret
    exact ⟨rfl, (Below.refl _ _).alloc (Nat.le_refl _) _⟩

set_option maxRecDepth 100000 in
set_option maxHeartbeats 1000000 in
theorem implEmptyRight (n : Bool) (p q : Int) (a1 a2 : Option Addr) (c1 c2 : Nat) (xs ys : List P2) (v k : Int) (w : World) (h1 : Sl w a1 xs) (h2 : Sl w a2 ys) (n1 : xs.length ≤ 2 ^ 40) (n2 : ys.length ≤ 2 ^ 40) :
    Calls Try.prog 207 #[.agg #[.bool n, .int .i64 p, .int .i64 q, .slice a1 xs.length c1, .slice a2 ys.length c2, .int .i64 v, .int .i64 k]] w fun e w' => e = .returned (.bool (likeE n true (p, q) (0, 0) xs ys [] [] v k 0 0)) ∧ Below w.heap.size w w' := by
  have H1 : Hid (Sl w a1 xs) := h1
  have H2 : Hid (Sl w a2 ys) := h2
  clear h1 h2
  obtain ⟨W, hW⟩ : ∃ W, W = w.alloc (.cells #[.bool n, .int .i64 p, .int .i64 q, .slice a1 xs.length c1, .slice a2 ys.length c2, .int .i64 v, .int .i64 k] 219) := ⟨_, rfl⟩
  have BW : Hid (Below w.heap.size w W) := by show Below _ _ _; rw [hW]; exact (Below.refl _ _).alloc (Nat.le_refl _) _
  have HW : Hid (W = _) := hW
  clear hW
  go_enter Try.func207, Try.ntmps207
  go_wp2_with fail
  rw [← HW.out]
  refine (implCertLike n true p q 0 0 a1 a2 none none c1 c2 0 0 xs ys [] [] v k 0 0 W (H1.out.below BW.out) (H2.out.below BW.out) (.inl rfl) (.inl rfl) n1 n2 (by simp) (by simp)).mono ?_
  rintro e w1 ⟨rfl, b1⟩
  have B1 : Hid (Below w.heap.size w w1) := BW.out.trans (b1.mono BW.out.size)
  clear b1
  generalize hr : likeE n true (p, q) (0, 0) xs ys [] [] v k 0 0 = r
  have HR : Hid (_ = r) := hr
  clear hr
  go_wp2_with fail
  go_ret
  exact ⟨ret_bool HR.out.symm, B1.out⟩

set_option maxRecDepth 100000 in
set_option maxHeartbeats 1000000 in
theorem implRunRight (n : Bool) (p q : Int) (a1 a2 : Option Addr) (c1 c2 : Nat) (xs ys : List P2) (v k : Int) (w : World) (h1 : Sl w a1 xs) (h2 : Sl w a2 ys) (n1 : xs.length ≤ 2 ^ 40) (n2 : ys.length ≤ 2 ^ 40) :
    Calls Try.prog 209 #[.agg #[.bool n, .int .i64 p, .int .i64 q, .slice a1 xs.length c1, .slice a2 ys.length c2, .int .i64 v, .int .i64 k]] w fun e w' => e = .returned (.bool (reqOk p q && execOk xs ys v k && k != 3)) ∧ Below w.heap.size w w' := by
  have H1 : Hid (Sl w a1 xs) := h1
  have H2 : Hid (Sl w a2 ys) := h2
  clear h1 h2
  obtain ⟨W, hW⟩ : ∃ W, W = w.alloc (.cells #[.bool n, .int .i64 p, .int .i64 q, .slice a1 xs.length c1, .slice a2 ys.length c2, .int .i64 v, .int .i64 k] 220) := ⟨_, rfl⟩
  have BW : Hid (Below w.heap.size w W) := by show Below _ _ _; rw [hW]; exact (Below.refl _ _).alloc (Nat.le_refl _) _
  have G0 : Hid (Blk W w.heap.size #[.bool n, .int .i64 p, .int .i64 q, .slice a1 xs.length c1, .slice a2 ys.length c2, .int .i64 v, .int .i64 k] 220) := by show Blk _ _ _ _; rw [hW]; exact Blk.new _ _ _
  have HW : Hid (W = _) := hW
  clear hW
  obtain ⟨T, hT⟩ : ∃ T, T = (reqOk p q && execOk xs ys v k && k != 3) := ⟨_, rfl⟩
  have HT : Hid (T = (reqOk p q && execOk xs ys v k && k != 3)) := hT
  rw [← hT]
  clear hT
  go_enter Try.func209, Try.ntmps209
  go_wp2_with fail
  rw [← HW.out]
  refine (implReqOk p q W).mono ?_
  rintro e w1 ⟨rfl, b1⟩
  have B1 : Hid (Below w.heap.size w w1) := BW.out.trans (b1.mono BW.out.size)
  have D0 : Hid (Blk w1 w.heap.size _ _) := G0.out.keep b1
  obtain ⟨q0, q1, q2, q3, q4, q5, q6⟩ := D0.out.cells7
  clear b1
  generalize reqOk p q = r1 at HT ⊢
  cases r1 with
  | false =>
    have F : Hid (T = false) := by show _ = _; rw [HT.out]; rfl
    go_wp2_with fail
    go_ret
    exact ⟨ret_bool F.out.symm, B1.out⟩
  | true =>
    go_wp2_with fail
    refine (implExecOk a1 a2 c1 c2 xs ys v k w1 (H1.out.below B1.out) (H2.out.below B1.out) n1 n2).mono ?_
    rintro e w2 ⟨rfl, b2⟩
    have B2 : Hid (Below w.heap.size w w2) := B1.out.trans (b2.mono B1.out.size)
    obtain ⟨r0, r1, r2, r3, r4, r5, r6⟩ := (D0.out.keep b2).cells7
    clear b2 q0 q1 q2 q3 q4 q5 q6
    generalize execOk xs ys v k = r2' at HT ⊢
    cases r2' with
    | false =>
      have F : Hid (T = false) := by show _ = _; rw [HT.out]; rfl
      go_wp2_with fail
      go_ret
      exact ⟨ret_bool F.out.symm, B2.out⟩
    | true =>
      have F : Hid (T = (k != 3)) := by show _ = _; rw [HT.out]; rfl
      go_wp2_with fail
      go_ret
      exact ⟨ret_bool F.out.symm, B2.out⟩
end Go.Proofs.Ytfifiobcmdmefaa.Own

namespace Go.Proofs.Ytfifiobcmdmefaa.Own
open Go.RowKit
set_option linter.unusedVariables false

/-- A ballot is 1 to 3000. -/
def isBal (n : Int) : Bool := decide (1 ≤ n) && decide (n ≤ 3000)
theorem isBal_iff {n : Int} : isBal n = true ↔ 1 ≤ n ∧ n ≤ 3000 := by simp [isBal]
theorem isBal_not {n : Int} : isBal n = false ↔ (n < 1 ∨ 3000 < n) := by
  rw [← Bool.not_eq_true, isBal_iff]; omega
set_option maxRecDepth 100000 in
set_option maxHeartbeats 1000000 in
theorem implIsBallot (n : Int) (w : World) : Calls Try.prog 62 #[.int .i64 n] w fun e w' => e = .returned (.bool (isBal n)) ∧ w' = w := by
  by_cases h1 : 1 ≤ n
  · by_cases h2 : n ≤ 3000
    · have e : isBal n = true := isBal_iff.2 ⟨h1, h2⟩
      rw [e]
      go_enter Try.func62, Try.ntmps62
      go_wp2
      go_ret
      first | exact ⟨rfl, rfl⟩ | (refine ⟨?_, rfl⟩; simp [h1, h2])
    · have e : isBal n = false := isBal_not.2 (by omega)
      rw [e]
      go_enter Try.func62, Try.ntmps62
      go_wp2
      go_ret
      first | exact ⟨rfl, rfl⟩ | (refine ⟨?_, rfl⟩; simp [h1, h2])
  · have e : isBal n = false := isBal_not.2 (by omega)
    rw [e]
    go_enter Try.func62, Try.ntmps62
    go_wp2
    go_ret
    first | exact ⟨rfl, rfl⟩ | (refine ⟨?_, rfl⟩; simp [h1])

set_option maxRecDepth 100000 in
set_option maxHeartbeats 1000000 in
theorem specBal (n : Int) (w : World) : Calls Try.prog 65 #[.int .i64 n] w fun e w' => e = .returned (.bool (isBal n)) ∧ w' = w := by
  by_cases h1 : 1 ≤ n
  · by_cases h2 : n ≤ 3000
    · have e : isBal n = true := isBal_iff.2 ⟨h1, h2⟩
      rw [e]
      go_enter Try.func65, Try.ntmps65
      go_wp2
      go_ret
      first | exact ⟨rfl, rfl⟩ | (refine ⟨?_, rfl⟩; simp [h1, h2])
    · have e : isBal n = false := isBal_not.2 (by omega)
      rw [e]
      go_enter Try.func65, Try.ntmps65
      go_wp2
      go_ret
      first | exact ⟨rfl, rfl⟩ | (refine ⟨?_, rfl⟩; simp [h1, h2])
  · have e : isBal n = false := isBal_not.2 (by omega)
    rw [e]
    go_enter Try.func65, Try.ntmps65
    go_wp2
    go_ret
    first | exact ⟨rfl, rfl⟩ | (refine ⟨?_, rfl⟩; simp [h1])
end Go.Proofs.Ytfifiobcmdmefaa.Own

namespace Go.Proofs.Ytfifiobcmdmefaa.Own
open Go.RowKit
set_option linter.unusedVariables false

/-- An entry that is not there. -/
def noneE (e : EB) : Bool := likeE e.n false (e.p, e.q) (0, 0) e.xs e.ys [] [] e.v e.k 0 0
/-- An entry that is right. -/
def rightE (e : EB) : Bool := entOk e.n e.p e.q e.xs e.ys e.v e.k
/-- A vote that is right, or none. -/
def voteOk (x : V) : Bool := if x.1 = 0 then noneE x.2 else isBal x.1 && rightE x.2
def votesOk (bs : List V) : Bool := decide (bs.length ≤ 40) && bs.all voteOk
/-- A vote that nobody can have whose last ballot is m. -/
def barsV (m : Int) (x : V) : Bool := if x.1 == 0 && noneE x.2 then false else !isBal x.1 || decide (m < x.1) || !rightE x.2
def votesUpto (m : Int) (bs : List V) : Bool := decide (bs.length ≤ 40) && !bs.any (barsV m)
def accOk (m : Int) (bs : List V) : Bool := decide (0 ≤ m) && decide (m ≤ 3000) && votesOk bs && bs.all fun x => decide (x.1 ≤ m)
theorem bars_eq {m : Int} (hm : 0 ≤ m) (x : V) : barsV m x = !(voteOk x && decide (x.1 ≤ m)) := by
  obtain ⟨b, e⟩ := x
  unfold barsV voteOk
  by_cases h : b = 0
  · subst h
    have hb : isBal 0 = false := by decide
    simp [hb, hm]
  · have hb : (b == 0) = false := by simpa using h
    simp only [hb, h, if_false, Bool.false_and, Bool.not_and, Bool.false_eq_true]
    by_cases hl : m < b
    · have : ¬ b ≤ m := by omega
      simp [hl, this]
    · have : b ≤ m := by omega
      simp [hl, this]
theorem bars_top (x : V) : barsV 3000 x = !voteOk x := by
  rw [bars_eq (by omega)]
  congr 1
  obtain ⟨b, e⟩ := x
  unfold voteOk
  by_cases h : b = 0
  · subst h; simp
  · simp only [h, if_false]
    cases hb : isBal b with
    | false => simp
    | true =>
      have := (isBal_iff.1 hb).2
      simp [this]
theorem votesUpto_top (bs : List V) : votesUpto 3000 bs = votesOk bs := by
  unfold votesUpto votesOk
  congr 1
  rw [show barsV 3000 = fun x => !voteOk x from funext bars_top]
  induction bs with
  | nil => rfl
  | cons x xs ih => simp [ih]
theorem votesUpto_acc {m : Int} (hm : 0 ≤ m) (bs : List V) : votesUpto m bs = (votesOk bs && bs.all fun x => decide (x.1 ≤ m)) := by
  unfold votesUpto votesOk
  rw [show barsV m = fun x => !(voteOk x && decide (x.1 ≤ m)) from funext (bars_eq hm), Bool.and_assoc]
  congr 1
  induction bs with
  | nil => rfl
  | cons x xs ih =>
    simp only [List.any_cons, List.all_cons, Bool.not_or, Bool.not_not, ih]
    cases voteOk x <;> cases decide (x.1 ≤ m) <;> simp
theorem accOk_upto (m : Int) (bs : List V) : accOk m bs = (decide (0 ≤ m) && decide (m ≤ 3000) && votesUpto m bs) := by
  unfold accOk
  by_cases h : 0 ≤ m
  · rw [votesUpto_acc h]; simp only [Bool.and_assoc]
  · simp [h]
theorem accOk_iff {m : Int} {bs : List V} (h : accOk m bs = true) : 0 ≤ m ∧ m ≤ 3000 ∧ votesOk bs = true ∧ ∀ x, x ∈ bs → x.1 ≤ m := by
  simp [accOk] at h
  exact ⟨h.1.1.1, h.1.1.2, h.1.2, fun x hx => h.2 x.1 x.2 hx⟩

/-- Two votes are one. -/
def sameV (x y : V) : Bool := x.1 == y.1 && likeE x.2.n y.2.n (x.2.p, x.2.q) (y.2.p, y.2.q) x.2.xs x.2.ys y.2.xs y.2.ys x.2.v x.2.k y.2.v y.2.k
def sameVs (xs ys : List V) : Bool := decide (xs.length = ys.length) && (List.range xs.length).all fun i => sameV (xs.getD i (0, e0)) (ys.getD i (0, e0))
theorem sameVs_len {xs ys : List V} (h : xs.length ≠ ys.length) : sameVs xs ys = false := by simp [sameVs, h]
theorem sameVs_not {xs ys : List V} {i : Nat} (hi : i < xs.length) (h : sameV (xs.getD i (0, e0)) (ys.getD i (0, e0)) = false) : sameVs xs ys = false := by
  unfold sameVs
  have : ((List.range xs.length).all fun i => sameV (xs.getD i (0, e0)) (ys.getD i (0, e0))) = false := by
    rw [Bool.eq_false_iff]
    intro e
    rw [List.all_eq_true] at e
    have := e i (List.mem_range.2 hi)
    rw [h] at this
    cases this
  rw [this, Bool.and_false]
theorem sameVs_all {xs ys : List V} (hl : xs.length = ys.length) (h : ∀ i, i < xs.length → sameV (xs.getD i (0, e0)) (ys.getD i (0, e0)) = true) : sameVs xs ys = true := by
  unfold sameVs
  rw [Bool.and_eq_true]
  refine ⟨by simpa using hl, ?_⟩
  rw [List.all_eq_true]
  exact fun i hi => h i (List.mem_range.1 hi)
theorem allV_at {α : Type} {p : α → Bool} {l : List α} (d : α) (h : ∀ i, i < l.length → p (l.getD i d) = true) : l.all p = true := by
  rw [List.all_eq_true]
  intro x hx
  obtain ⟨i, hi, rfl⟩ := List.getElem_of_mem hx
  have := h i hi
  simpa [List.getD, hi] using this
theorem allV_not {α : Type} {p : α → Bool} {l : List α} (d : α) {i : Nat} (hi : i < l.length) (h : p (l.getD i d) = false) : l.all p = false := by
  rw [Bool.eq_false_iff]
  intro e
  rw [List.all_eq_true] at e
  have := e (l.getD i d) (by simp [List.getD, hi])
  rw [h] at this
  cases this
theorem anyV_at {α : Type} {p : α → Bool} {l : List α} (d : α) (h : ∀ i, i < l.length → p (l.getD i d) = false) : l.any p = false := by
  rw [Bool.eq_false_iff]
  intro e
  rw [List.any_eq_true] at e
  obtain ⟨x, hx, e⟩ := e
  obtain ⟨i, hi, rfl⟩ := List.getElem_of_mem hx
  have := h i hi
  simp [List.getD, hi] at this
  rw [this] at e
  cases e
theorem anyV_hit {α : Type} {p : α → Bool} {l : List α} (d : α) {i : Nat} (hi : i < l.length) (h : p (l.getD i d) = true) : l.any p = true := by
  rw [List.any_eq_true]
  exact ⟨l.getD i d, by simp [List.getD, hi], h⟩
end Go.Proofs.Ytfifiobcmdmefaa.Own

namespace Go.Proofs.Ytfifiobcmdmefaa.Own
open Go.RowKit
set_option linter.unusedVariables false
set_option linter.unusedSimpArgs false

set_option maxRecDepth 100000 in
set_option maxHeartbeats 1000000 in
theorem implCertEntry (n : Bool) (p q : Int) (a1 a2 : Option Addr) (c1 c2 : Nat) (xs ys : List P2) (v k : Int) (w : World) (h1 : Sl w a1 xs) (h2 : Sl w a2 ys) (n1 : xs.length ≤ 2 ^ 40) (n2 : ys.length ≤ 2 ^ 40) :
    Calls Try.prog 97 #[.agg #[.bool n, .int .i64 p, .int .i64 q, .slice a1 xs.length c1, .slice a2 ys.length c2, .int .i64 v, .int .i64 k]] w fun e w' => e = .returned (.bool (entOk n p q xs ys v k)) ∧ Below w.heap.size w w' := by
  have H1 : Hid (Sl w a1 xs) := h1
  have H2 : Hid (Sl w a2 ys) := h2
  clear h1 h2
  obtain ⟨W, hW⟩ : ∃ W, W = w.alloc (.cells #[.bool n, .int .i64 p, .int .i64 q, .slice a1 xs.length c1, .slice a2 ys.length c2, .int .i64 v, .int .i64 k] 33) := ⟨_, rfl⟩
  have BW : Hid (Below w.heap.size w W) := by show Below _ _ _; rw [hW]; exact (Below.refl _ _).alloc (Nat.le_refl _) _
  have HW : Hid (W = _) := hW
  clear hW
  cases n with
  | false =>
    have E : Hid (entOk false p q xs ys v k = (reqOk p q && execOk xs ys v k && k != 3)) := rfl
    go_enter Try.func97, Try.ntmps97
    go_wp2_with fail
    rw [← HW.out]
    refine (implEntryOf _ _ _ _ _ _ _ W).mono ?_
    rintro e w1 ⟨rfl, b1⟩
    have B1 : Hid (Below w.heap.size w w1) := BW.out.trans (b1.mono BW.out.size)
    clear b1
    simp only [Bool.false_eq_true, if_false]
    go_wp2_with fail
    refine (implRunRight false p q a1 a2 c1 c2 xs ys v k w1 (H1.out.below B1.out) (H2.out.below B1.out) n1 n2).mono ?_
    rintro e w2 ⟨rfl, b2⟩
    have B2 : Hid (Below w.heap.size w w2) := B1.out.trans (b2.mono B1.out.size)
    clear b2
    rw [← E.out]
    generalize hr : entOk false p q xs ys v k = r
    have HR : Hid (_ = r) := hr
    clear hr
    go_wp2_with fail
    go_ret
    exact ⟨ret_bool HR.out.symm, B2.out⟩
  | true =>
    have E : Hid (entOk true p q xs ys v k = likeE true true (p, q) (0, 0) xs ys [] [] v k 0 0) := rfl
    go_enter Try.func97, Try.ntmps97
    go_wp2_with fail
    rw [← HW.out]
    refine (implEntryOf _ _ _ _ _ _ _ W).mono ?_
    rintro e w1 ⟨rfl, b1⟩
    have B1 : Hid (Below w.heap.size w w1) := BW.out.trans (b1.mono BW.out.size)
    clear b1
    simp only [if_true]
    go_wp2_with fail
    refine (implEmptyRight true p q a1 a2 c1 c2 xs ys v k w1 (H1.out.below B1.out) (H2.out.below B1.out) n1 n2).mono ?_
    rintro e w2 ⟨rfl, b2⟩
    have B2 : Hid (Below w.heap.size w w2) := B1.out.trans (b2.mono B1.out.size)
    clear b2
    rw [← E.out]
    generalize hr : entOk true p q xs ys v k = r
    have HR : Hid (_ = r) := hr
    clear hr
    go_wp2_with fail
    go_ret
    exact ⟨ret_bool HR.out.symm, B2.out⟩
end Go.Proofs.Ytfifiobcmdmefaa.Own

namespace Go.Proofs.Ytfifiobcmdmefaa.Own
open Go.RowKit
set_option linter.unusedVariables false
set_option linter.unusedSimpArgs false

set_option maxRecDepth 100000 in
set_option maxHeartbeats 1000000 in
theorem implSameVote (m m' : Int) (n n' : Bool) (p q p' q' : Int) (a1 a2 b1 b2 : Option Addr) (c1 c2 d1 d2 : Nat) (xs ys zs us : List P2) (v k v' k' : Int) (w : World) (h1 : Sl w a1 xs) (h2 : Sl w a2 ys) (h3 : Sl w b1 zs) (h4 : Sl w b2 us)
    (n1 : xs.length ≤ 2 ^ 40) (n2 : ys.length ≤ 2 ^ 40) (n3 : zs.length ≤ 2 ^ 40) (n4 : us.length ≤ 2 ^ 40) :
    Calls Try.prog 58 #[.agg #[.int .i64 m, .bool n, .int .i64 p, .int .i64 q, .slice a1 xs.length c1, .slice a2 ys.length c2, .int .i64 v, .int .i64 k], .agg #[.int .i64 m', .bool n', .int .i64 p', .int .i64 q', .slice b1 zs.length d1, .slice b2 us.length d2, .int .i64 v', .int .i64 k']] w fun e w' => e = .returned (.bool (sameV (m, ⟨n, p, q, xs, ys, v, k⟩) (m', ⟨n', p', q', zs, us, v', k'⟩))) ∧ Below w.heap.size w w' := by
  have H1 : Hid (Sl w a1 xs) := h1
  have H2 : Hid (Sl w a2 ys) := h2
  have H3 : Hid (Sl w b1 zs) := h3
  have H4 : Hid (Sl w b2 us) := h4
  clear h1 h2 h3 h4
  have E : Hid (sameV (m, ⟨n, p, q, xs, ys, v, k⟩) (m', ⟨n', p', q', zs, us, v', k'⟩) = (m == m' && likeE n n' (p, q) (p', q') xs ys zs us v k v' k')) := rfl
  generalize sameV (m, ⟨n, p, q, xs, ys, v, k⟩) (m', ⟨n', p', q', zs, us, v', k'⟩) = T at E ⊢
  obtain ⟨W, hW⟩ : ∃ W, W = (w.alloc (.cells #[.int .i64 m, .bool n, .int .i64 p, .int .i64 q, .slice a1 xs.length c1, .slice a2 ys.length c2, .int .i64 v, .int .i64 k] 42)).alloc (.cells #[.int .i64 m', .bool n', .int .i64 p', .int .i64 q', .slice b1 zs.length d1, .slice b2 us.length d2, .int .i64 v', .int .i64 k'] 42) := ⟨_, rfl⟩
  have BW : Hid (Below w.heap.size w W) := by
    show Below _ _ _
    rw [hW]; exact ((Below.refl _ _).alloc (Nat.le_refl _) _).alloc (by simp) _
  have HW : Hid (W = _) := hW
  clear hW
  cases hm : (m == m') with
  | false =>
    have F : Hid (T = false) := by show _ = _; rw [E.out, hm]; rfl
    clear E
    go_enter Try.func58, Try.ntmps58
    go_wp2_with fail
    go_ret
    exact ⟨ret_bool F.out.symm, by rw [← HW.out]; exact BW.out⟩
  | true =>
    have F : Hid (T = likeE n n' (p, q) (p', q') xs ys zs us v k v' k') := by show _ = _; rw [E.out, hm]; rfl
    clear E
    go_enter Try.func58, Try.ntmps58
    go_wp2_with fail
    rw [← HW.out]
    refine (implCertLike n n' p q p' q' a1 a2 b1 b2 c1 c2 d1 d2 xs ys zs us v k v' k' W (H1.out.below BW.out) (H2.out.below BW.out) (H3.out.below BW.out) (H4.out.below BW.out) n1 n2 n3 n4).mono ?_
    rintro e w1 ⟨rfl, b1'⟩
    have B1 : Hid (Below w.heap.size w w1) := BW.out.trans (b1'.mono BW.out.size)
    clear b1'
    generalize likeE n n' (p, q) (p', q') xs ys zs us v k v' k' = r at F ⊢
    go_wp2_with fail
    go_ret
    exact ⟨ret_bool F.out.symm, B1.out⟩

set_option maxRecDepth 100000 in
set_option maxHeartbeats 1000000 in
theorem implCast (m : Int) (n : Bool) (p q : Int) (a1 a2 : Option Addr) (c1 c2 : Nat) (xs ys : List P2) (v k : Int) (w : World) :
    Calls Try.prog 137 #[.agg #[.int .i64 m, .bool n, .int .i64 p, .int .i64 q, .slice a1 xs.length c1, .slice a2 ys.length c2, .int .i64 v, .int .i64 k]] w fun e w' => e = .returned (.bool (isBal m)) ∧ Below w.heap.size w w' := by
  obtain ⟨W, hW⟩ : ∃ W, W = w.alloc (.cells #[.int .i64 m, .bool n, .int .i64 p, .int .i64 q, .slice a1 xs.length c1, .slice a2 ys.length c2, .int .i64 v, .int .i64 k] 42) := ⟨_, rfl⟩
  have BW : Hid (Below w.heap.size w W) := by show Below _ _ _; rw [hW]; exact (Below.refl _ _).alloc (Nat.le_refl _) _
  have HW : Hid (W = _) := hW
  clear hW
  go_enter Try.func137, Try.ntmps137
  go_wp2_with fail
  rw [← HW.out]
  refine (implIsBallot m W).mono ?_
  rintro e w1 ⟨rfl, rfl⟩
  go_wp2_with fail
  go_ret
  exact ⟨rfl, BW.out⟩

set_option maxRecDepth 100000 in
set_option maxHeartbeats 2000000 in
theorem implBars (l m : Int) (n : Bool) (p q : Int) (a1 a2 : Option Addr) (c1 c2 : Nat) (xs ys : List P2) (v k : Int) (w : World) (h1 : Sl w a1 xs) (h2 : Sl w a2 ys) (n1 : xs.length ≤ 2 ^ 40) (n2 : ys.length ≤ 2 ^ 40) :
    Calls Try.prog 103 #[.int .i64 l, .agg #[.int .i64 m, .bool n, .int .i64 p, .int .i64 q, .slice a1 xs.length c1, .slice a2 ys.length c2, .int .i64 v, .int .i64 k]] w fun e w' => e = .returned (.bool (barsV l (m, ⟨n, p, q, xs, ys, v, k⟩))) ∧ Below w.heap.size w w' := by
  have H1 : Hid (Sl w a1 xs) := h1
  have H2 : Hid (Sl w a2 ys) := h2
  clear h1 h2
  have E : Hid (barsV l (m, ⟨n, p, q, xs, ys, v, k⟩) = if sameV (m, ⟨n, p, q, xs, ys, v, k⟩) (0, ⟨false, 0, 0, [], [], 0, 0⟩) then false else !isBal m || decide (m > l) || !entOk n p q xs ys v k) := rfl
  generalize barsV l (m, ⟨n, p, q, xs, ys, v, k⟩) = T at E ⊢
  obtain ⟨W, hW⟩ : ∃ W, W = w.alloc (.cells #[.int .i64 m, .bool n, .int .i64 p, .int .i64 q, .slice a1 xs.length c1, .slice a2 ys.length c2, .int .i64 v, .int .i64 k] 42) := ⟨_, rfl⟩
  have BW : Hid (Below w.heap.size w W) := by show Below _ _ _; rw [hW]; exact (Below.refl _ _).alloc (Nat.le_refl _) _
  have G0 : Hid (Blk W w.heap.size #[.int .i64 m, .bool n, .int .i64 p, .int .i64 q, .slice a1 xs.length c1, .slice a2 ys.length c2, .int .i64 v, .int .i64 k] 42) := by show Blk _ _ _ _; rw [hW]; exact Blk.new _ _ _
  have HW : Hid (W = _) := hW
  clear hW
  go_enter Try.func103, Try.ntmps103
  go_wp2_with fail
  rw [← HW.out]
  refine (implSameVote m 0 n false p q 0 0 a1 a2 none none c1 c2 0 0 xs ys [] [] v k 0 0 W (H1.out.below BW.out) (H2.out.below BW.out) (.inl rfl) (.inl rfl) n1 n2 (by simp) (by simp)).mono ?_
  rintro e w1 ⟨rfl, b1'⟩
  have B1 : Hid (Below w.heap.size w w1) := BW.out.trans (b1'.mono BW.out.size)
  have G1 : Hid (Blk w1 w.heap.size #[.int .i64 m, .bool n, .int .i64 p, .int .i64 q, .slice a1 xs.length c1, .slice a2 ys.length c2, .int .i64 v, .int .i64 k] 42) := G0.out.keep b1'
  obtain ⟨q0, q1, q2, q3, q4, q5, q6, q7⟩ := G1.out.cells8
  clear b1'
  generalize sameV (m, ⟨n, p, q, xs, ys, v, k⟩) (0, ⟨false, 0, 0, [], [], 0, 0⟩) = s at E ⊢
  cases s with
  | true =>
    have F : Hid (T = false) := by show _ = _; rw [E.out]; rfl
    clear E
    go_wp2_with fail
    go_ret
    exact ⟨ret_bool F.out.symm, B1.out⟩
  | false =>
    have E2 : Hid (T = (!isBal m || decide (m > l) || !entOk n p q xs ys v k)) := by show _ = _; rw [E.out]; rfl
    clear E
    go_wp2_with fail
    refine (implCast m n p q a1 a2 c1 c2 xs ys v k w1).mono ?_
    rintro e w2 ⟨rfl, b2⟩
    have B2 : Hid (Below w.heap.size w w2) := B1.out.trans (b2.mono B1.out.size)
    obtain ⟨p0, p1, p2, p3, p4, p5, p6, p7⟩ := (G1.out.keep b2).cells8
    clear b2 q0 q1 q2 q3 q4 q5 q6 q7
    generalize isBal m = r at E2 ⊢
    cases r with
    | false =>
      have F : Hid (T = true) := by show _ = _; rw [E2.out]; rfl
      clear E2
      go_wp2_with fail
      go_ret
      exact ⟨ret_bool F.out.symm, B2.out⟩
    | true =>
      by_cases hl : m > l
      · have F : Hid (T = true) := by show _ = _; rw [E2.out]; simp [hl]
        clear E2
        go_wp2_with fail
        go_ret
        exact ⟨ret_bool F.out.symm, B2.out⟩
      · have F : Hid (T = (decide (l < m) || !entOk n p q xs ys v k)) := by show _ = _; rw [E2.out]; simp
        clear E2
        go_wp2_with fail
        refine (implCertEntry n p q a1 a2 c1 c2 xs ys v k w2 (H1.out.below B2.out) (H2.out.below B2.out) n1 n2).mono ?_
        rintro e w3 ⟨rfl, b3⟩
        have B3 : Hid (Below w.heap.size w w3) := B2.out.trans (b3.mono B2.out.size)
        clear b3
        generalize entOk n p q xs ys v k = r3 at F ⊢
        go_wp2_with fail
        go_ret
        exact ⟨ret_bool F.out.symm, B3.out⟩
end Go.Proofs.Ytfifiobcmdmefaa.Own

namespace Go.Proofs.Ytfifiobcmdmefaa.Own
open Go.RowKit
set_option linter.unusedVariables false
set_option linter.unusedSimpArgs false

set_option maxRecDepth 100000 in
set_option maxHeartbeats 2000000 in
theorem indexBars (l : Int) (a : Option Addr) (c : Nat) (vs : List VM) (w : World) (h : SlV w a vs) (hn : vs.length ≤ 2 ^ 40) (hl : VLs vs) :
    Calls Try.prog 136 #[.slice a vs.length c, .func (.func 103) #[.int .i64 l] #[]] w fun e w' => (∃ z : Int, e = .returned (.int .i64 z) ∧ decide (0 ≤ z) = (bodies vs).any (barsV l)) ∧ Below w.heap.size w w' := by
  have HS : Hid (SlV w a vs) := h
  have HL : Hid (VLs vs) := hl
  clear h hl
  have E2 : Hid (∀ i, i < vs.length → barsV l (vs.getD i v0).body = true → (bodies vs).any (barsV l) = true) := fun i hi h => anyV_hit (0, e0) (i := i) (by rw [bodies_len]; exact hi) (by rw [bodies_getD]; exact h)
  have E3 : Hid ((∀ i, i < vs.length → barsV l (vs.getD i v0).body = false) → (bodies vs).any (barsV l) = false) := fun h2 => anyV_at (0, e0) (fun i hi => by rw [bodies_getD]; exact h2 i (by rw [bodies_len] at hi; exact hi))
  generalize (bodies vs).any (barsV l) = T at E2 E3 ⊢
  go_enter Try.func136, Try.ntmps136
  go_wp2_with fail
  go_loopw [8] (fun i wr => ∃ k : Nat, k ≤ vs.length ∧ i = .int .i64 k ∧ Hid (∀ j, j < k → barsV l (vs.getD j v0).body = false) ∧ Hid (Below w.heap.size w wr)) (fun i _ => vs.length - (intOf i).toNat)
  case atStart => exact ⟨0, Nat.zero_le _, rfl, fun j hj => by omega, Below.refl _ _⟩
  case round =>
    obtain ⟨k, hk, rfl, HA, KB⟩ := hrel
    by_cases hlt : k < vs.length
    · have hki : (k : Int) < (vs.length : Int) := by omega
      rcases HS.out.below KB.out with hh | ⟨b, off, rfl, _, hh⟩
      · rw [hh] at hlt; simp at hlt
      obtain ⟨⟨d0, d1, d2, d3, d4, d5, d6, d7⟩, s1, s2⟩ := hh k hlt
      have NX : Hid (∀ y, barsV l (vs.getD k v0).body = y → (y = true → T = true) ∧ (y = false → ∀ j, j < k + 1 → barsV l (vs.getD j v0).body = false)) := fun y hy => ⟨fun h => E2.out k hlt (by rw [hy, h]), fun h j hj => by
        by_cases e : j = k
        · subst e; rw [hy, h]
        · exact HA.out j (by omega)⟩
      have LX := HL.out k hlt
      have SX : Hid (Sl wr (vs.getD k v0).a1 (vs.getD k v0).b.xs ∧ Sl wr (vs.getD k v0).a2 (vs.getD k v0).b.ys) := ⟨s1, s2⟩
      clear hh s1 s2
      obtain ⟨x, hx⟩ : ∃ x, x = vs.getD k v0 := ⟨_, rfl⟩
      rw [← hx] at d0 d1 d2 d3 d4 d5 d6 d7 LX SX
      have NX2 : Hid (∀ y, barsV l x.body = y → (y = true → T = true) ∧ (y = false → ∀ j, j < k + 1 → barsV l (vs.getD j v0).body = false)) := fun y hy => NX.out y (by rw [← hx]; exact hy)
      clear NX hx
      obtain ⟨xbal, ⟨xn, xp, xq, xxs, xys, xv, xk⟩, xa1, xc1, xa2, xc2⟩ := x
      simp only [VM.body] at d0 d1 d2 d3 d4 d5 d6 d7 LX SX NX2
      go_wp2_with fail
      refine (implBars l xbal xn xp xq xa1 xa2 xc1 xc2 xxs xys xv xk wr SX.out.1 SX.out.2 LX.1 LX.2.1).mono ?_
      rintro e w1 ⟨rfl, hw⟩
      have B1 : Hid (Below w.heap.size w w1) := KB.out.trans (hw.mono KB.out.size)
      have N3 := NX2.out _ rfl
      clear hw NX2 d0 d1 d2 d3 d4 d5 d6 d7
      generalize barsV l (xbal, ⟨xn, xp, xq, xxs, xys, xv, xk⟩) = y at N3 ⊢
      cases y with
      | true =>
        have F : Hid (T = true) := N3.1 rfl
        clear N3
        go_wp2_with fail
        go_ret
        exact ⟨⟨(k : Int), rfl, by rw [F.out]; simp⟩, B1.out⟩
      | false =>
        have F : Hid (∀ j, j < k + 1 → barsV l (vs.getD j v0).body = false) := N3.2 rfl
        clear N3
        go_wp2_with fail
        go_roundw
        case rel => exact ⟨k + 1, by omega, by go_num, F.out, B1.out⟩
        case measure => simp [intOf]; omega
    · have hki : ¬ (k : Int) < (vs.length : Int) := by omega
      have F : Hid (T = false) := E3.out (fun i hi => HA.out i (by omega))
      go_wp2_with fail
      go_ret
      exact ⟨⟨-1, rfl, by rw [F.out]; decide⟩, KB.out⟩

set_option maxRecDepth 100000 in
set_option maxHeartbeats 1000000 in
theorem containsBars (l : Int) (a : Option Addr) (c : Nat) (vs : List VM) (w : World) (h : SlV w a vs) (hn : vs.length ≤ 2 ^ 40) (hl : VLs vs) :
    Calls Try.prog 102 #[.slice a vs.length c, .func (.func 103) #[.int .i64 l] #[]] w fun e w' => e = .returned (.bool ((bodies vs).any (barsV l))) ∧ Below w.heap.size w w' := by
  have HC : Hid _ := indexBars l a c vs w h hn hl
  clear h hl
  generalize (bodies vs).any (barsV l) = T at HC ⊢
  go_enter Try.func102, Try.ntmps102
  go_wp2_with fail
  refine Calls.mono HC.out ?_
  rintro e w1 ⟨⟨z, rfl, hz⟩, b1⟩
  have B1 : Hid (Below w.heap.size w w1) := b1
  have HZ : Hid (decide (0 ≤ z) = T) := hz
  clear b1 hz
  go_wp2_with fail
  go_ret
  exact ⟨ret_bool HZ.out, B1.out⟩

set_option maxRecDepth 100000 in
set_option maxHeartbeats 1000000 in
theorem implVotesOk (l : Int) (a : Option Addr) (c : Nat) (vs : List VM) (w : World) (h : SlV w a vs) (hn : vs.length ≤ 2 ^ 40) (hl : VLs vs) :
    Calls Try.prog 59 #[.slice a vs.length c, .int .i64 l] w fun e w' => e = .returned (.bool (votesUpto l (bodies vs))) ∧ Below w.heap.size w w' := by
  have E : Hid (votesUpto l (bodies vs) = (decide (vs.length ≤ 40) && !(bodies vs).any (barsV l))) := by show _ = _; unfold votesUpto; rw [bodies_len]
  have HC : Hid _ := containsBars l a c vs w h hn hl
  clear h hl
  generalize votesUpto l (bodies vs) = T at E ⊢
  generalize (bodies vs).any (barsV l) = U at E HC
  by_cases h40 : vs.length ≤ 40
  · have F : Hid (T = !U) := by show _ = _; rw [E.out]; simp [h40]
    have hd : decide ((vs.length : Int) ≤ 40) = true := decide_eq_true (by omega)
    have hmf : ∀ (fn : Fn) (first cap : Array Value) (w : World), (Instr.makeFunc fn first cap).run Try.prog w = .ok (.func fn first cap) w := fun _ _ _ _ => rfl
    clear E h40
    go_enter Try.func59, Try.ntmps59
    go_wp2_with fail
    refine Calls.mono HC.out ?_
    rintro e w1 ⟨rfl, b1⟩
    have B1 : Hid (Below w.heap.size w w1) := b1
    clear b1
    go_wp2_with fail
    go_ret
    exact ⟨ret_bool F.out.symm, B1.out⟩
  · have F : Hid (T = false) := by show _ = _; rw [E.out]; simp [h40]
    have hd : decide ((vs.length : Int) ≤ 40) = false := decide_eq_false (by omega)
    clear E h40
    go_enter Try.func59, Try.ntmps59
    go_wp2_with fail
    go_ret
    exact ⟨ret_bool F.out.symm, Below.refl _ _⟩
end Go.Proofs.Ytfifiobcmdmefaa.Own

namespace Go.Proofs.Ytfifiobcmdmefaa.Own
open Go.RowKit
set_option linter.unusedVariables false
set_option linter.unusedSimpArgs false

def bestAt (A B : List V) (i : Nat) : V := if i < B.length ∧ (A.getD i (0, e0)).1 < (B.getD i (0, e0)).1 then B.getD i (0, e0) else A.getD i (0, e0)
/-- So far the better vote stands at each of the first j places. -/
def BestTo (A B : List V) (j : Nat) (L : List VM) : Prop := L.length = max A.length B.length ∧ ∀ i, (L.getD i v0).body = if i < j then bestAt A B i else A.getD i (0, e0)
theorem BestTo.step {A B : List V} {j : Nat} {L : List VM} (h : BestTo A B j L) (hj : j < B.length) {y : VM} (hy : y.body = B.getD j (0, e0)) (hlt : (A.getD j (0, e0)).1 < (B.getD j (0, e0)).1) : BestTo A B (j + 1) (L.set j y) := by
  refine ⟨by rw [List.length_set]; exact h.1, fun i => ?_⟩
  rw [getD_setV _ _ _ _ (by rw [h.1]; omega)]
  by_cases e : j = i
  · subst e
    rw [if_pos rfl, if_pos (by omega), hy]
    unfold bestAt
    rw [if_pos ⟨hj, hlt⟩]
  · rw [if_neg e, h.2 i]
    by_cases e2 : i < j
    · rw [if_pos e2, if_pos (by omega)]
    · rw [if_neg e2, if_neg (by omega)]
theorem BestTo.stay {A B : List V} {j : Nat} {L : List VM} (h : BestTo A B j L) (hlt : ¬ (A.getD j (0, e0)).1 < (B.getD j (0, e0)).1) : BestTo A B (j + 1) L := by
  refine ⟨h.1, fun i => ?_⟩
  rw [h.2 i]
  by_cases e : i < j
  · rw [if_pos e, if_pos (by omega)]
  · rw [if_neg e]
    by_cases e2 : i < j + 1
    · obtain rfl : i = j := by omega
      rw [if_pos e2]
      unfold bestAt
      rw [if_neg (fun h => hlt h.2)]
    · rw [if_neg e2]
theorem padV_getD (us : List VM) (k i : Nat) : (padV us k).getD i v0 = us.getD i v0 := by
  unfold padV
  by_cases h : i < us.length
  · simp [List.getD, List.getElem?_append_left h]
  · simp only [List.getD, List.getElem?_append_right (Nat.le_of_not_lt h), List.getElem?_replicate, List.getElem?_eq_none (Nat.le_of_not_lt h)]
    split <;> rfl
theorem BestTo.start (vs us : List VM) (B : List V) (he : bodies us = bodies vs) : BestTo (bodies vs) B 0 (padV us (B.length - us.length)) := by
  have hl := (bodies_eq he).1
  refine ⟨by rw [padV_len, bodies_len]; omega, fun i => ?_⟩
  rw [if_neg (by omega), padV_getD, ← he, bodies_getD]

/-- What impl.AccBest leaves of right votes: a list of one's own. -/
def BestPost (w0 w : World) (v : Value) (A B : List V) : Prop := ∃ (a : Option Addr) (n cap : Nat) (L : List VM), v = .slice a n cap ∧ L.length = n ∧ BestTo A B B.length L ∧ (0 < n → ∃ g, a = some ⟨g, 0, none⟩ ∧ OwnVs w w0.heap.size g L ∧ Sep g L) ∧ Below w0.heap.size w0 w ∧ CapL L

set_option maxRecDepth 100000 in
set_option maxHeartbeats 2000000 in
theorem implAccBest (a b : Option Addr) (c d : Nat) (vs us : List VM) (w : World) (h1 : SlV w a vs) (h2 : SlV w b us) (l1 : VLs vs) (l2 : VLs us) (n1 : vs.length ≤ 2 ^ 30) (n2 : us.length ≤ 2 ^ 30) :
    Calls Try.prog 24 #[.slice a vs.length c, .slice b us.length d] w fun e w' => ∃ v, e = .returned v ∧ (if votesUpto 3000 (bodies vs) && votesUpto 3000 (bodies us) then BestPost w w' v (bodies vs) (bodies us) else v = .slice none 0 0 ∧ Below w.heap.size w w') := by
  have H1 : Hid (SlV w a vs) := h1
  have H2 : Hid (SlV w b us) := h2
  have L1 : Hid (VLs vs) := l1
  have L2 : Hid (VLs us) := l2
  clear h1 h2 l1 l2
  generalize hk1 : votesUpto 3000 (bodies vs) = K1
  generalize hk2 : votesUpto 3000 (bodies us) = K2
  have HK1 : Hid (votesUpto 3000 (bodies vs) = K1) := hk1
  have HK2 : Hid (votesUpto 3000 (bodies us) = K2) := hk2
  clear hk1 hk2
  go_enter Try.func24, Try.ntmps24
  go_wp2_with fail
  refine (implVotesOk 3000 a c vs w H1.out (by omega) L1.out).mono ?_
  rintro e w1 ⟨rfl, b1⟩
  rw [HK1.out]
  have B1 : Hid (Below w.heap.size w w1) := b1
  clear b1
  cases K1 with
  | false =>
    go_wp2_with fail
    go_ret
    exact ⟨_, rfl, rfl, B1.out⟩
  | true =>
    go_wp2_with fail
    refine (implVotesOk 3000 b d us w1 (H2.out.below B1.out) (by omega) L2.out).mono ?_
    rintro e w2 ⟨rfl, b2⟩
    rw [HK2.out]
    have B2 : Hid (Below w.heap.size w w2) := B1.out.trans (b2.mono B1.out.size)
    clear b2
    cases K2 with
    | false =>
      go_wp2_with fail
      go_ret
      exact ⟨_, rfl, rfl, B2.out⟩
    | true =>
      go_wp2_with fail
      refine (listCopied a c vs w2 (H1.out.below B2.out) L1.out n1).mono ?_
      rintro e w3 ⟨v3, xs, rfl, o3, hbd, b3⟩
      have O3 : Hid (OwnL w3 w2.heap.size v3 xs) := o3
      have EB : Hid (bodies xs = bodies vs) := hbd
      have B3 : Hid (Below w2.heap.size w2 w3) := b3
      have hxl := (bodies_eq hbd).1
      clear o3 hbd b3
      go_wp2_with fail
      refine (listGrown v3 xs us.length w3 w2.heap.size O3.out B3.out.size (by omega) n2).mono ?_
      rintro e w4 ⟨v4, rfl, o4, b4⟩
      have ST : Hid (BestTo (bodies vs) (bodies us) 0 (padV xs ((bodies us).length - xs.length))) := BestTo.start vs xs (bodies us) EB.out
      have O4 : Hid (OwnL w4 w.heap.size v4 (padV xs ((bodies us).length - xs.length))) := by
        show OwnL _ _ _ _
        rw [bodies_len]
        exact ⟨⟨o4.row.1, by
          rcases o4.row.2 with h | ⟨g, cap, cur, hv, hg, r⟩
          · exact .inl h
          · exact .inr ⟨g, cap, cur, hv, Nat.le_trans B2.out.size hg, r⟩⟩, fun i hi => (o4.one i hi).weaken B2.out.size, o4.out, o4.all⟩
      have B4 : Hid (Below w.heap.size w w4) := B2.out.trans ((B3.out.trans b4).mono B2.out.size)
      clear o4 b4
      obtain ⟨P, hP⟩ : ∃ P, P = padV xs ((bodies us).length - xs.length) := ⟨_, rfl⟩
      rw [← hP] at ST O4
      clear hP hxl
      obtain ⟨a4, c4, rfl⟩ := O4.out.form
      have PN : Hid (0 < P.length → ∃ g, a4 = some ⟨g, 0, none⟩ ∧ OwnVs w4 w.heap.size g P ∧ Sep g P) := fun h => by
        obtain ⟨g, cap, hv, _, ho, hs⟩ := O4.out.vs (List.length_pos_iff.1 h)
        injection hv with e1
        exact ⟨g, e1, ho, hs⟩
      obtain ⟨n, hn⟩ : ∃ n, n = P.length := ⟨_, rfl⟩
      rw [← hn] at PN ⊢
      have HN : Hid (P.length = n) := hn.symm
      have CP : Hid (CapL P) := O4.out.cap
      have un : us.length ≤ n := by rw [hn, ST.out.1, bodies_len, bodies_len]; omega
      clear hn
      go_wp2_with fail
      go_loopw [23] (fun i wr => ∃ (j : Nat) (L : List VM), j ≤ us.length ∧ i = .int .i64 j ∧ Hid (L.length = n) ∧ Hid (BestTo (bodies vs) (bodies us) j L) ∧ Hid (0 < n → ∃ g, a4 = some ⟨g, 0, none⟩ ∧ OwnVs wr w.heap.size g L ∧ Sep g L) ∧ Hid (Below w.heap.size w wr) ∧ Hid (CapL L)) (fun i _ => us.length - (intOf i).toNat)
      case atStart => exact ⟨0, P, Nat.zero_le _, rfl, HN.out, ST.out, PN.out, B4.out, CP.out⟩
      case round =>
        obtain ⟨j, L, hj, rfl, LN, LB, LO, LW, LC⟩ := hrel
        by_cases hlt : j < us.length
        · have hji : (j : Int) < (us.length : Int) := by omega
          obtain ⟨x, hx⟩ : ∃ x, x = us.getD j v0 := ⟨_, rfl⟩
          rcases H2.out with h0 | ⟨b', off, rfl, hat⟩
          · rw [h0] at hlt; simp at hlt
          obtain ⟨c8, s1, s2⟩ := (hat.below LW.out).2 j hlt
          have VX := L2.out j hlt
          rw [← hx] at c8 s1 s2 VX
          obtain ⟨q0, q1, q2, q3, q4, q5, q6, q7⟩ := c8
          have S1 : Hid (Sl wr x.a1 x.b.xs) := s1
          have S2 : Hid (Sl wr x.a2 x.b.ys) := s2
          have HXB : Hid (x.body = (bodies us).getD j (0, e0)) := by show _ = _; rw [bodies_getD, hx]
          clear hat s1 s2 hx
          have hjn : j < n := by omega
          obtain ⟨g, ha4, OW0, SE0⟩ := LO.out (by omega)
          subst ha4
          have OW : Hid (OwnVs wr w.heap.size g L) := OW0
          have SE : Hid (Sep g L) := SE0
          have hjL : j < L.length := by rw [LN.out]; exact hjn
          obtain ⟨z, hz⟩ : ∃ z, z = (L.getD j v0).bal := ⟨_, rfl⟩
          have HZ : Hid (z = (L.getD j v0).bal) := hz
          have AB : Hid (z = ((bodies vs).getD j (0, e0)).1) := by
            have := LB.out.2 j
            rw [if_neg (by omega)] at this
            show _ = _
            rw [← this, hz]; rfl
          clear hz OW0 SE0 LO
          go_upto_region 7 with fail
          obtain ⟨X, hX⟩ : ∃ X, X = wr.alloc (.cells #[.int .i64 x.bal, .bool x.b.n, .int .i64 x.b.p, .int .i64 x.b.q, .slice x.a1 x.b.xs.length x.c1, .slice x.a2 x.b.ys.length x.c2, .int .i64 x.b.v, .int .i64 x.b.k] 42) := ⟨_, rfl⟩
          rw [← hX]
          have GX : Hid (Blk X wr.heap.size x.cells 42) := by show Blk _ _ _ _; rw [hX]; exact Blk.new _ _ _
          have BX : Hid (Below wr.heap.size wr X) := by show Below _ _ _; rw [hX]; exact (Below.refl _ _).alloc (Nat.le_refl _) _
          clear hX q0 q1 q2 q3 q4 q5 q6 q7
          obtain ⟨q0, q1, q2, q3, q4, q5, q6, q7⟩ := Blk.cells8 GX.out
          have d0 : X.cell? ⟨g, j * 8, none⟩ = some (.int .i64 z) := by
            rw [HZ.out, BX.out.cell (p := ⟨g, j * 8, none⟩) OW.out.lt]; exact (OW.out.cell j hjL).1
          have hX : Hid (X = X) := rfl
          go_cut [35] from 28 to 35 (fun p wx => p = .bool (decide (z < x.bal)) ∧ wx = X.drew)
          case first =>
            go_region
            all_goals
              go_wp2_with fail
              go_meet
              exact ⟨rfl, rfl⟩
          case rest =>
            obtain ⟨rfl, rfl⟩ := hcut
            have hgb := OW.out.lt
            have BD : Hid (Below wr.heap.size wr X.drew) := BX.out.drew
            have GD : Hid (Blk X.drew wr.heap.size x.cells 42) := GX.out
            have WD : Hid (Below w.heap.size w X.drew) := LW.out.trans (BD.out.mono LW.out.size)
            clear q0 q1 q2 q3 q4 q5 q6 q7 d0 hX GX BX
            obtain ⟨q0, q1, q2, q3, q4, q5, q6, q7⟩ := Blk.cells8 GD.out
            by_cases hgt : z < x.bal
            · have hd : decide (z < x.bal) = true := by simpa using hgt
              rw [hd]
              go_wp2_with fail
              refine (voteCopied x X.drew (S1.out.below BD.out) (S2.out.below BD.out) VX.1 VX.2.1).mono ?_
              rintro e w5 ⟨y, rfl, hyb, hy, b5⟩
              have BW5 : Hid (Below wr.heap.size wr w5) := BD.out.trans (b5.mono BD.out.size)
              have Y5 : Hid (OneOwn w5 wr.heap.size y) := hy.weaken BD.out.size
              have YB : Hid (y.body = (bodies us).getD j (0, e0)) := hyb.trans HXB.out
              have Z := OW.out.put SE.out BW5.out Y5.out LW.out.size j hjL
              have ZH : Hid (OwnVs (set8 w5 g (j * 8) y) w.heap.size g (L.set j y) ∧ Sep g (L.set j y)) := Z
              have NB : Hid (BestTo (bodies vs) (bodies us) (j + 1) (L.set j y)) := LB.out.step (by rw [bodies_len]; exact hlt) YB.out (by rw [← AB.out, ← HXB.out]; exact hgt)
              have SB : Hid (Below w.heap.size w (set8 w5 g (j * 8) y)) := set8_below (LW.out.trans (BW5.out.mono LW.out.size)) OW.out.lo _ _
              have CY : Hid (CapL (L.set j y)) := LC.out.set j ⟨hy.c1, hy.c2⟩ hjL
              have LS : Hid ((L.set j y).length = n) := by show _ = _; rw [List.length_set]; exact LN.out
              clear hyb hy b5 Z q0 q1 q2 q3 q4 q5 q6 q7 hd
              simp only [VM.cells]
              obtain ⟨c0, c1, c2, c3, c4', c5, c6, c7⟩ : C8 w5 g (j * 8) (L.getD j v0) := (OW.out.cell j hjL).congr fun l hl => BW5.out.cell (p := ⟨g, j * 8 + l, none⟩) hgb
              have fr : ∀ o, w5.frozen? ⟨g, o, none⟩ = false := fun o => by rw [BW5.out.frozen (p := ⟨g, o, none⟩) hgb]; exact OW.out.fr o
              go_wp2_with fail
              refine ⟨⟨j + 1, L.set j y, by omega, by go_num, LS.out, NB.out, fun _ => ⟨g, rfl, ZH.out.1, ZH.out.2⟩, SB.out, CY.out⟩, by simp only [intOf]; omega⟩
            · have hd : decide (z < x.bal) = false := by simpa using hgt
              rw [hd]
              have NB : Hid (BestTo (bodies vs) (bodies us) (j + 1) L) := LB.out.stay (by rw [← AB.out, ← HXB.out]; exact hgt)
              go_wp2_with fail
              refine ⟨⟨j + 1, L, by omega, by go_num, LN.out, NB.out, fun _ => ⟨g, rfl, ?_, SE.out⟩, WD.out, LC.out⟩, by simp only [intOf]; omega⟩
              exact ⟨Nat.lt_of_lt_of_le hgb BD.out.size, OW.out.lo, fun o => by rw [BD.out.frozen (p := ⟨g, o, none⟩) hgb]; exact OW.out.fr o, fun i hi => (OW.out.cell i hi).congr fun l hl => BD.out.cell (p := ⟨g, i * 8 + l, none⟩) hgb, fun i hi => ⟨(OW.out.own i hi).1.below BD.out, (OW.out.own i hi).2.below BD.out⟩⟩
        · have hji : ¬ (j : Int) < (us.length : Int) := by omega
          obtain rfl : j = us.length := by omega
          go_wp2_with fail
          go_ret
          exact ⟨_, rfl, a4, n, c4, L, rfl, LN.out, by rw [bodies_len]; exact LB.out, LO.out, LW.out, LC.out⟩
end Go.Proofs.Ytfifiobcmdmefaa.Own

namespace Go.Proofs.Ytfifiobcmdmefaa.Own
open Go.RowKit
set_option linter.unusedVariables false
set_option linter.unusedSimpArgs false

theorem stepsV_mono (vs : List VM) {i k : Nat} (h : i ≤ k) : stepsV vs i ≤ stepsV vs k := by
  induction k with
  | zero => obtain rfl : i = 0 := by omega
            exact Nat.le_refl _
  | succ k ih =>
    by_cases e : i = k + 1
    · subst e; exact Nat.le_refl _
    · have := ih (by omega); simp only [stepsV]; omega
/-- The votes' own blocks alone may have turned. -/
structure ManyV (g : Nat) (vs : List VM) (w w' : World) : Prop where
  size : w'.heap.size = w.heap.size
  os : w'.os = w.os
  tape : w'.tape = w.tape
  output : w'.output = w.output
  block : ∀ b, b ≠ g → (∀ i, i < vs.length → blk1 (vs.getD i v0) ≠ some b ∧ blk2 (vs.getD i v0) ≠ some b) → w'.heap[b]? = w.heap[b]?
theorem ManyV.refl (g : Nat) (vs : List VM) (w : World) : ManyV g vs w w := ⟨rfl, rfl, rfl, rfl, fun _ _ _ => rfl⟩
theorem ManyV.step {g j : Nat} {vs : List VM} {a b c : World} (h : ManyV g vs a b) (k : OneV g j (vs.getD j v0) b c) (hj : j < vs.length) : ManyV g vs a c :=
  ⟨k.size.trans h.size, k.os.trans h.os, k.tape.trans h.tape, k.output.trans h.output, fun n h1 h2 => (k.block n h1 (h2 j hj).1 (h2 j hj).2).trans (h.block n h1 h2)⟩

set_option maxRecDepth 100000 in
set_option maxHeartbeats 4000000 in
theorem markVoteS (g c B : Nat) (vs : List VM) (k0 : Int) (w : World) (h : OwnVs w B g vs) (sep : Sep g vs) (hn : vs.length ≤ 2 ^ 30) (hk0 : 0 ≤ k0) (hk1 : k0 ≤ 2 ^ 30) (hs : stepsV vs vs.length ≤ 2 ^ 30) :
    Calls Try.prog 112 #[.slice (some ⟨g, 0, none⟩) vs.length c, .int .i64 k0] w fun e w' => e = .returned (.int .i64 (k0 + (stepsV vs vs.length : Nat))) ∧ OwnVs w' B g (mixV k0 vs vs.length) ∧ ManyV g vs w w' := by
  have SP : Hid (Sep g vs) := sep
  have HS : Hid (stepsV vs vs.length ≤ 2 ^ 30) := hs
  have H0 : Hid (OwnVs w B g (mixV k0 vs 0)) := by show OwnVs _ _ _ _; rw [mixV_zero]; exact h
  clear h sep hs
  go_enter Try.func112, Try.ntmps112
  go_wp2_with fail
  go_loopw [1, 5] (fun q i wr => ∃ j : Nat, j ≤ vs.length ∧ i = .int .i64 j ∧ q = .int .i64 (k0 + (stepsV vs j : Nat)) ∧ Hid (OwnVs wr B g (mixV k0 vs j)) ∧ Hid (ManyV g vs w wr)) (fun _ i _ => vs.length - (intOf i).toNat)
  case atStart => exact ⟨0, Nat.zero_le _, rfl, by simp [stepsV], H0.out, ManyV.refl _ _ _⟩
  case round =>
    obtain ⟨j, hj, rfl, rfl, OV, MV⟩ := hrel
    by_cases hlt : j < vs.length
    · have hji : (j : Int) < (vs.length : Int) := by omega
      have hjm : j < (mixV k0 vs j).length := by rw [mixV_len]; exact hlt
      have mj : (mixV k0 vs j).getD j v0 = vs.getD j v0 := by rw [mixV_at _ _ _ hlt, if_neg (by omega)]
      have cj := OV.out.cell j hjm
      obtain ⟨o1, o2⟩ := OV.out.own j hjm
      rw [mj] at cj o1 o2
      obtain ⟨x, hx⟩ : ∃ x, x = vs.getD j v0 := ⟨_, rfl⟩
      have s1 := SP.out.one j hlt
      have s2 := SP.out.two j hlt
      have st := stepsV_mono vs (show j + 1 ≤ vs.length by omega)
      have HSn := HS.out
      have NX : Hid (stepsV vs (j + 1) = stepsV vs j + (6 + 2 * x.b.xs.length + 2 * x.b.ys.length)) := by show _ = _; rw [hx]; rfl
      have STEP : Hid (∀ w', OneV g j x wr w' → C8 w' g (j * 8) (markedV (k0 + (stepsV vs j : Nat)) x) → OwnB w' B x.a1 (markedV (k0 + (stepsV vs j : Nat)) x).b.xs → OwnB w' B x.a2 (markedV (k0 + (stepsV vs j : Nat)) x).b.ys → OwnVs w' B g (mixV k0 vs (j + 1)) ∧ ManyV g vs w w') := fun w' a b c d => by
        rw [hx] at a b c d
        exact ⟨mv_step OV.out SP.out hlt a b c d, MV.out.step a hlt⟩
      rw [← hx] at cj o1 o2 s1 s2
      have xl : x.b.xs.length ≤ 2 ^ 30 ∧ x.b.ys.length ≤ 2 ^ 30 ∧ stepsV vs j ≤ 2 ^ 30 := by have := NX.out; omega
      clear hx mj hjm HSn st
      have FR : Hid (∀ o, wr.frozen? ⟨g, o, none⟩ = false) := OV.out.fr
      obtain ⟨k, hk⟩ : ∃ k : Int, k = k0 + (stepsV vs j : Nat) := ⟨_, rfl⟩
      have kb0 : 0 ≤ k := by omega
      have kb1 : k ≤ 2 ^ 31 := by omega
      rw [← hk] at STEP ⊢
      have HK : Hid (k = k0 + (stepsV vs j : Nat)) := hk
      obtain ⟨xl1, xl2, _⟩ := xl
      clear hk
      obtain ⟨d0, d1, d2, d3, d4, d5, d6, d7⟩ := cj
      obtain ⟨X, hX⟩ : ∃ X, X = (((wr.setCell ⟨g, j * 8, none⟩ (.int .i64 k)).setCell ⟨g, j * 8 + 1, none⟩ (.bool ((k + 1) % 3 == 0))).setCell ⟨g, j * 8 + 2, none⟩ (.int .i64 (k + 1 + 1))).setCell ⟨g, j * 8 + 3, none⟩ (.int .i64 (k + 1 + 1 + 1)) := ⟨_, rfl⟩
      have P := put4 (.int .i64 k) (.bool ((k + 1) % 3 == 0)) (.int .i64 (k + 1 + 1)) (.int .i64 (k + 1 + 1 + 1)) d0 d1 d2 d3
      rw [← hX] at P
      have OX : Hid (OneV g j x wr X) := by
        show OneV _ _ _ _ _
        rw [hX]
        exact (((OneV.set g j x wr _ (by omega) _).trans (OneV.set g j x _ _ (by omega) _)).trans (OneV.set g j x _ _ (by omega) _)).trans (OneV.set g j x _ _ (by omega) _)
      have PX : Hid (X.cell? ⟨g, j * 8, none⟩ = some (.int .i64 k) ∧ X.cell? ⟨g, j * 8 + 1, none⟩ = some (.bool ((k + 1) % 3 == 0)) ∧ X.cell? ⟨g, j * 8 + 2, none⟩ = some (.int .i64 (k + 1 + 1)) ∧ X.cell? ⟨g, j * 8 + 3, none⟩ = some (.int .i64 (k + 1 + 1 + 1))) := ⟨P.1, P.2.1, P.2.2.1, P.2.2.2.1⟩
      have R : Hid (X.cell? ⟨g, j * 8 + 4, none⟩ = some (.slice x.a1 x.b.xs.length x.c1) ∧ X.cell? ⟨g, j * 8 + 5, none⟩ = some (.slice x.a2 x.b.ys.length x.c2) ∧ X.cell? ⟨g, j * 8 + 6, none⟩ = some (.int .i64 x.b.v) ∧ X.cell? ⟨g, j * 8 + 7, none⟩ = some (.int .i64 x.b.k)) := by
        have e := P.2.2.2.2
        exact ⟨by rw [e _ (by omega)]; exact d4, by rw [e _ (by omega)]; exact d5, by rw [e _ (by omega)]; exact d6, by rw [e _ (by omega)]; exact d7⟩
      have ob : ∀ b, b ≠ g → X.heap[b]? = wr.heap[b]? := fun b hb => by
        rw [hX]
        rw [Below.heap_setCell _ _ _ _ hb, Below.heap_setCell _ _ _ _ hb, Below.heap_setCell _ _ _ _ hb, Below.heap_setCell _ _ _ _ hb]
      have A1 : Hid (OwnB X B x.a1 x.b.xs) := o1.blk OX.out.size fun b hb => ob b fun e => s1.1 (by rw [← e]; exact hb)
      have A2 : Hid (OwnB X B x.a2 x.b.ys) := o2.blk OX.out.size fun b hb => ob b fun e => s1.2 (by rw [← e]; exact hb)
      have S1 : Hid (blk1 x ≠ some g ∧ blk2 x ≠ some g) := s1
      have S2 : Hid (∀ b, blk1 x = some b → blk2 x ≠ some b) := s2
      have HX : Hid (X = _) := hX
      have FF := FR.out
      clear hX P ob o1 o2 s1 s2
      go_wp2_with fail
      rw [← HX.out]
      refine (markReadB x.a1 x.c1 x.b.xs.length B x.b.xs (k + 1 + 1 + 1 + 1) X A1.out rfl (by omega) (by omega) (by omega)).mono ?_
      rintro e w1 ⟨rfl, p1, t1⟩
      have V1 : Hid (OneV g j x X w1) := OneV.of1 t1 S1.out.1
      have B1 : Hid (OwnB w1 B x.a1 (marks (k + 1 + 1 + 1 + 1) x.b.xs.length)) := p1
      have B2 : Hid (OwnB w1 B x.a2 x.b.ys) := A2.out.blk t1.size fun b hb => t1.heap fun e => S2.out b e hb
      have C1 : Hid (∀ o, w1.cell? ⟨g, o, none⟩ = X.cell? ⟨g, o, none⟩) := fun o => World.cell?_of_block (w := X) (a := ⟨g, o, none⟩) (t1.heap S1.out.1)
      have G5 := (C1.out (j * 8 + 5)).trans R.out.2.1
      clear p1 t1
      go_wp2_with fail
      refine (markPutB x.a2 x.c2 x.b.ys.length B x.b.ys (k + 1 + 1 + 1 + 1 + 2 * x.b.xs.length) w1 B2.out rfl (by omega) (by omega) (by omega)).mono ?_
      rintro e w2 ⟨rfl, p2, t2⟩
      have V2 : Hid (OneV g j x wr w2) := (OX.out.trans V1.out).trans (OneV.of2 t2 S1.out.2)
      have D2 : Hid (OwnB w2 B x.a2 (marks (k + 1 + 1 + 1 + 1 + 2 * x.b.xs.length) x.b.ys.length)) := p2
      have D1 : Hid (OwnB w2 B x.a1 (marks (k + 1 + 1 + 1 + 1) x.b.xs.length)) := B1.out.blk t2.size fun b hb => t2.heap fun e => S2.out b (by rw [marks_length] at hb; exact hb) e
      have C2 : Hid (∀ o, w2.cell? ⟨g, o, none⟩ = X.cell? ⟨g, o, none⟩) := fun o => (World.cell?_of_block (w := w1) (a := ⟨g, o, none⟩) (t2.heap S1.out.2)).trans (C1.out o)
      have F2 : ∀ o, w2.frozen? ⟨g, o, none⟩ = false := fun o => (V2.out.fr o).trans (FF o)
      have G6 := (C2.out (j * 8 + 6)).trans R.out.2.2.1
      have G7 := (C2.out (j * 8 + 7)).trans R.out.2.2.2
      clear p2 t2 G5
      go_wp2_with fail
      have e1 : j * 8 + 1 + 3 + 2 = j * 8 + 6 := by omega
      have e2 : j * 8 + 1 + 3 + 3 = j * 8 + 7 := by omega
      simp only [e1, e2]
      obtain ⟨Y, hY⟩ : ∃ Y, Y = (w2.setCell ⟨g, j * 8 + 6, none⟩ (.int .i64 (k + 1 + 1 + 1 + 1 + 2 * x.b.xs.length + 2 * x.b.ys.length))).setCell ⟨g, j * 8 + 7, none⟩ (.int .i64 (k + 1 + 1 + 1 + 1 + 2 * x.b.xs.length + 2 * x.b.ys.length + 1)) := ⟨_, rfl⟩
      rw [← hY]
      have VY : OneV g j x w2 Y := by
        rw [hY]
        exact (OneV.set g j x w2 _ (by omega) _).trans (OneV.set g j x _ _ (by omega) _)
      have yb : ∀ b, b ≠ g → Y.heap[b]? = w2.heap[b]? := fun b hb => by
        rw [hY, Below.heap_setCell _ _ _ _ hb, Below.heap_setCell _ _ _ _ hb]
      have yo : ∀ o, o ≠ j * 8 + 6 → o ≠ j * 8 + 7 → Y.cell? ⟨g, o, none⟩ = X.cell? ⟨g, o, none⟩ := fun o h6 h7 => by
        rw [hY, setCell_cell_other _ _ _ _ _ (fun e => h7 e.symm), setCell_cell_other _ _ _ _ _ (fun e => h6 e.symm)]
        exact C2.out o
      have y6 : Y.cell? ⟨g, j * 8 + 6, none⟩ = some (.int .i64 (k + 1 + 1 + 1 + 1 + 2 * x.b.xs.length + 2 * x.b.ys.length)) := by
        rw [hY, setCell_cell_other _ _ _ _ _ (by omega)]
        exact setCell_cell_same _ _ _ _ _ G6
      have y7 : Y.cell? ⟨g, j * 8 + 7, none⟩ = some (.int .i64 (k + 1 + 1 + 1 + 1 + 2 * x.b.xs.length + 2 * x.b.ys.length + 1)) := by
        rw [hY]
        exact setCell_cell_same _ _ _ _ (.int .i64 x.b.k) (by rw [setCell_cell_other _ _ _ _ _ (by omega)]; exact G7)
      clear hY
      have k4 : k + 4 = k + 1 + 1 + 1 + 1 := by omega
      have CY : C8 Y g (j * 8) (markedV k x) := by
        refine ⟨?_, ?_, ?_, ?_, ?_, ?_, ?_, ?_⟩
        · rw [yo _ (by omega) (by omega)]; exact PX.out.1
        · rw [yo _ (by omega) (by omega)]; exact PX.out.2.1
        · rw [yo _ (by omega) (by omega), PX.out.2.2.1]; simp only [markedV]; congr 2; omega
        · rw [yo _ (by omega) (by omega), PX.out.2.2.2]; simp only [markedV]; congr 2; omega
        · rw [yo _ (by omega) (by omega), R.out.1]; simp only [markedV, marks_length]
        · rw [yo _ (by omega) (by omega), R.out.2.1]; simp only [markedV, marks_length]
        · rw [y6]; simp only [markedV]; congr 2; omega
        · rw [y7]; simp only [markedV]; congr 2; omega
      have Z := STEP.out Y (V2.out.trans VY) CY
        (by simp only [markedV]; rw [k4]
            exact D1.out.blk VY.size fun b hb => yb b fun e => S1.out.1 (by rw [marks_length] at hb; rw [← e]; exact hb))
        (by simp only [markedV]; rw [k4]
            exact D2.out.blk VY.size fun b hb => yb b fun e => S1.out.2 (by rw [marks_length] at hb; rw [← e]; exact hb))
      refine ⟨⟨j + 1, by omega, by go_num, ?_, Z.1, Z.2⟩, ?_⟩
      · have := NX.out; have := HK.out
        congr 1; omega
      · simp only [intOf]; omega
    · have hji : ¬ (j : Int) < (vs.length : Int) := by omega
      obtain rfl : j = vs.length := by omega
      go_wp2_with fail
      go_ret
      exact ⟨rfl, OV.out, MV.out⟩
end Go.Proofs.Ytfifiobcmdmefaa.Own

namespace Go.Proofs.Ytfifiobcmdmefaa.Own
open Go.RowKit
set_option linter.unusedVariables false
set_option linter.unusedSimpArgs false

set_option maxRecDepth 100000 in
set_option maxHeartbeats 4000000 in
theorem heldVoteS (g c B : Nat) (vs : List VM) (k0 : Int) (w : World) (h : OwnVs w B g (mixV k0 vs vs.length)) (hn : vs.length ≤ 2 ^ 30) (hk0 : 0 ≤ k0) (hk1 : k0 ≤ 2 ^ 30) (hs : stepsV vs vs.length ≤ 2 ^ 30) :
    Calls Try.prog 115 #[.slice (some ⟨g, 0, none⟩) vs.length c, .int .i64 k0] w fun e w' => e = .returned (.int .i64 (k0 + (stepsV vs vs.length : Nat))) ∧ w' = w := by
  have HS : Hid (stepsV vs vs.length ≤ 2 ^ 30) := hs
  have OV : Hid (OwnVs w B g (mixV k0 vs vs.length)) := h
  clear h hs
  go_enter Try.func115, Try.ntmps115
  go_wp2_with fail
  go_loopw [1, 5] (fun q i wr => ∃ j : Nat, j ≤ vs.length ∧ i = .int .i64 j ∧ q = .int .i64 (k0 + (stepsV vs j : Nat)) ∧ wr = w) (fun _ i _ => vs.length - (intOf i).toNat)
  case atStart => exact ⟨0, Nat.zero_le _, rfl, by simp [stepsV], rfl⟩
  case round =>
    obtain ⟨j, hj, rfl, rfl, rfl⟩ := hrel
    by_cases hlt : j < vs.length
    · have hji : (j : Int) < (vs.length : Int) := by omega
      have hjm : j < (mixV k0 vs vs.length).length := by rw [mixV_len]; exact hlt
      have mj : (mixV k0 vs vs.length).getD j v0 = markedV (k0 + (stepsV vs j : Nat)) (vs.getD j v0) := by rw [mixV_at _ _ _ hlt, if_pos hlt]
      have cj := OV.out.cell j hjm
      obtain ⟨o1, o2⟩ := OV.out.own j hjm
      rw [mj] at cj o1 o2
      obtain ⟨x, hx⟩ : ∃ x, x = vs.getD j v0 := ⟨_, rfl⟩
      have st := stepsV_mono vs (show j + 1 ≤ vs.length by omega)
      have HSn := HS.out
      have NX : Hid (stepsV vs (j + 1) = stepsV vs j + (6 + 2 * x.b.xs.length + 2 * x.b.ys.length)) := by show _ = _; rw [hx]; rfl
      rw [← hx] at cj o1 o2
      have xl : x.b.xs.length ≤ 2 ^ 30 ∧ x.b.ys.length ≤ 2 ^ 30 ∧ stepsV vs j ≤ 2 ^ 30 := by have := NX.out; omega
      clear hx mj hjm HSn st
      obtain ⟨k, hk⟩ : ∃ k : Int, k = k0 + (stepsV vs j : Nat) := ⟨_, rfl⟩
      have kb0 : 0 ≤ k := by omega
      have kb1 : k ≤ 2 ^ 31 := by omega
      rw [← hk] at cj o1 o2 ⊢
      have HK : Hid (k = k0 + (stepsV vs j : Nat)) := hk
      obtain ⟨xl1, xl2, _⟩ := xl
      clear hk
      have e2 : k + 2 = k + 1 + 1 := by omega
      have e3 : k + 3 = k + 1 + 1 + 1 := by omega
      have e4 : k + 4 = k + 1 + 1 + 1 + 1 := by omega
      have e5 : k + 5 + 2 * (x.b.xs.length : Int) + 2 * x.b.ys.length = k + 1 + 1 + 1 + 1 + 2 * x.b.xs.length + 2 * x.b.ys.length + 1 := by omega
      simp only [C8, markedV, marks_length, e5] at cj
      simp only [e2, e3, e4] at cj
      simp only [markedV, e4] at o1 o2
      have A1 : Hid (OwnB wr B x.a1 (marks (k + 1 + 1 + 1 + 1) x.b.xs.length)) := o1
      have A2 : Hid (OwnB wr B x.a2 (marks (k + 1 + 1 + 1 + 1 + 2 * x.b.xs.length) x.b.ys.length)) := o2
      clear o1 o2 e2 e3 e4 e5
      obtain ⟨d0, d1, d2, d3, d4, d5, d6, d7⟩ := cj
      have p1 : ¬ k + 1 + 1 + 1 + 1 + 2 * (x.b.xs.length : Int) < 0 := by omega
      have p2 : ¬ k + 1 + 1 + 1 + 1 + 2 * (x.b.xs.length : Int) + 2 * (x.b.ys.length : Int) < 0 := by omega
      go_wp2_with fail
      refine (heldReadB x.a1 x.c1 x.b.xs.length B (k + 1 + 1 + 1 + 1) wr A1.out (by omega) (by omega) (by omega)).mono ?_
      rintro e w1 ⟨rfl, hw⟩
      subst hw
      go_wp2_with fail
      refine (heldPutB x.a2 x.c2 x.b.ys.length B (k + 1 + 1 + 1 + 1 + 2 * x.b.xs.length) w1 A2.out (by omega) (by omega) (by omega)).mono ?_
      rintro e w2 ⟨rfl, hw⟩
      subst hw
      go_wp2_with fail
      refine ⟨⟨j + 1, by omega, by go_num, ?_, by first | trivial | rfl⟩, ?_⟩
      · have := NX.out; have := HK.out
        congr 1; omega
      · simp only [intOf]; omega
    · have hji : ¬ (j : Int) < (vs.length : Int) := by omega
      obtain rfl : j = vs.length := by omega
      go_wp2_with fail
      go_ret
      exact ⟨rfl, rfl⟩
end Go.Proofs.Ytfifiobcmdmefaa.Own

namespace Go.Proofs.Ytfifiobcmdmefaa.Own
open Go.RowKit
set_option linter.unusedVariables false
set_option linter.unusedSimpArgs false

set_option maxHeartbeats 1000000 in
theorem markVoteS0 (a : Option Addr) (c : Nat) (k : Int) (w : World) :
    Calls Try.prog 112 #[.slice a 0 c, .int .i64 k] w fun e w' => e = .returned (.int .i64 k) ∧ w' = w := by
  go_enter Try.func112, Try.ntmps112
  go_wp2
  go_loop [1, 5] (fun q i => i = .int .i64 0 ∧ q = .int .i64 k) (fun _ _ => 0)
  case atStart => exact ⟨rfl, rfl⟩
  case round =>
    obtain ⟨rfl, rfl⟩ := hrel
    go_wp2
    go_ret
    exact ⟨rfl, rfl⟩
set_option maxHeartbeats 1000000 in
theorem heldVoteS0 (a : Option Addr) (c : Nat) (k : Int) (w : World) :
    Calls Try.prog 115 #[.slice a 0 c, .int .i64 k] w fun e w' => e = .returned (.int .i64 k) ∧ w' = w := by
  go_enter Try.func115, Try.ntmps115
  go_wp2
  go_loop [1, 5] (fun q i => i = .int .i64 0 ∧ q = .int .i64 k) (fun _ _ => 0)
  case atStart => exact ⟨rfl, rfl⟩
  case round =>
    obtain ⟨rfl, rfl⟩ := hrel
    go_wp2
    go_ret
    exact ⟨rfl, rfl⟩

/-- The marks of a list that appends made, whatever its length. -/
theorem markOwnL (v : Value) (B : Nat) (vs : List VM) (k0 : Int) (w : World) (h : OwnL w B v vs) (hn : vs.length ≤ 2 ^ 30) (hk0 : 0 ≤ k0) (hk1 : k0 ≤ 2 ^ 30) (hs : stepsV vs vs.length ≤ 2 ^ 30) :
    Calls Try.prog 112 #[v, .int .i64 k0] w fun e w' => e = .returned (.int .i64 (k0 + (stepsV vs vs.length : Nat))) ∧ (vs ≠ [] → ∃ g cap, v = .slice (some ⟨g, 0, none⟩) vs.length cap ∧ B ≤ g ∧ OwnVs w' B g (mixV k0 vs vs.length) ∧ ManyV g vs w w' ∧ Sep g vs) ∧ (vs = [] → w' = w) := by
  by_cases h0 : vs = []
  · subst h0
    obtain ⟨_, hr⟩ := h.row
    rcases hr with ⟨hv, _⟩ | ⟨g, cap, cur, hv, _⟩
    · rw [hv]
      refine (markVoteS0 none 0 k0 w).mono ?_
      rintro e w' ⟨rfl, rfl⟩
      exact ⟨by simp [stepsV], fun h => absurd rfl h, fun _ => rfl⟩
    · rw [hv]
      refine (markVoteS0 (some ⟨g, 0, none⟩) cap k0 w).mono ?_
      rintro e w' ⟨rfl, rfl⟩
      exact ⟨by simp [stepsV], fun h => absurd rfl h, fun _ => rfl⟩
  · obtain ⟨g, cap, hv, hcap, ho, hsep⟩ := h.vs h0
    rw [hv]
    refine (markVoteS g cap B vs k0 w ho hsep hn hk0 hk1 hs).mono ?_
    rintro e w' ⟨rfl, h1, h2⟩
    exact ⟨rfl, fun _ => ⟨g, cap, rfl, ho.lo, h1, h2, hsep⟩, fun h => absurd h h0⟩
/-- And what is held of them. -/
theorem heldOwnL (v : Value) (B : Nat) (vs : List VM) (k0 : Int) (w : World) (hv0 : vs = [] → ∃ a c, v = .slice a 0 c) (hv1 : vs ≠ [] → ∃ g cap, v = .slice (some ⟨g, 0, none⟩) vs.length cap ∧ OwnVs w B g (mixV k0 vs vs.length)) (hn : vs.length ≤ 2 ^ 30) (hk0 : 0 ≤ k0) (hk1 : k0 ≤ 2 ^ 30) (hs : stepsV vs vs.length ≤ 2 ^ 30) :
    Calls Try.prog 115 #[v, .int .i64 k0] w fun e w' => e = .returned (.int .i64 (k0 + (stepsV vs vs.length : Nat))) ∧ w' = w := by
  by_cases h0 : vs = []
  · obtain ⟨a, c, rfl⟩ := hv0 h0
    subst h0
    refine (heldVoteS0 a c k0 w).mono ?_
    rintro e w' ⟨rfl, rfl⟩
    exact ⟨by simp [stepsV], rfl⟩
  · obtain ⟨g, cap, rfl, ho⟩ := hv1 h0
    exact heldVoteS g cap B vs k0 w ho hn hk0 hk1 hs
end Go.Proofs.Ytfifiobcmdmefaa.Own

namespace Go.Proofs.Ytfifiobcmdmefaa.Own
open Go.RowKit
set_option linter.unusedVariables false
set_option linter.unusedSimpArgs false

set_option maxHeartbeats 400000 in
theorem toReq (a b : Int) (w : World) : Calls Try.prog 154 #[.agg #[.int .i64 a, .int .i64 b]] w fun e w' => e = .returned (.agg #[.int .i64 a, .int .i64 b]) ∧ Below w.heap.size w w' := by
  go_enter Try.func154, Try.ntmps154
  go_wp2
  refine bodyPost_ret (v := .agg #[.int .i64 a, .int .i64 b]) (by simp [results, Try.results154, go_sem]) rfl ⟨rfl, ?_⟩
  exact ((((Below.refl _ _).alloc (Nat.le_refl _) _).alloc (by simp) _).alloc (by simp; omega) _)

theorem eqReq (a b : Int) (w : World) : Calls Try.prog 125 #[.agg #[.int .i64 a, .int .i64 b], .agg #[.int .i64 a, .int .i64 b]] w fun e w' => e = .returned (.bool true) ∧ Below w.heap.size w w' := by
  have ea : (a != a) = false := by simp
  have eb : (b != b) = false := by simp
  go_enter Try.func125, Try.ntmps125
  go_wp2
  go_ret
  exact ⟨rfl, ((Below.refl _ _).alloc (Nat.le_refl _) _).alloc (by simp) _⟩

theorem szEntry (n : Bool) (p q : Int) (a1 a2 : Option Addr) (n1 c1 n2 c2 : Nat) (v k left : Int) (w : World) (h1 : n1 ≤ maxLen) (h2 : n2 ≤ maxLen) (h0 : 0 ≤ left) (hm : left ≤ 2 ^ 60) :
    Calls Try.prog 146 #[.agg #[.bool n, .int .i64 p, .int .i64 q, .slice a1 n1 c1, .slice a2 n2 c2, .int .i64 v, .int .i64 k], .int .i64 left] w fun e w' => e = .returned (.int .i64 (if left - n1 - n2 < 0 then -1 else left - n1 - n2)) ∧ Below w.heap.size w w' := by
  obtain ⟨W, hW⟩ : ∃ W, W = w.alloc (.cells #[.bool n, .int .i64 p, .int .i64 q, .slice a1 n1 c1, .slice a2 n2 c2, .int .i64 v, .int .i64 k] 168) := ⟨_, rfl⟩
  have BW : Hid (Below w.heap.size w W) := by show Below _ _ _; rw [hW]; exact (Below.refl _ _).alloc (Nat.le_refl _) _
  have HW : Hid (W = _) := hW
  clear hW
  by_cases hl : left - n1 - n2 < 0
  · go_enter Try.func146, Try.ntmps146
    go_wp2_with fail
    rw [← HW.out]
    refine (szRun a1 a2 n1 c1 n2 c2 v k left W h1 h2 h0 hm).mono ?_
    rintro e w1 ⟨rfl, b1⟩
    rw [if_pos (by omega)]
    have B1 : Hid (Below w.heap.size w w1) := BW.out.trans (b1.mono BW.out.size)
    clear b1
    go_wp2_with fail
    go_ret
    exact ⟨rfl, B1.out⟩
  · go_enter Try.func146, Try.ntmps146
    go_wp2_with fail
    rw [← HW.out]
    refine (szRun a1 a2 n1 c1 n2 c2 v k left W h1 h2 h0 hm).mono ?_
    rintro e w1 ⟨rfl, b1⟩
    rw [if_neg (by omega)]
    have B1 : Hid (Below w.heap.size w w1) := BW.out.trans (b1.mono BW.out.size)
    clear b1
    go_wp2_with fail
    go_ret
    exact ⟨rfl, B1.out⟩

set_option maxRecDepth 100000 in
set_option maxHeartbeats 1000000 in
theorem eqEntry (n : Bool) (p q : Int) (a1 a2 b1 b2 : Option Addr) (c1 c2 d1 d2 : Nat) (xs ys : List P2) (v k : Int) (w : World) (h1 : Sl w a1 xs) (h2 : Sl w a2 ys) (h3 : Sl w b1 xs) (h4 : Sl w b2 ys)
    (n1 : xs.length ≤ 2 ^ 40) (n2 : ys.length ≤ 2 ^ 40) :
    Calls Try.prog 90 #[.agg #[.bool n, .int .i64 p, .int .i64 q, .slice a1 xs.length c1, .slice a2 ys.length c2, .int .i64 v, .int .i64 k], .agg #[.bool n, .int .i64 p, .int .i64 q, .slice b1 xs.length d1, .slice b2 ys.length d2, .int .i64 v, .int .i64 k]] w fun e w' => e = .returned (.bool true) ∧ Below w.heap.size w w' := by
  have H1 : Hid (Sl w a1 xs) := h1
  have H2 : Hid (Sl w a2 ys) := h2
  have H3 : Hid (Sl w b1 xs) := h3
  have H4 : Hid (Sl w b2 ys) := h4
  clear h1 h2 h3 h4
  obtain ⟨W, hW⟩ : ∃ W, W = (w.alloc (.cells #[.bool n, .int .i64 p, .int .i64 q, .slice a1 xs.length c1, .slice a2 ys.length c2, .int .i64 v, .int .i64 k] 33)).alloc (.cells #[.bool n, .int .i64 p, .int .i64 q, .slice b1 xs.length d1, .slice b2 ys.length d2, .int .i64 v, .int .i64 k] 33) := ⟨_, rfl⟩
  have BW : Hid (Below w.heap.size w W) := by
    show Below _ _ _
    rw [hW]; exact ((Below.refl _ _).alloc (Nat.le_refl _) _).alloc (by simp) _
  have G0 : Hid (Blk W w.heap.size #[.bool n, .int .i64 p, .int .i64 q, .slice a1 xs.length c1, .slice a2 ys.length c2, .int .i64 v, .int .i64 k] 33) := by show Blk _ _ _ _; rw [hW]; exact (Blk.new _ _ _).alloc _
  have G1 : Hid (Blk W (w.heap.size + 1) #[.bool n, .int .i64 p, .int .i64 q, .slice b1 xs.length d1, .slice b2 ys.length d2, .int .i64 v, .int .i64 k] 33) := by show Blk _ _ _ _; rw [hW]; exact Blk.new2 _ _ _ _
  have HW : Hid (W = _) := hW
  clear hW
  have en : (n != n) = false := by simp
  go_enter Try.func90, Try.ntmps90
  go_wp2_with fail
  rw [← HW.out]
  refine (eqReq p q W).mono ?_
  rintro e w1 ⟨rfl, b1'⟩
  have B1 : Hid (Below w.heap.size w w1) := BW.out.trans (b1'.mono BW.out.size)
  obtain ⟨q0, q1, q2, q3, q4, q5, q6⟩ := (G0.out.keep b1').cells7
  obtain ⟨r0, r1, r2, r3, r4, r5, r6⟩ := (G1.out.keep b1').cells7
  clear b1'
  go_wp2_with fail
  refine (eqRun a1 a2 b1 b2 c1 c2 d1 d2 xs ys xs ys v k v k w1 (H1.out.below B1.out) (H2.out.below B1.out) (H3.out.below B1.out) (H4.out.below B1.out) n1 n2 n1 n2 ⟨rfl, rfl, rfl, rfl⟩).mono ?_
  rintro e w2 ⟨rfl, b2'⟩
  have B2 : Hid (Below w.heap.size w w2) := B1.out.trans (b2'.mono B1.out.size)
  clear b2' q0 q1 q2 q3 q4 q5 q6 r0 r1 r2 r3 r4 r5 r6
  go_wp2_with fail
  go_ret
  exact ⟨rfl, B2.out⟩

set_option maxRecDepth 100000 in
set_option maxHeartbeats 1000000 in
theorem toEntry (n : Bool) (p q : Int) (a1 a2 : Option Addr) (c1 c2 : Nat) (xs ys : List P2) (v k : Int) (w : World) (h1 : Sl w a1 xs) (h2 : Sl w a2 ys) (hn1 : xs.length ≤ 2 ^ 40) (hn2 : ys.length ≤ 2 ^ 40) :
    Calls Try.prog 152 #[.agg #[.bool n, .int .i64 p, .int .i64 q, .slice a1 xs.length c1, .slice a2 ys.length c2, .int .i64 v, .int .i64 k]] w fun e w' => ∃ g1 g2, e = .returned (.agg #[.bool n, .int .i64 p, .int .i64 q, .slice (some ⟨g1, 0, none⟩) xs.length xs.length, .slice (some ⟨g2, 0, none⟩) ys.length ys.length, .int .i64 v, .int .i64 k]) ∧ RunOwn w' w.heap.size g1 g2 xs ys ∧ Below w.heap.size w w' := by
  have H1 : Hid (Sl w a1 xs) := h1
  have H2 : Hid (Sl w a2 ys) := h2
  clear h1 h2
  obtain ⟨W, hW⟩ : ∃ W, W = ((w.alloc (.cells #[.bool n, .int .i64 p, .int .i64 q, .slice a1 xs.length c1, .slice a2 ys.length c2, .int .i64 v, .int .i64 k] 168)).alloc (.cells #[.bool false, .int .i64 0, .int .i64 0, .slice none 0 0, .slice none 0 0, .int .i64 0, .int .i64 0] 33)).alloc (.cells #[.bool n, .int .i64 0, .int .i64 0, .slice none 0 0, .slice none 0 0, .int .i64 0, .int .i64 0] 33) := ⟨_, rfl⟩
  have BW : Hid (Below w.heap.size w W) := by
    show Below _ _ _
    rw [hW]; exact ((((Below.refl _ _).alloc (Nat.le_refl _) _).alloc (by simp) _).alloc (by simp; omega) _)
  have SW : Hid (W.heap.size = w.heap.size + 3) := by show _ = _; rw [hW]; simp
  have G0 : Hid (Blk W w.heap.size #[.bool n, .int .i64 p, .int .i64 q, .slice a1 xs.length c1, .slice a2 ys.length c2, .int .i64 v, .int .i64 k] 168) := by
    show Blk _ _ _ _; rw [hW]; exact ((Blk.new _ _ _).alloc _).alloc _
  have G1 : Hid (Blk W (w.heap.size + 1) #[.bool false, .int .i64 0, .int .i64 0, .slice none 0 0, .slice none 0 0, .int .i64 0, .int .i64 0] 33) := by
    show Blk _ _ _ _; rw [hW]; exact (Blk.new2 _ _ _ _).alloc _
  have G2 : Hid (Blk W (w.heap.size + 1 + 1) #[.bool n, .int .i64 0, .int .i64 0, .slice none 0 0, .slice none 0 0, .int .i64 0, .int .i64 0] 33) := by
    show Blk _ _ _ _; rw [hW]; exact Blk.new3 _ _ _ _ _
  have HW : Hid (W = _) := hW
  clear hW
  go_enter Try.func152, Try.ntmps152
  go_wp2_with fail
  rw [← HW.out]
  refine (toReq p q W).mono ?_
  rintro e w1 ⟨rfl, b1⟩
  have B1 : Hid (Below w.heap.size w w1) := BW.out.trans (b1.mono BW.out.size)
  have S1 : Hid (W.heap.size ≤ w1.heap.size) := b1.size
  have D0 : Hid (Blk w1 w.heap.size _ _) := G0.out.keep b1
  have D1 : Hid (Blk w1 (w.heap.size + 1) _ _) := G1.out.keep b1
  have D2 : Hid (Blk w1 (w.heap.size + 1 + 1) _ _) := G2.out.keep b1
  clear b1
  obtain ⟨q0, q1, q2, q3, q4, q5, q6⟩ := D0.out.cells7
  obtain ⟨r0, r1, r2, r3, r4, r5, r6⟩ := D2.out.cells7
  have f1 := D2.out.frozen 1
  have f2 := D2.out.frozen 2
  go_wp2_with fail
  obtain ⟨W2, hW2⟩ : ∃ W2, W2 = (w1.setCell ⟨w.heap.size + 1 + 1, 1, none⟩ (.int .i64 p)).setCell ⟨w.heap.size + 1 + 1, 2, none⟩ (.int .i64 q) := ⟨_, rfl⟩
  have E1 : Hid (Blk W2 (w.heap.size + 1) #[.bool false, .int .i64 0, .int .i64 0, .slice none 0 0, .slice none 0 0, .int .i64 0, .int .i64 0] 33) := by show Blk _ _ _ _; rw [hW2]; exact (D1.out.other (by omega) _ _).other (by omega) _ _
  have E2 : Hid (Blk W2 (w.heap.size + 1 + 1) #[.bool n, .int .i64 p, .int .i64 q, .slice none 0 0, .slice none 0 0, .int .i64 0, .int .i64 0] 33) := by show Blk _ _ _ _; rw [hW2]; exact (D2.out.set _ _).set _ _
  have B2 : Hid (Below w.heap.size w W2) := by show Below _ _ _; rw [hW2]; exact (B1.out.setCell (by show w.heap.size ≤ w.heap.size + 1 + 1; omega) _).setCell (by show w.heap.size ≤ w.heap.size + 1 + 1; omega) _
  have S2 : Hid (w.heap.size + 3 ≤ W2.heap.size) := by show _ ≤ _; rw [hW2]; simp [World.setCell]; have := S1.out; have := SW.out; omega
  have HW2 : Hid (W2 = _) := hW2
  rw [← HW2.out]
  clear hW2 q0 q1 q2 q3 q4 q5 q6 r0 r1 r2 r3 r4 r5 r6 f1 f2
  refine (toRun a1 a2 c1 c2 xs ys v k W2 (H1.out.below B2.out) (H2.out.below B2.out) hn1 hn2).mono ?_
  rintro e w3 ⟨g1, g2, rfl, own, b3⟩
  have F1 : Hid (Blk w3 (w.heap.size + 1) _ _) := E1.out.keep b3
  have F2 : Hid (Blk w3 (w.heap.size + 1 + 1) _ _) := E2.out.keep b3
  have B3 : Hid (Below w.heap.size w w3) := B2.out.trans (b3.mono B2.out.size)
  have O3 : Hid (RunOwn w3 w.heap.size g1 g2 xs ys) := ⟨Nat.le_trans B2.out.size own.1, Nat.le_trans B2.out.size own.2.1, own.2.2⟩
  have N3 : Hid (w.heap.size + 3 ≤ g1 ∧ w.heap.size + 3 ≤ g2) := ⟨Nat.le_trans S2.out own.1, Nat.le_trans S2.out own.2.1⟩
  clear b3 own
  obtain ⟨i0, i1, i2, i3, i4, i5, i6⟩ := F1.out.cells7
  obtain ⟨o0, o1, o2, o3, o4, o5, o6⟩ := F2.out.cells7
  have fo := F2.out.frozen
  have fi := F1.out.frozen
  go_wp2
  refine bodyPost_ret (v := .agg #[.bool n, .int .i64 p, .int .i64 q, .slice (some ⟨g1, 0, none⟩) xs.length xs.length, .slice (some ⟨g2, 0, none⟩) ys.length ys.length, .int .i64 v, .int .i64 k]) (by simp [results, Try.results152, go_sem, i0, i1, i2, i3, i4, i5, i6]) rfl ⟨g1, g2, rfl, ?_, ?_⟩
  · have KK : KeepFrom (w.heap.size + 3) w3 _ := (((((((((((KeepFrom.refl (w.heap.size + 3) w3).setCell (p := ⟨w.heap.size + 1 + 1, 3, none⟩) (by show w.heap.size + 1 + 1 < _; omega) (.slice (some ⟨g1, 0, none⟩) xs.length xs.length)).setCell (p := ⟨w.heap.size + 1 + 1, 4, none⟩) (by show w.heap.size + 1 + 1 < _; omega) (.slice (some ⟨g2, 0, none⟩) ys.length ys.length)).setCell (p := ⟨w.heap.size + 1 + 1, 5, none⟩) (by show w.heap.size + 1 + 1 < _; omega) (.int .i64 v)).setCell (p := ⟨w.heap.size + 1 + 1, 6, none⟩) (by show w.heap.size + 1 + 1 < _; omega) (.int .i64 k)).setCell (p := ⟨w.heap.size + 1, 0, none⟩) (by show w.heap.size + 1 < _; omega) (.bool n)).setCell (p := ⟨w.heap.size + 1, 1, none⟩) (by show w.heap.size + 1 < _; omega) (.int .i64 p)).setCell (p := ⟨w.heap.size + 1, 2, none⟩) (by show w.heap.size + 1 < _; omega) (.int .i64 q)).setCell (p := ⟨w.heap.size + 1, 3, none⟩) (by show w.heap.size + 1 < _; omega) (.slice (some ⟨g1, 0, none⟩) xs.length xs.length)).setCell (p := ⟨w.heap.size + 1, 4, none⟩) (by show w.heap.size + 1 < _; omega) (.slice (some ⟨g2, 0, none⟩) ys.length ys.length)).setCell (p := ⟨w.heap.size + 1, 5, none⟩) (by show w.heap.size + 1 < _; omega) (.int .i64 v)).setCell (p := ⟨w.heap.size + 1, 6, none⟩) (by show w.heap.size + 1 < _; omega) (.int .i64 k)
    exact O3.out.keep KK N3.out.1 N3.out.2
  · have s2 : w.heap.size ≤ w.heap.size + 1 + 1 := by omega
    have s1 : w.heap.size ≤ w.heap.size + 1 := by omega
    exact ((((((((((B3.out.setCell s2 _).setCell s2 _).setCell s2 _).setCell s2 _).setCell s1 _).setCell s1 _).setCell s1 _).setCell s1 _).setCell s1 _).setCell s1 _).setCell s1 _
end Go.Proofs.Ytfifiobcmdmefaa.Own

namespace Go.Proofs.Ytfifiobcmdmefaa.Own
open Go.RowKit Go.Sort
set_option linter.unusedVariables false
set_option linter.unusedSimpArgs false

set_option maxRecDepth 100000 in
set_option maxHeartbeats 1000000 in
theorem eqVote (m : Int) (n : Bool) (p q : Int) (a1 a2 b1 b2 : Option Addr) (c1 c2 d1 d2 : Nat) (xs ys : List P2) (v k : Int) (w : World) (h1 : Sl w a1 xs) (h2 : Sl w a2 ys) (h3 : Sl w b1 xs) (h4 : Sl w b2 ys)
    (n1 : xs.length ≤ 2 ^ 40) (n2 : ys.length ≤ 2 ^ 40) :
    Calls Try.prog 164 #[.agg #[.int .i64 m, .bool n, .int .i64 p, .int .i64 q, .slice a1 xs.length c1, .slice a2 ys.length c2, .int .i64 v, .int .i64 k], .agg #[.int .i64 m, .bool n, .int .i64 p, .int .i64 q, .slice b1 xs.length d1, .slice b2 ys.length d2, .int .i64 v, .int .i64 k]] w fun e w' => e = .returned (.bool true) ∧ Below w.heap.size w w' := by
  have H1 : Hid (Sl w a1 xs) := h1
  have H2 : Hid (Sl w a2 ys) := h2
  have H3 : Hid (Sl w b1 xs) := h3
  have H4 : Hid (Sl w b2 ys) := h4
  clear h1 h2 h3 h4
  obtain ⟨W, hW⟩ : ∃ W, W = (w.alloc (.cells #[.int .i64 m, .bool n, .int .i64 p, .int .i64 q, .slice a1 xs.length c1, .slice a2 ys.length c2, .int .i64 v, .int .i64 k] 42)).alloc (.cells #[.int .i64 m, .bool n, .int .i64 p, .int .i64 q, .slice b1 xs.length d1, .slice b2 ys.length d2, .int .i64 v, .int .i64 k] 42) := ⟨_, rfl⟩
  have BW : Hid (Below w.heap.size w W) := by
    show Below _ _ _
    rw [hW]; exact ((Below.refl _ _).alloc (Nat.le_refl _) _).alloc (by simp) _
  have HW : Hid (W = _) := hW
  clear hW
  have en : (m != m) = false := by simp
  go_enter Try.func164, Try.ntmps164
  go_wp2_with fail
  rw [← HW.out]
  refine (eqEntry n p q a1 a2 b1 b2 c1 c2 d1 d2 xs ys v k W (H1.out.below BW.out) (H2.out.below BW.out) (H3.out.below BW.out) (H4.out.below BW.out) n1 n2).mono ?_
  rintro e w2 ⟨rfl, b2'⟩
  have B2 : Hid (Below w.heap.size w w2) := BW.out.trans (b2'.mono BW.out.size)
  clear b2'
  go_wp2_with fail
  go_ret
  exact ⟨rfl, B2.out⟩

set_option maxRecDepth 100000 in
set_option maxHeartbeats 4000000 in
theorem eqVoteS (a b : Option Addr) (c d : Nat) (vs us : List VM) (w : World) (h1 : SlV w a vs) (h2 : SlV w b us) (hb : bodies vs = bodies us) (hn : vs.length ≤ 2 ^ 40) (hl : ∀ i, i < vs.length → (vs.getD i v0).b.xs.length ≤ 2 ^ 40 ∧ (vs.getD i v0).b.ys.length ≤ 2 ^ 40) :
    Calls Try.prog 140 #[.slice a vs.length c, .slice b us.length d] w fun e w' => e = .returned (.bool true) ∧ Below w.heap.size w w' := by
  obtain ⟨hlen, hbod⟩ := bodies_eq hb
  have H1 : Hid (SlV w a vs) := h1
  have H2 : Hid (SlV w b us) := h2
  have HL : Hid (∀ i, i < vs.length → (vs.getD i v0).b.xs.length ≤ 2 ^ 40 ∧ (vs.getD i v0).b.ys.length ≤ 2 ^ 40) := hl
  have HB : Hid (∀ i, (vs.getD i v0).body = (us.getD i v0).body) := hbod
  rw [← hlen]
  have HE : Hid (vs.length = us.length) := hlen
  clear h1 h2 hl hb hbod hlen
  have hne : ((vs.length : Int) != (vs.length : Int)) = false := by simp
  go_enter Try.func140, Try.ntmps140
  go_wp2_with fail
  go_loopw [5] (fun i wr => ∃ k : Nat, k ≤ vs.length ∧ i = .int .i64 k ∧ Hid (Below w.heap.size w wr)) (fun i _ => vs.length - (intOf i).toNat)
  case atStart => exact ⟨0, Nat.zero_le _, rfl, Below.refl _ _⟩
  case round =>
    obtain ⟨k, hk, rfl, KR⟩ := hrel
    by_cases hlt : k < vs.length
    · have hki : (k : Int) < (vs.length : Int) := by omega
      have hlt2 : k < us.length := by rw [← HE.out]; exact hlt
      rcases H1.out.below KR.out with hh | ⟨b1, o1, rfl, _, hh⟩
      · rw [hh] at hlt; simp at hlt
      rcases H2.out.below KR.out with hg | ⟨b2, o2, rfl, _, hg⟩
      · rw [hg] at hlt2; simp at hlt2
      obtain ⟨⟨d0, d1, d2, d3, d4, d5, d6, d7⟩, s1, s2⟩ := hh k hlt
      obtain ⟨⟨f0, f1, f2, f3, f4, f5, f6, f7⟩, t1, t2⟩ := hg k hlt2
      have lx := HL.out k hlt
      have SX : Hid (Sl wr (vs.getD k v0).a1 (vs.getD k v0).b.xs ∧ Sl wr (vs.getD k v0).a2 (vs.getD k v0).b.ys) := ⟨s1, s2⟩
      have SY : Hid (Sl wr (us.getD k v0).a1 (us.getD k v0).b.xs ∧ Sl wr (us.getD k v0).a2 (us.getD k v0).b.ys) := ⟨t1, t2⟩
      obtain ⟨be, bb⟩ := body_eq (HB.out k)
      rw [← be] at f0
      rw [← bb] at f1 f2 f3 f4 f5 f6 f7 SY
      clear hh hg s1 s2 t1 t2 be bb
      generalize vs.getD k v0 = x at d0 d1 d2 d3 d4 d5 d6 d7 f0 f1 f2 f3 f4 f5 f6 f7 lx SX SY
      generalize us.getD k v0 = y at f0 f1 f2 f3 f4 f5 f6 f7 SY
      obtain ⟨xbal, ⟨xn, xp, xq, xxs, xys, xv, xk⟩, xa1, xc1, xa2, xc2⟩ := x
      obtain ⟨ybal, yb, ya1, yc1, ya2, yc2⟩ := y
      simp only at d0 d1 d2 d3 d4 d5 d6 d7 f0 f1 f2 f3 f4 f5 f6 f7 lx SX SY
      have EQ : Hid (∀ d os, Calls Try.prog 164 #[.agg #[.int .i64 xbal, .bool xn, .int .i64 xp, .int .i64 xq, .slice xa1 xxs.length xc1, .slice xa2 xys.length xc2, .int .i64 xv, .int .i64 xk], .agg #[.int .i64 xbal, .bool xn, .int .i64 xp, .int .i64 xq, .slice ya1 xxs.length yc1, .slice ya2 xys.length yc2, .int .i64 xv, .int .i64 xk]] (grow (redrawn wr d) os) fun e w'' => e = .returned (.bool true) ∧ ∃ p : Regrown, w'' = grow (redrawn wr p.d) p.os) := fun d os => by
        have hb := below_regrown wr d os
        have h := eqVote xbal xn xp xq xa1 xa2 ya1 ya2 xc1 xc2 yc1 yc2 xxs xys xv xk _ (SX.out.1.below hb) (SX.out.2.below hb) (SY.out.1.below hb) (SY.out.2.below hb) lx.1 lx.2
        exact Calls.regrown_of h
      have m0 := cell_regrown d0
      have m1 := cell_regrown d1
      have m2 := cell_regrown d2
      have m3 := cell_regrown d3
      have m4 := cell_regrown d4
      have m5 := cell_regrown d5
      have m6 := cell_regrown d6
      have m7 := cell_regrown d7
      have r0 := cell_regrown f0
      have r1 := cell_regrown f1
      have r2 := cell_regrown f2
      have r3 := cell_regrown f3
      have r4 := cell_regrown f4
      have r5 := cell_regrown f5
      have r6 := cell_regrown f6
      have r7 := cell_regrown f7
      clear d0 d1 d2 d3 d4 d5 d6 d7 f0 f1 f2 f3 f4 f5 f6 f7
      go_upto_region 6 with fail
      refine wp_region_quiet_below (by kernel_rfl) (by kernel_rfl) ?_
      repeat (go_big_quiet_step (first | (go_at_call 164; exact EQ.out _ _)))
      refine wpQuiet_nil ?_
      intro Y hw'
      obtain ⟨⟨dq, osq⟩, hw''⟩ := hw'
      have hx : Below wr.heap.size wr Y := by rw [hw'']; exact below_regrown wr dq osq
      have KY : Hid (Below w.heap.size w Y) := KR.out.trans (hx.mono KR.out.size)
      clear hx hw'' m0 m1 m2 m3 m4 m5 m6 m7 r0 r1 r2 r3 r4 r5 r6 r7
      go_wp2_with fail
      go_roundw
      case rel => exact ⟨k + 1, by omega, by go_num, KY.out⟩
      case measure => simp [intOf]; omega
    · have hki : ¬ (k : Int) < (vs.length : Int) := by omega
      go_wp2_with fail
      go_ret
      exact ⟨rfl, KR.out⟩
end Go.Proofs.Ytfifiobcmdmefaa.Own
