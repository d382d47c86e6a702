/-
  Own text, by program (gen_bid.py): the conditions of impl's bids, and what (impl.bid).promise does.
-/
import Derived.Test.YtbbbfnfpmaogoaaPk5
import Derived.Test.YtbbbfnfpmaogoaaQAccOkI
import Derived.Test.YtbbbfnfpmaogoaaQSpecList
namespace Go.Proofs.Ytbbbfnfpmaogoaa.Own
open Go.RowKit
set_option linter.unusedVariables false
set_option linter.unusedSimpArgs false

set_option maxRecDepth 100000 in
set_option maxHeartbeats 800000 in
theorem bidInBallot (m : Int) (a : Option Addr) (c : Nat) (vs : List VM) (bal slot : Int) (n : Bool) (p q : Int) (a1 a2 : Option Addr) (c1 c2 : Nat) (xs ys : List P2) (v k : Int) (w : World) :
    Calls Try.prog 73 #[.agg #[.int .i64 m, .slice a vs.length c, .int .i64 bal, .int .i64 slot, .bool n, .int .i64 p, .int .i64 q, .slice a1 xs.length c1, .slice a2 ys.length c2, .int .i64 v, .int .i64 k]] w fun e w' => e = .returned (.bool (isBal bal)) ∧ Below w.heap.size w w' := by
  obtain ⟨W, hW⟩ : ∃ W, W = w.alloc (.cells #[.int .i64 m, .slice a vs.length c, .int .i64 bal, .int .i64 slot, .bool n, .int .i64 p, .int .i64 q, .slice a1 xs.length c1, .slice a2 ys.length c2, .int .i64 v, .int .i64 k] 108) := ⟨_, rfl⟩
  have BW : Hid (Below w.heap.size w W) := by show Below _ _ _; rw [hW]; exact (Below.refl _ _).alloc (Nat.le_refl _) _
  have PW : Hid (Blk W w.heap.size #[.int .i64 m, .slice a vs.length c, .int .i64 bal, .int .i64 slot, .bool n, .int .i64 p, .int .i64 q, .slice a1 xs.length c1, .slice a2 ys.length c2, .int .i64 v, .int .i64 k] 108) := by show Blk _ _ _ _; rw [hW]; exact Blk.new _ _ _
  have HW : Hid (W = _) := hW
  clear hW
  have p2 : W.cell? ⟨w.heap.size, 2, none⟩ = some (.int .i64 bal) := by rw [PW.out.cell]; rfl
  go_enter Try.func73, Try.ntmps73
  go_wp2_with fail
  rw [← HW.out]
  refine (implIsBallot bal W).mono ?_
  rintro e w1 ⟨rfl, rfl⟩
  go_wp2_with fail
  go_ret
  exact ⟨rfl, BW.out⟩

set_option maxRecDepth 100000 in
set_option maxHeartbeats 800000 in
theorem bidKeeps (m : Int) (a : Option Addr) (c : Nat) (vs : List VM) (bal slot : Int) (n : Bool) (p q : Int) (a1 a2 : Option Addr) (c1 c2 : Nat) (xs ys : List P2) (v k : Int) (w : World) :
    Calls Try.prog 74 #[.agg #[.int .i64 m, .slice a vs.length c, .int .i64 bal, .int .i64 slot, .bool n, .int .i64 p, .int .i64 q, .slice a1 xs.length c1, .slice a2 ys.length c2, .int .i64 v, .int .i64 k]] w fun e w' => e = .returned (.bool (decide (m ≤ bal))) ∧ Below w.heap.size w w' := by
  obtain ⟨W, hW⟩ : ∃ W, W = w.alloc (.cells #[.int .i64 m, .slice a vs.length c, .int .i64 bal, .int .i64 slot, .bool n, .int .i64 p, .int .i64 q, .slice a1 xs.length c1, .slice a2 ys.length c2, .int .i64 v, .int .i64 k] 108) := ⟨_, rfl⟩
  have BW : Hid (Below w.heap.size w W) := by show Below _ _ _; rw [hW]; exact (Below.refl _ _).alloc (Nat.le_refl _) _
  have PW : Hid (Blk W w.heap.size #[.int .i64 m, .slice a vs.length c, .int .i64 bal, .int .i64 slot, .bool n, .int .i64 p, .int .i64 q, .slice a1 xs.length c1, .slice a2 ys.length c2, .int .i64 v, .int .i64 k] 108) := by show Blk _ _ _ _; rw [hW]; exact Blk.new _ _ _
  have HW : Hid (W = _) := hW
  clear hW
  have p0 : W.cell? ⟨w.heap.size, 0, none⟩ = some (.int .i64 m) := by rw [PW.out.cell]; rfl
  have p2 : W.cell? ⟨w.heap.size, 2, none⟩ = some (.int .i64 bal) := by rw [PW.out.cell]; rfl
  by_cases h : m ≤ bal
  · have h1 : decide (m ≤ bal) = true := decide_eq_true h
    go_enter Try.func74, Try.ntmps74
    go_upto_region 1 with fail
    rw [← HW.out]
    go_wp2_with fail
    go_ret
    exact ⟨by simp [h], BW.out⟩
  · have h1 : decide (m ≤ bal) = false := decide_eq_false h
    go_enter Try.func74, Try.ntmps74
    go_upto_region 1 with fail
    rw [← HW.out]
    go_wp2_with fail
    go_ret
    exact ⟨by simp [h], BW.out⟩

set_option maxRecDepth 100000 in
set_option maxHeartbeats 800000 in
theorem bidPlace (m : Int) (a : Option Addr) (c : Nat) (vs : List VM) (bal slot : Int) (n : Bool) (p q : Int) (a1 a2 : Option Addr) (c1 c2 : Nat) (xs ys : List P2) (v k : Int) (w : World) :
    Calls Try.prog 79 #[.agg #[.int .i64 m, .slice a vs.length c, .int .i64 bal, .int .i64 slot, .bool n, .int .i64 p, .int .i64 q, .slice a1 xs.length c1, .slice a2 ys.length c2, .int .i64 v, .int .i64 k]] w fun e w' => e = .returned (.bool (decide (0 ≤ slot) && decide (slot < 40))) ∧ Below w.heap.size w w' := by
  obtain ⟨W, hW⟩ : ∃ W, W = w.alloc (.cells #[.int .i64 m, .slice a vs.length c, .int .i64 bal, .int .i64 slot, .bool n, .int .i64 p, .int .i64 q, .slice a1 xs.length c1, .slice a2 ys.length c2, .int .i64 v, .int .i64 k] 108) := ⟨_, rfl⟩
  have BW : Hid (Below w.heap.size w W) := by show Below _ _ _; rw [hW]; exact (Below.refl _ _).alloc (Nat.le_refl _) _
  have PW : Hid (Blk W w.heap.size #[.int .i64 m, .slice a vs.length c, .int .i64 bal, .int .i64 slot, .bool n, .int .i64 p, .int .i64 q, .slice a1 xs.length c1, .slice a2 ys.length c2, .int .i64 v, .int .i64 k] 108) := by show Blk _ _ _ _; rw [hW]; exact Blk.new _ _ _
  have HW : Hid (W = _) := hW
  clear hW
  have p3 : W.cell? ⟨w.heap.size, 3, none⟩ = some (.int .i64 slot) := by rw [PW.out.cell]; rfl
  by_cases h : 0 ≤ slot
  · have h1 : decide (0 ≤ slot) = true := decide_eq_true h
    by_cases h2 : slot < 40
    · have h3 : decide (slot < 40) = true := decide_eq_true h2
      go_enter Try.func79, Try.ntmps79
      go_upto_region 1 with fail
      rw [← HW.out]
      go_wp2_with fail
      go_ret
      exact ⟨by simp [h, h2], BW.out⟩
    · have h3 : decide (slot < 40) = false := decide_eq_false h2
      go_enter Try.func79, Try.ntmps79
      go_upto_region 1 with fail
      rw [← HW.out]
      go_wp2_with fail
      go_ret
      exact ⟨by simp [h, h2], BW.out⟩
  · have h1 : decide (0 ≤ slot) = false := decide_eq_false h
    go_enter Try.func79, Try.ntmps79
    go_upto_region 1 with fail
    rw [← HW.out]
    go_wp2_with fail
    go_ret
    exact ⟨by simp [h], BW.out⟩

set_option maxRecDepth 100000 in
set_option maxHeartbeats 800000 in
theorem bidEntry (m : Int) (a : Option Addr) (c : Nat) (vs : List VM) (bal slot : Int) (n : Bool) (p q : Int) (a1 a2 : Option Addr) (c1 c2 : Nat) (xs ys : List P2) (v k : Int) (w : World) (h1 : Sl w a1 xs) (h2 : Sl w a2 ys) (n1 : xs.length ≤ 2 ^ 40) (n2 : ys.length ≤ 2 ^ 40) :
    Calls Try.prog 80 #[.agg #[.int .i64 m, .slice a vs.length c, .int .i64 bal, .int .i64 slot, .bool n, .int .i64 p, .int .i64 q, .slice a1 xs.length c1, .slice a2 ys.length c2, .int .i64 v, .int .i64 k]] w fun e w' => e = .returned (.bool (entOk n p q xs ys v k)) ∧ Below w.heap.size w w' := by
  obtain ⟨W, hW⟩ : ∃ W, W = w.alloc (.cells #[.int .i64 m, .slice a vs.length c, .int .i64 bal, .int .i64 slot, .bool n, .int .i64 p, .int .i64 q, .slice a1 xs.length c1, .slice a2 ys.length c2, .int .i64 v, .int .i64 k] 108) := ⟨_, rfl⟩
  have BW : Hid (Below w.heap.size w W) := by show Below _ _ _; rw [hW]; exact (Below.refl _ _).alloc (Nat.le_refl _) _
  have PW : Hid (Blk W w.heap.size #[.int .i64 m, .slice a vs.length c, .int .i64 bal, .int .i64 slot, .bool n, .int .i64 p, .int .i64 q, .slice a1 xs.length c1, .slice a2 ys.length c2, .int .i64 v, .int .i64 k] 108) := by show Blk _ _ _ _; rw [hW]; exact Blk.new _ _ _
  have HW : Hid (W = _) := hW
  clear hW
  have p4 : W.cell? ⟨w.heap.size, 4, none⟩ = some (.bool n) := by rw [PW.out.cell]; rfl
  have p5 : W.cell? ⟨w.heap.size, 5, none⟩ = some (.int .i64 p) := by rw [PW.out.cell]; rfl
  have p6 : W.cell? ⟨w.heap.size, 6, none⟩ = some (.int .i64 q) := by rw [PW.out.cell]; rfl
  have p7 : W.cell? ⟨w.heap.size, 7, none⟩ = some (.slice a1 xs.length c1) := by rw [PW.out.cell]; rfl
  have p8 : W.cell? ⟨w.heap.size, 8, none⟩ = some (.slice a2 ys.length c2) := by rw [PW.out.cell]; rfl
  have p9 : W.cell? ⟨w.heap.size, 9, none⟩ = some (.int .i64 v) := by rw [PW.out.cell]; rfl
  have p10 : W.cell? ⟨w.heap.size, 10, none⟩ = some (.int .i64 k) := by rw [PW.out.cell]; rfl
  have EC : Hid _ := implCertEntry n p q a1 a2 c1 c2 xs ys v k W (h1.below BW.out) (h2.below BW.out) n1 n2
  clear h1 h2
  go_enter Try.func80, Try.ntmps80
  go_upto_region 1 with fail
  rw [← HW.out]
  go_wp2_with fail
  refine Calls.mono EC.out ?_
  rintro e w1 ⟨rfl, b1⟩
  have B1 : Hid (Below w.heap.size w w1) := BW.out.trans (b1.mono BW.out.size)
  clear b1
  obtain ⟨r, hr⟩ : ∃ r, r = entOk n p q xs ys v k := ⟨_, rfl⟩
  rw [← hr]
  have HR : Hid (r = entOk n p q xs ys v k) := hr
  clear hr
  go_wp2_with fail
  go_ret
  exact ⟨ret_bool HR.out, B1.out⟩

/-- What a promise under conditions leaves: K: the acceptor is right; A: all conditions hold. -/
def BidPost (m bal : Int) (bs : List V) (K A : Bool) (w0 : World) (e : Ending) (w' : World) : Prop := ∃ lv us, e = .returned (.tuple #[.agg #[.int .i64 (if K then if A then bal else m else 0), lv], .bool (K && A)]) ∧ OwnL w' w0.heap.size lv us ∧ bodies us = (if K then bs else []) ∧ Below w0.heap.size w0 w'

set_option maxRecDepth 100000 in
set_option maxHeartbeats 1000000 in
/-- The conditions of a bid, in the order in which they are asked; each one's answer is known. -/
theorem bidPromise (m : Int) (a : Option Addr) (c : Nat) (vs : List VM) (bal slot : Int) (n : Bool) (p q : Int) (a1 a2 : Option Addr) (c1 c2 : Nat) (xs ys : List P2) (v k : Int) (w : World) (fs : List Nat) (rs : List Bool) (gb cap : Nat) (h1 : SlV w a vs) (l1 : VLs vs) (n1 : vs.length ≤ 2 ^ 30) (hg : gb < w.heap.size) (hfl : fs.length ≤ 100)
    (hfs : ∀ i, i < fs.length → fs.getD i 0 = 73 ∨ fs.getD i 0 = 74 ∨ fs.getD i 0 = 79 ∨ fs.getD i 0 = 80)
    (hf : ∀ i, i < fs.length → w.cell? ⟨gb, i, none⟩ = some (.func (.func (fs.getD i 0)) #[.agg #[.int .i64 m, .slice a vs.length c, .int .i64 bal, .int .i64 slot, .bool n, .int .i64 p, .int .i64 q, .slice a1 xs.length c1, .slice a2 ys.length c2, .int .i64 v, .int .i64 k]] #[]))
    (hc : ∀ i, i < fs.length → ∀ V, Below w.heap.size w V → Calls Try.prog (fs.getD i 0) #[.agg #[.int .i64 m, .slice a vs.length c, .int .i64 bal, .int .i64 slot, .bool n, .int .i64 p, .int .i64 q, .slice a1 xs.length c1, .slice a2 ys.length c2, .int .i64 v, .int .i64 k]] V fun e w' => e = .returned (.bool (rs.getD i false)) ∧ Below V.heap.size V w') :
    Calls Try.prog 72 #[.agg #[.int .i64 m, .slice a vs.length c, .int .i64 bal, .int .i64 slot, .bool n, .int .i64 p, .int .i64 q, .slice a1 xs.length c1, .slice a2 ys.length c2, .int .i64 v, .int .i64 k], .slice (some ⟨gb, 0, none⟩) fs.length cap] w fun e w' => BidPost m bal (bodies vs) (accOk m (bodies vs)) ((List.range fs.length).all fun i => rs.getD i false) w e w' := by
  have HC : Hid (∀ i, i < fs.length → ∀ V, Below w.heap.size w V → Calls Try.prog (fs.getD i 0) #[.agg #[.int .i64 m, .slice a vs.length c, .int .i64 bal, .int .i64 slot, .bool n, .int .i64 p, .int .i64 q, .slice a1 xs.length c1, .slice a2 ys.length c2, .int .i64 v, .int .i64 k]] V fun e w' => e = .returned (.bool (rs.getD i false)) ∧ Below V.heap.size V w') := hc
  have HF : Hid (∀ i, i < fs.length → w.cell? ⟨gb, i, none⟩ = some (.func (.func (fs.getD i 0)) #[.agg #[.int .i64 m, .slice a vs.length c, .int .i64 bal, .int .i64 slot, .bool n, .int .i64 p, .int .i64 q, .slice a1 xs.length c1, .slice a2 ys.length c2, .int .i64 v, .int .i64 k]] #[])) := hf
  have HG : Hid (gb < w.heap.size) := hg
  have H1 : Hid (SlV w a vs) := h1
  have L1 : Hid (VLs vs) := l1
  have FS : Hid (∀ i, i < fs.length → fs.getD i 0 = 73 ∨ fs.getD i 0 = 74 ∨ fs.getD i 0 = 79 ∨ fs.getD i 0 = 80) := hfs
  clear hc hf hg h1 l1 hfs
  obtain ⟨A, hA⟩ : ∃ A, A = (List.range fs.length).all fun i => rs.getD i false := ⟨_, rfl⟩
  have AN : Hid (∀ i, i < fs.length → rs.getD i false = false → A = false) := fun i hi hr => by
    rw [hA, List.all_eq_false]
    exact ⟨i, by simpa using hi, by rw [hr]; decide⟩
  have AY : Hid ((∀ i, i < fs.length → rs.getD i false = true) → A = true) := fun h => by
    rw [hA, List.all_eq_true]
    intro i hi
    exact h i (by simpa using hi)
  rw [← hA]
  clear hA
  obtain ⟨W, hW⟩ : ∃ W, W = (w.alloc (.cells #[.int .i64 m, .slice a vs.length c, .int .i64 bal, .int .i64 slot, .bool n, .int .i64 p, .int .i64 q, .slice a1 xs.length c1, .slice a2 ys.length c2, .int .i64 v, .int .i64 k] 108)).alloc (.cells #[.int .i64 0, .slice none 0 0] 24) := ⟨_, rfl⟩
  have BW : Hid (Below w.heap.size w W) := by show Below _ _ _; rw [hW]; exact ((Below.refl _ _).alloc (Nat.le_refl _) _).alloc (by simp) _
  have PW : Hid (Blk W w.heap.size #[.int .i64 m, .slice a vs.length c, .int .i64 bal, .int .i64 slot, .bool n, .int .i64 p, .int .i64 q, .slice a1 xs.length c1, .slice a2 ys.length c2, .int .i64 v, .int .i64 k] 108) := by show Blk _ _ _ _; rw [hW]; exact (Blk.new _ _ _).alloc _
  have ZW : Hid (Blk W (w.heap.size + 1) #[.int .i64 0, .slice none 0 0] 24) := by show Blk _ _ _ _; rw [hW]; exact Blk.new2 _ _ _ _
  have SW : Hid (W.heap.size = w.heap.size + 2) := by show _ = _; rw [hW]; simp
  have HW : Hid (W = _) := hW
  have CO : Hid _ := implAccOk m a c vs W (H1.out.below BW.out) (by omega) L1.out
  have P : Hid (∀ V, Below W.heap.size W V → V.cell? ⟨w.heap.size, 0, none⟩ = some (.int .i64 m) ∧ V.cell? ⟨w.heap.size, 1, none⟩ = some (.slice a vs.length c) ∧ V.cell? ⟨w.heap.size, 2, none⟩ = some (.int .i64 bal)) := fun V hV => by
    have := PW.out.keep hV
    exact ⟨by rw [this.cell]; rfl, by rw [this.cell]; rfl, by rw [this.cell]; rfl⟩
  clear hW
  obtain ⟨p0, p1, p2⟩ := P.out W (Below.refl _ _)
  generalize accOk m (bodies vs) = K at CO ⊢
  go_enter Try.func72, Try.ntmps72
  go_upto_region 1 with fail
  rw [← HW.out]
  go_wp2_with fail
  refine Calls.mono CO.out ?_
  rintro e w1 ⟨rfl, b1⟩
  have B1 : Hid (Below W.heap.size W w1) := b1
  have S1 : Hid (w.heap.size + 2 ≤ w1.heap.size) := by show _ ≤ _; have := b1.size; have := SW.out; omega
  have Z1 : Hid (Blk w1 (w.heap.size + 1) #[.int .i64 0, .slice none 0 0] 24) := ZW.out.keep b1
  have K1 : Hid (Below w.heap.size w w1) := BW.out.trans (b1.mono BW.out.size)
  clear b1 CO p0 p1 p2
  obtain ⟨p0, p1, p2⟩ := P.out w1 B1.out
  obtain ⟨z0, z1⟩ := Z1.out.cells2
  have fz := Z1.out.frozen
  cases K with
  | false =>
    go_wp2_with fail
    have zb := (((Z1.out.set 0 (.int .i64 0)).set 1 (.slice none 0 0)).eq (C' := #[.int .i64 0, .slice none 0 0]) (by simp)).cells2
    obtain ⟨y0, y1⟩ := zb
    refine bodyPost_ret (v := .tuple #[.agg #[.int .i64 0, .slice none 0 0], .bool false]) (by simp [results, Try.results72, go_sem, y0, y1]) rfl ?_
    exact ⟨_, [], rfl, OwnL.nil _ _, rfl, (K1.out.setCell (by show w.heap.size ≤ w.heap.size + 1; omega) _).setCell (by show w.heap.size ≤ w.heap.size + 1; omega) _⟩
  | true =>
    go_upto_region 4 with fail
    obtain ⟨X, hX⟩ : ∃ X, X = w1.alloc (.cells #[.int .i64 m, .slice a vs.length c] 24) := ⟨_, rfl⟩
    rw [← hX]
    have TX : Hid (Blk X w1.heap.size #[.int .i64 m, .slice a vs.length c] 24) := by show Blk _ _ _ _; rw [hX]; exact Blk.new _ _ _
    have BX : Hid (Below w1.heap.size w1 X) := by show Below _ _ _; rw [hX]; exact (Below.refl _ _).alloc (Nat.le_refl _) _
    have SX : Hid (X.heap.size = w1.heap.size + 1) := by show _ = _; rw [hX]; simp
    have KX : Hid (Below w.heap.size w X) := K1.out.trans (BX.out.mono K1.out.size)
    have WX : Hid (Below W.heap.size W X) := B1.out.trans (BX.out.mono B1.out.size)
    clear hX p0 p1 p2 z0 z1 fz
    obtain ⟨p0, p1, p2⟩ := P.out X WX.out
    go_wp2_with fail
    refine (listCopied a c vs X (H1.out.below KX.out) L1.out n1).mono ?_
    rintro e w2 ⟨lv, us, rfl, o2, e2, b2⟩
    obtain ⟨la, lc, rfl⟩ := o2.form
    have O2 : Hid (OwnL w2 X.heap.size (.slice la us.length lc) us) := o2
    have E2 : Hid (bodies us = bodies vs) := e2
    have B2 : Hid (Below X.heap.size X w2) := b2
    have T2 : Hid (Blk w2 w1.heap.size #[.int .i64 m, .slice a vs.length c] 24) := TX.out.keep b2
    have fr := T2.out.frozen
    clear o2 e2 b2 p0 p1 p2
    obtain ⟨t0, t1⟩ := T2.out.cells2
    go_upto_region 5 with fail
    obtain ⟨Y, hY⟩ : ∃ Y, Y = w2.setCell ⟨w1.heap.size, 1, none⟩ (.slice la us.length lc) := ⟨_, rfl⟩
    rw [← hY]
    have TY : Hid (Blk Y w1.heap.size #[.int .i64 m, .slice la us.length lc] 24) := by show Blk _ _ _ _; rw [hY]; exact (T2.out.set 1 (.slice la us.length lc)).eq (by simp)
    have SY : Hid (Y.heap.size = w2.heap.size) := by show _ = _; rw [hY]; simp [World.setCell]
    have OY : Hid (OwnL Y X.heap.size (.slice la us.length lc) us) := O2.out.high (Nat.le_of_eq SY.out.symm) fun b hb => by rw [hY]; exact Below.heap_setCell _ _ _ _ (by have := SX.out; show b ≠ w1.heap.size; omega)
    have BY : Hid (Below w1.heap.size w1 Y) := by show Below _ _ _; rw [hY]; exact (BX.out.trans (B2.out.mono BX.out.size)).setCell (Nat.le_refl _) _
    have ZY : Hid (Blk Y (w.heap.size + 1) #[.int .i64 0, .slice none 0 0] 24) := Z1.out.keep BY.out
    have KY : Hid (Below w.heap.size w Y) := K1.out.trans (BY.out.mono K1.out.size)
    have WY : Hid (Below W.heap.size W Y) := B1.out.trans (BY.out.mono B1.out.size)
    have S2 : Hid (w1.heap.size < X.heap.size ∧ X.heap.size ≤ Y.heap.size) := ⟨by have := SX.out; omega, by have := B2.out.size; have := SY.out; omega⟩
    clear hY t0 t1 fr
    go_wp2_with fail
    go_loopw [8, 23] (fun _ i wr => ∃ j : Nat, j ≤ fs.length ∧ i = .int .i64 j ∧ Hid (∀ l, l < j → rs.getD l false = true) ∧ Hid (Below Y.heap.size Y wr)) (fun _ i _ => fs.length - (intOf i).toNat)
    case atStart => exact ⟨0, Nat.zero_le _, rfl, fun l hl => absurd hl (Nat.not_lt_zero _), Below.refl _ _⟩
    case round =>
      obtain ⟨j, hj, rfl, LT, BR⟩ := hrel
      have TR : Hid (Blk wr w1.heap.size #[.int .i64 m, .slice la us.length lc] 24) := TY.out.keep BR.out
      have ZR : Hid (Blk wr (w.heap.size + 1) #[.int .i64 0, .slice none 0 0] 24) := ZY.out.keep BR.out
      have KR : Hid (Below w.heap.size w wr) := KY.out.trans (BR.out.mono KY.out.size)
      have OR : Hid (OwnL wr X.heap.size (.slice la us.length lc) us) := OY.out.keep BR.out
      by_cases hlt : j < fs.length
      · have hji : (j : Int) < (fs.length : Int) := by omega
        have f0 : wr.cell? ⟨gb, j, none⟩ = some (.func (.func (fs.getD j 0)) #[.agg #[.int .i64 m, .slice a vs.length c, .int .i64 bal, .int .i64 slot, .bool n, .int .i64 p, .int .i64 q, .slice a1 xs.length c1, .slice a2 ys.length c2, .int .i64 v, .int .i64 k]] #[]) := by
          rw [KR.out.cell (p := ⟨gb, j, none⟩) HG.out]; exact HF.out j hlt
        have CJ : Hid (Calls Try.prog (fs.getD j 0) #[.agg #[.int .i64 m, .slice a vs.length c, .int .i64 bal, .int .i64 slot, .bool n, .int .i64 p, .int .i64 q, .slice a1 xs.length c1, .slice a2 ys.length c2, .int .i64 v, .int .i64 k]] wr fun e w' => e = .returned (.bool (rs.getD j false)) ∧ Below wr.heap.size wr w') := HC.out j hlt wr KR.out
        have AJ : Hid (rs.getD j false = false → A = false) := AN.out j hlt
        have LJ : Hid (rs.getD j false = true → ∀ l, l < j + 1 → rs.getD l false = true) := fun h l hl => by
          by_cases e : l = j
          · rw [e]; exact h
          · exact LT.out l (by omega)
        have FJ : Hid (fs.getD j 0 = 73 ∨ fs.getD j 0 = 74 ∨ fs.getD j 0 = 79 ∨ fs.getD j 0 = 80) := FS.out j hlt
        generalize fs.getD j 0 = fj at f0 CJ FJ
        generalize rs.getD j false = rj at CJ AJ LJ
        go_upto_region 8 with fail
        go_cut [29] from 27 to 29 (fun q wx => q = .bool (!rj) ∧ Below wr.heap.size wr wx)
        case first =>
          rcases FJ.out with rfl | rfl | rfl | rfl
          all_goals
            go_wp2_with fail
            refine Calls.mono CJ.out ?_
            rintro e w3 ⟨rfl, b3⟩
            have B3 : Hid (Below wr.heap.size wr w3) := b3
            clear b3
            go_wp2_with fail
            go_meet
            exact ⟨rfl, B3.out⟩
        case rest =>
        obtain ⟨w3, hw3⟩ : ∃ w3, w3 = wc := ⟨_, rfl⟩
        subst hw3
        obtain ⟨rfl, b3⟩ := hcut
        have T3 : Hid (Blk w3 w1.heap.size #[.int .i64 m, .slice la us.length lc] 24) := TR.out.keep b3
        have Z3 : Hid (Blk w3 (w.heap.size + 1) #[.int .i64 0, .slice none 0 0] 24) := ZR.out.keep b3
        have K3 : Hid (Below w.heap.size w w3) := KR.out.trans (b3.mono KR.out.size)
        have O3 : Hid (OwnL w3 X.heap.size (.slice la us.length lc) us) := OR.out.keep b3
        have B3 : Hid (Below Y.heap.size Y w3) := BR.out.trans (b3.mono BR.out.size)
        clear b3 f0
        cases rj with
        | false =>
          have AF : Hid (A = false) := AJ.out rfl
          obtain ⟨t0, t1⟩ := T3.out.cells2
          obtain ⟨z0, z1⟩ := Z3.out.cells2
          have fz := Z3.out.frozen
          go_wp2_with fail
          have zb := (((Z3.out.set 0 (.int .i64 m)).set 1 (.slice la us.length lc)).eq (C' := #[.int .i64 m, .slice la us.length lc]) (by simp)).cells2
          obtain ⟨y0, y1⟩ := zb
          refine bodyPost_ret (v := .tuple #[.agg #[.int .i64 m, .slice la us.length lc], .bool false]) (by simp [results, Try.results72, go_sem, y0, y1]) rfl ?_
          have on : Only (w.heap.size + 1) w3 ((w3.setCell ⟨w.heap.size + 1, 0, none⟩ (.int .i64 m)).setCell ⟨w.heap.size + 1, 1, none⟩ (.slice la us.length lc)) := ((Only.refl _ _).setCell _).setCell _
          have s1 := S1.out
          have s2 := S2.out
          exact ⟨_, us, by rw [AF.out]; rfl, (O3.out.high (Nat.le_of_eq on.size.symm) fun b hb => on.block b (by omega)).low (by omega), E2.out, K3.out.trans (on.below (by omega))⟩
        | true =>
          have LN : Hid (∀ l, l < j + 1 → rs.getD l false = true) := LJ.out rfl
          go_wp2_with fail
          exact ⟨⟨j + 1, by omega, by go_num, LN.out, B3.out⟩, by simp only [intOf]; omega⟩
      · have hji : ¬ (j : Int) < (fs.length : Int) := by omega
        have AT : Hid (A = true) := AY.out fun i hi => LT.out i (by omega)
        obtain ⟨p0, p1, p2⟩ := P.out wr (WY.out.trans (BR.out.mono WY.out.size))
        obtain ⟨t0, t1⟩ := TR.out.cells2
        obtain ⟨z0, z1⟩ := ZR.out.cells2
        have fz := ZR.out.frozen
        have ft := TR.out.frozen
        have s1 := S1.out
        have s2 := S2.out
        have hne : w.heap.size + 1 ≠ w1.heap.size := by omega
        go_wp2_with fail
        have zo : Blk (wr.setCell ⟨w1.heap.size, 0, none⟩ (.int .i64 bal)) (w.heap.size + 1) #[.int .i64 0, .slice none 0 0] 24 := ZR.out.other hne _ _
        have zb := (((zo.set 0 (.int .i64 bal)).set 1 (.slice la us.length lc)).eq (C' := #[.int .i64 bal, .slice la us.length lc]) (by simp)).cells2
        obtain ⟨y0, y1⟩ := zb
        refine bodyPost_ret (v := .tuple #[.agg #[.int .i64 bal, .slice la us.length lc], .bool true]) (by simp [results, Try.results72, go_sem, y0, y1]) rfl ?_
        obtain ⟨Q, hQ⟩ : ∃ Q, Q = ((wr.setCell ⟨w1.heap.size, 0, none⟩ (.int .i64 bal)).setCell ⟨w.heap.size + 1, 0, none⟩ (.int .i64 bal)).setCell ⟨w.heap.size + 1, 1, none⟩ (.slice la us.length lc) := ⟨_, rfl⟩
        rw [← hQ]
        have OQ : OwnL Q X.heap.size (.slice la us.length lc) us := OR.out.high (by rw [hQ]; simp [World.setCell]) fun b hb => by
          rw [hQ, Below.heap_setCell _ _ _ _ (by show b ≠ w.heap.size + 1; omega), Below.heap_setCell _ _ _ _ (by show b ≠ w.heap.size + 1; omega), Below.heap_setCell _ _ _ _ (by show b ≠ w1.heap.size; omega)]
        have KQ : Below w.heap.size w Q := by
          rw [hQ]
          exact ((KR.out.setCell (by show w.heap.size ≤ w1.heap.size; omega) _).setCell (by show w.heap.size ≤ w.heap.size + 1; omega) _).setCell (by show w.heap.size ≤ w.heap.size + 1; omega) _
        exact ⟨_, us, by rw [AT.out]; rfl, OQ.low (by omega), E2.out, KQ⟩

end Go.Proofs.Ytbbbfnfpmaogoaa.Own
