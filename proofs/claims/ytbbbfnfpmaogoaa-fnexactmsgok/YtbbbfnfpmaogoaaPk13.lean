/-
  Own texts, bundled: VotesI, MsgForm.
-/
import Derived.Test.YtbbbfnfpmaogoaaPk12
import Derived.Deep.Cut
import Derived.Test.YtbbbfnfpmaogoaaPk8
namespace Go.Proofs.Ytbbbfnfpmaogoaa.Own
open Go.RowKit
set_option linter.unusedVariables false
set_option linter.unusedSimpArgs false

set_option maxRecDepth 100000 in
set_option maxHeartbeats 2000000 in
theorem indexBars (l : Int) (a : Option Addr) (c : Nat) (vs : List VM) (w : World) (h : SlV w a vs) (hn : vs.length ≤ 2 ^ 40) (hl : VLs vs) :
    Calls Try.prog 136 #[.slice a vs.length c, .func (.func 114) #[.int .i64 l] #[]] w fun e w' => (∃ z : Int, e = .returned (.int .i64 z) ∧ decide (0 ≤ z) = (bodies vs).any (barsV l)) ∧ Below w.heap.size w w' := by
  have HS : Hid (SlV w a vs) := h
  have HL : Hid (VLs vs) := hl
  clear h hl
  have E2 : Hid (∀ i, i < vs.length → barsV l (vs.getD i v0).body = true → (bodies vs).any (barsV l) = true) := fun i hi h => anyV_hit (0, e0) (i := i) (by rw [bodies_len]; exact hi) (by rw [bodies_getD]; exact h)
  have E3 : Hid ((∀ i, i < vs.length → barsV l (vs.getD i v0).body = false) → (bodies vs).any (barsV l) = false) := fun h2 => anyV_at (0, e0) (fun i hi => by rw [bodies_getD]; exact h2 i (by rw [bodies_len] at hi; exact hi))
  generalize (bodies vs).any (barsV l) = T at E2 E3 ⊢
  go_enter Try.func136, Try.ntmps136
  go_wp2_with fail
  go_loopw [8] (fun i wr => ∃ k : Nat, k ≤ vs.length ∧ i = .int .i64 k ∧ Hid (∀ j, j < k → barsV l (vs.getD j v0).body = false) ∧ Hid (Below w.heap.size w wr)) (fun i _ => vs.length - (intOf i).toNat)
  case atStart => exact ⟨0, Nat.zero_le _, rfl, fun j hj => by omega, Below.refl _ _⟩
  case round =>
    obtain ⟨k, hk, rfl, HA, KB⟩ := hrel
    by_cases hlt : k < vs.length
    · have hki : (k : Int) < (vs.length : Int) := by omega
      rcases HS.out.below KB.out with hh | ⟨b, off, rfl, _, hh⟩
      · rw [hh] at hlt; simp at hlt
      obtain ⟨⟨d0, d1, d2, d3, d4, d5, d6, d7⟩, s1, s2⟩ := hh k hlt
      have NX : Hid (∀ y, barsV l (vs.getD k v0).body = y → (y = true → T = true) ∧ (y = false → ∀ j, j < k + 1 → barsV l (vs.getD j v0).body = false)) := fun y hy => ⟨fun h => E2.out k hlt (by rw [hy, h]), fun h j hj => by
        by_cases e : j = k
        · subst e; rw [hy, h]
        · exact HA.out j (by omega)⟩
      have LX := HL.out k hlt
      have SX : Hid (Sl wr (vs.getD k v0).a1 (vs.getD k v0).b.xs ∧ Sl wr (vs.getD k v0).a2 (vs.getD k v0).b.ys) := ⟨s1, s2⟩
      clear hh s1 s2
      obtain ⟨x, hx⟩ : ∃ x, x = vs.getD k v0 := ⟨_, rfl⟩
      rw [← hx] at d0 d1 d2 d3 d4 d5 d6 d7 LX SX
      have NX2 : Hid (∀ y, barsV l x.body = y → (y = true → T = true) ∧ (y = false → ∀ j, j < k + 1 → barsV l (vs.getD j v0).body = false)) := fun y hy => NX.out y (by rw [← hx]; exact hy)
      clear NX hx
      obtain ⟨xbal, ⟨xn, xp, xq, xxs, xys, xv, xk⟩, xa1, xc1, xa2, xc2⟩ := x
      simp only [VM.body] at d0 d1 d2 d3 d4 d5 d6 d7 LX SX NX2
      go_wp2_with fail
      refine (implBars l xbal xn xp xq xa1 xa2 xc1 xc2 xxs xys xv xk wr SX.out.1 SX.out.2 LX.1 LX.2.1).mono ?_
      rintro e w1 ⟨rfl, hw⟩
      have B1 : Hid (Below w.heap.size w w1) := KB.out.trans (hw.mono KB.out.size)
      have N3 := NX2.out _ rfl
      clear hw NX2 d0 d1 d2 d3 d4 d5 d6 d7
      generalize barsV l (xbal, ⟨xn, xp, xq, xxs, xys, xv, xk⟩) = y at N3 ⊢
      cases y with
      | true =>
        have F : Hid (T = true) := N3.1 rfl
        clear N3
        go_wp2_with fail
        go_ret
        exact ⟨⟨(k : Int), rfl, by rw [F.out]; simp⟩, B1.out⟩
      | false =>
        have F : Hid (∀ j, j < k + 1 → barsV l (vs.getD j v0).body = false) := N3.2 rfl
        clear N3
        go_wp2_with fail
        go_roundw
        case rel => exact ⟨k + 1, by omega, by go_num, F.out, B1.out⟩
        case measure => simp [intOf]; omega
    · have hki : ¬ (k : Int) < (vs.length : Int) := by omega
      have F : Hid (T = false) := E3.out (fun i hi => HA.out i (by omega))
      go_wp2_with fail
      go_ret
      exact ⟨⟨-1, rfl, by rw [F.out]; decide⟩, KB.out⟩

set_option maxRecDepth 100000 in
set_option maxHeartbeats 1000000 in
theorem containsBars (l : Int) (a : Option Addr) (c : Nat) (vs : List VM) (w : World) (h : SlV w a vs) (hn : vs.length ≤ 2 ^ 40) (hl : VLs vs) :
    Calls Try.prog 113 #[.slice a vs.length c, .func (.func 114) #[.int .i64 l] #[]] w fun e w' => e = .returned (.bool ((bodies vs).any (barsV l))) ∧ Below w.heap.size w w' := by
  have HC : Hid _ := indexBars l a c vs w h hn hl
  clear h hl
  generalize (bodies vs).any (barsV l) = T at HC ⊢
  go_enter Try.func113, Try.ntmps113
  go_wp2_with fail
  refine Calls.mono HC.out ?_
  rintro e w1 ⟨⟨z, rfl, hz⟩, b1⟩
  have B1 : Hid (Below w.heap.size w w1) := b1
  have HZ : Hid (decide (0 ≤ z) = T) := hz
  clear b1 hz
  go_wp2_with fail
  go_ret
  exact ⟨ret_bool HZ.out, B1.out⟩

set_option maxRecDepth 100000 in
set_option maxHeartbeats 1000000 in
theorem implVotesOk (l : Int) (a : Option Addr) (c : Nat) (vs : List VM) (w : World) (h : SlV w a vs) (hn : vs.length ≤ 2 ^ 40) (hl : VLs vs) :
    Calls Try.prog 69 #[.slice a vs.length c, .int .i64 l] w fun e w' => e = .returned (.bool (votesUpto l (bodies vs))) ∧ Below w.heap.size w w' := by
  have E : Hid (votesUpto l (bodies vs) = (decide (vs.length ≤ 40) && !(bodies vs).any (barsV l))) := by show _ = _; unfold votesUpto; rw [bodies_len]
  have HC : Hid _ := containsBars l a c vs w h hn hl
  clear h hl
  generalize votesUpto l (bodies vs) = T at E ⊢
  generalize (bodies vs).any (barsV l) = U at E HC
  by_cases h40 : vs.length ≤ 40
  · have F : Hid (T = !U) := by show _ = _; rw [E.out]; simp [h40]
    have hd : decide ((vs.length : Int) ≤ 40) = true := decide_eq_true (by omega)
    have hmf : ∀ (fn : Fn) (first cap : Array Value) (w : World), (Instr.makeFunc fn first cap).run Try.prog w = .ok (.func fn first cap) w := fun _ _ _ _ => rfl
    clear E h40
    go_enter Try.func69, Try.ntmps69
    go_wp2_with fail
    refine Calls.mono HC.out ?_
    rintro e w1 ⟨rfl, b1⟩
    have B1 : Hid (Below w.heap.size w w1) := b1
    clear b1
    go_wp2_with fail
    go_ret
    exact ⟨ret_bool F.out.symm, B1.out⟩
  · have F : Hid (T = false) := by show _ = _; rw [E.out]; simp [h40]
    have hd : decide ((vs.length : Int) ≤ 40) = false := decide_eq_false (by omega)
    clear E h40
    go_enter Try.func69, Try.ntmps69
    go_wp2_with fail
    go_ret
    exact ⟨ret_bool F.out.symm, Below.refl _ _⟩
end Go.Proofs.Ytbbbfnfpmaogoaa.Own

namespace Go.Proofs.Ytbbbfnfpmaogoaa.Own
open Go.RowKit
set_option linter.unusedVariables false
set_option linter.unusedSimpArgs false

set_option maxRecDepth 100000 in
set_option maxHeartbeats 1000000 in
theorem implIsNode (n : Int) (w : World) : Calls Try.prog 57 #[.int .i64 n] w fun e w' => e = .returned (.bool (nodeId n)) ∧ Below w.heap.size w w' := by
  have E : Hid (nodeId n = (decide (0 ≤ n) && decide (n < 3))) := rfl
  generalize nodeId n = T at E ⊢
  cases h1 : decide (0 ≤ n) with
  | false =>
    have X : Hid (T = false) := by show _ = _; rw [E.out, h1]; rfl
    clear E
    go_enter Try.func57, Try.ntmps57
    go_wp2_with fail
    go_ret
    exact ⟨ret_bool X.out.symm, Below.refl _ _⟩
  | true =>
    have X : Hid (T = decide (n < 3)) := by show _ = _; rw [E.out, h1]; rfl
    clear E
    go_enter Try.func57, Try.ntmps57
    go_wp2_with fail
    go_ret
    exact ⟨ret_bool X.out.symm, Below.refl _ _⟩

set_option maxRecDepth 100000 in
set_option maxHeartbeats 1000000 in
theorem implSpan (a b n : Int) (w : World) : Calls Try.prog 129 #[.agg #[.int .i64 a, .int .i64 b], .int .i64 n] w fun e w' => e = .returned (.bool (inSpan a b n)) ∧ Below w.heap.size w w' := by
  have E : Hid (inSpan a b n = (decide (a ≤ n) && decide (n ≤ b))) := rfl
  generalize inSpan a b n = T at E ⊢
  cases h1 : decide (a ≤ n) with
  | false =>
    have X : Hid (T = false) := by show _ = _; rw [E.out, h1]; rfl
    clear E
    go_enter Try.func129, Try.ntmps129
    go_wp2_with fail
    go_ret
    exact ⟨ret_bool X.out.symm, (Below.refl _ _).alloc (Nat.le_refl _) _⟩
  | true =>
    have X : Hid (T = decide (n ≤ b)) := by show _ = _; rw [E.out, h1]; rfl
    clear E
    go_enter Try.func129, Try.ntmps129
    go_wp2_with fail
    go_ret
    exact ⟨ret_bool X.out.symm, (Below.refl _ _).alloc (Nat.le_refl _) _⟩

set_option maxRecDepth 100000 in
set_option maxHeartbeats 1000000 in
theorem implIsRequest (n : Bool) (p q : Int) (a1 a2 : Option Addr) (c1 c2 : Nat) (xs ys : List P2) (v k : Int) (w : World) (h1 : Sl w a1 xs) (h2 : Sl w a2 ys) (n1 : xs.length ≤ 2 ^ 40) (n2 : ys.length ≤ 2 ^ 40) :
    Calls Try.prog 128 #[.agg #[.bool n, .int .i64 p, .int .i64 q, .slice a1 xs.length c1, .slice a2 ys.length c2, .int .i64 v, .int .i64 k]] w fun e w' => e = .returned (.bool (rightE ⟨n, p, q, xs, ys, v, k⟩ && !n)) ∧ Below w.heap.size w w' := by
  obtain ⟨W, hW⟩ : ∃ W, W = w.alloc (.cells #[.bool n, .int .i64 p, .int .i64 q, .slice a1 xs.length c1, .slice a2 ys.length c2, .int .i64 v, .int .i64 k] 34) := ⟨_, rfl⟩
  have BW : Hid (Below w.heap.size w W) := by show Below _ _ _; rw [hW]; exact (Below.refl _ _).alloc (Nat.le_refl _) _
  have G0 : Hid (Blk W w.heap.size #[.bool n, .int .i64 p, .int .i64 q, .slice a1 xs.length c1, .slice a2 ys.length c2, .int .i64 v, .int .i64 k] 34) := by show Blk _ _ _ _; rw [hW]; exact Blk.new _ _ _
  have HW : Hid (W = _) := hW
  clear hW
  have HC : Hid _ := implCertEntry n p q a1 a2 c1 c2 xs ys v k W (h1.below BW.out) (h2.below BW.out) n1 n2
  have E : Hid (rightE ⟨n, p, q, xs, ys, v, k⟩ = entOk n p q xs ys v k) := rfl
  rw [E.out]
  clear h1 h2
  generalize entOk n p q xs ys v k = r at HC ⊢
  go_enter Try.func128, Try.ntmps128
  go_wp2_with fail
  rw [← HW.out]
  refine Calls.mono HC.out ?_
  rintro e w1 ⟨rfl, b1⟩
  have B1 : Hid (Below w.heap.size w w1) := BW.out.trans (b1.mono BW.out.size)
  obtain ⟨q0, q1, q2, q3, q4, q5, q6⟩ := (G0.out.keep b1).cells7
  clear b1
  cases r with
  | false =>
    go_wp2_with fail
    go_ret
    exact ⟨rfl, B1.out⟩
  | true =>
    go_wp2_with fail
    go_ret
    exact ⟨ret_bool (by simp), B1.out⟩

/-- Which entries messages of a kind have. -/
def entFn (kind : Int) : Value := if kind = 3 ∨ kind = 5 then .func (.func 121) #[] #[] else if kind = 7 then .func (.func 128) #[] #[] else .nilFunc
def entBy (kind : Int) (b : EB) : Bool := if kind = 3 ∨ kind = 5 then rightE b else if kind = 7 then rightE b && !b.n else noneE b

set_option maxRecDepth 100000 in
set_option maxHeartbeats 2000000 in
theorem implHoldsEntry (kind : Int) (s l1 l2 l3 l4 vt : Value) (b : EB) (a1 a2 : Option Addr) (c1 c2 : Nat) (w : World) (h1 : Sl w a1 b.xs) (h2 : Sl w a2 b.ys) (n1 : b.xs.length ≤ 2 ^ 40) (n2 : b.ys.length ≤ 2 ^ 40) :
    Calls Try.prog 130 #[.agg #[s, l1, l2, l3, l4, entFn kind, vt], .agg #[.bool b.n, .int .i64 b.p, .int .i64 b.q, .slice a1 b.xs.length c1, .slice a2 b.ys.length c2, .int .i64 b.v, .int .i64 b.k]] w fun e w' => e = .returned (.bool (entBy kind b)) ∧ Below w.heap.size w w' := by
  obtain ⟨bn, bp, bq, bxs, bys, bv, bk⟩ := b
  simp only at h1 h2 n1 n2 ⊢
  have H1 : Hid (Sl w a1 bxs) := h1
  have H2 : Hid (Sl w a2 bys) := h2
  clear h1 h2
  by_cases k3 : kind = 3 ∨ kind = 5
  · have hnil : ∀ w : World, (binOp .eql 128 (.func (.func 121) #[] #[]) .nilFunc).run Try.prog w = .ok (.bool false) w := fun w => by kernel_rfl
    have e1 : entFn kind = .func (.func 121) #[] #[] := by simp only [entFn, k3, if_true]
    have e2 : entBy kind ⟨bn, bp, bq, bxs, bys, bv, bk⟩ = rightE ⟨bn, bp, bq, bxs, bys, bv, bk⟩ := by simp only [entBy, k3, if_true]
    rw [e1, e2]
    have E : Hid (rightE ⟨bn, bp, bq, bxs, bys, bv, bk⟩ = entOk bn bp bq bxs bys bv bk) := rfl
    rw [E.out]
    clear e1 e2 E k3
    obtain ⟨W, hW⟩ : ∃ W, W = (w.alloc (.cells #[s, l1, l2, l3, l4, .func (.func 121) #[] #[], vt] 132)).alloc (.cells #[.bool bn, .int .i64 bp, .int .i64 bq, .slice a1 bxs.length c1, .slice a2 bys.length c2, .int .i64 bv, .int .i64 bk] 34) := ⟨_, rfl⟩
    have BW : Hid (Below w.heap.size w W) := by
      show Below _ _ _
      rw [hW]; exact ((Below.refl _ _).alloc (Nat.le_refl _) _).alloc (by simp) _
    have HW : Hid (W = _) := hW
    clear hW
    go_enter Try.func130, Try.ntmps130
    go_wp2_with fail
    rw [← HW.out]
    refine (implCertEntry bn bp bq a1 a2 c1 c2 bxs bys bv bk W (H1.out.below BW.out) (H2.out.below BW.out) n1 n2).mono ?_
    rintro e w1 ⟨rfl, b1⟩
    have B1 : Hid (Below w.heap.size w w1) := BW.out.trans (b1.mono BW.out.size)
    clear b1
    generalize hr : entOk bn bp bq bxs bys bv bk = r
    have HR : Hid (_ = r) := hr
    clear hr
    go_wp2_with fail
    go_ret
    exact ⟨ret_bool HR.out.symm, B1.out⟩
  · by_cases k7 : kind = 7
    · have hnil : ∀ w : World, (binOp .eql 128 (.func (.func 128) #[] #[]) .nilFunc).run Try.prog w = .ok (.bool false) w := fun w => by kernel_rfl
      have e1 : entFn kind = .func (.func 128) #[] #[] := by rw [k7]; rfl
      have e2 : entBy kind ⟨bn, bp, bq, bxs, bys, bv, bk⟩ = (rightE ⟨bn, bp, bq, bxs, bys, bv, bk⟩ && !bn) := by rw [k7]; rfl
      rw [e1, e2]
      clear e1 e2 k3 k7
      obtain ⟨W, hW⟩ : ∃ W, W = (w.alloc (.cells #[s, l1, l2, l3, l4, .func (.func 128) #[] #[], vt] 132)).alloc (.cells #[.bool bn, .int .i64 bp, .int .i64 bq, .slice a1 bxs.length c1, .slice a2 bys.length c2, .int .i64 bv, .int .i64 bk] 34) := ⟨_, rfl⟩
      have BW : Hid (Below w.heap.size w W) := by
        show Below _ _ _
        rw [hW]; exact ((Below.refl _ _).alloc (Nat.le_refl _) _).alloc (by simp) _
      have HW : Hid (W = _) := hW
      clear hW
      go_enter Try.func130, Try.ntmps130
      go_wp2_with fail
      rw [← HW.out]
      refine (implIsRequest bn bp bq a1 a2 c1 c2 bxs bys bv bk W (H1.out.below BW.out) (H2.out.below BW.out) n1 n2).mono ?_
      rintro e w1 ⟨rfl, b1⟩
      have B1 : Hid (Below w.heap.size w w1) := BW.out.trans (b1.mono BW.out.size)
      clear b1
      generalize hr : (rightE ⟨bn, bp, bq, bxs, bys, bv, bk⟩ && !bn) = r
      have HR : Hid (_ = r) := hr
      clear hr
      go_wp2_with fail
      go_ret
      exact ⟨ret_bool HR.out.symm, B1.out⟩
    · have hnil : ∀ w : World, (binOp .eql 128 .nilFunc .nilFunc).run Try.prog w = .ok (.bool true) w := fun w => by kernel_rfl
      have e1 : entFn kind = .nilFunc := by simp only [entFn, k3, k7, if_false]
      have e2 : entBy kind ⟨bn, bp, bq, bxs, bys, bv, bk⟩ = noneE ⟨bn, bp, bq, bxs, bys, bv, bk⟩ := by simp only [entBy, k3, k7, if_false]
      rw [e1, e2]
      have E : Hid (noneE ⟨bn, bp, bq, bxs, bys, bv, bk⟩ = likeE bn false (bp, bq) (0, 0) bxs bys [] [] bv bk 0 0) := rfl
      rw [E.out]
      clear e1 e2 k3 k7 E
      obtain ⟨W, hW⟩ : ∃ W, W = (w.alloc (.cells #[s, l1, l2, l3, l4, .nilFunc, vt] 132)).alloc (.cells #[.bool bn, .int .i64 bp, .int .i64 bq, .slice a1 bxs.length c1, .slice a2 bys.length c2, .int .i64 bv, .int .i64 bk] 34) := ⟨_, rfl⟩
      have BW : Hid (Below w.heap.size w W) := by
        show Below _ _ _
        rw [hW]; exact ((Below.refl _ _).alloc (Nat.le_refl _) _).alloc (by simp) _
      have HW : Hid (W = _) := hW
      clear hW
      go_enter Try.func130, Try.ntmps130
      go_wp2_with fail
      rw [← HW.out]
      refine (implCertLike bn false bp bq 0 0 a1 a2 none none c1 c2 0 0 bxs bys [] [] bv bk 0 0 W (H1.out.below BW.out) (H2.out.below BW.out) (.inl rfl) (.inl rfl) n1 n2 (by simp) (by simp)).mono ?_
      rintro e w1 ⟨rfl, b1⟩
      have B1 : Hid (Below w.heap.size w w1) := BW.out.trans (b1.mono BW.out.size)
      clear b1
      generalize hr : likeE bn false (bp, bq) (0, 0) bxs bys [] [] bv bk 0 0 = r
      have HR : Hid (_ = r) := hr
      clear hr
      go_wp2_with fail
      go_ret
      exact ⟨ret_bool HR.out.symm, B1.out⟩

set_option maxRecDepth 100000 in
set_option maxHeartbeats 2000000 in
theorem implHoldsVotes (vt : Bool) (s l1 l2 l3 l4 fn : Value) (slot : Int) (a : Option Addr) (c : Nat) (vs : List VM) (w : World) (h : SlV w a vs) (hn : vs.length ≤ 2 ^ 40) (hl : VLs vs) (hs : 0 ≤ slot ∧ slot ≤ 40) :
    Calls Try.prog 131 #[.agg #[s, l1, l2, l3, l4, fn, .bool vt], .int .i64 slot, .slice a vs.length c] w fun e w' => e = .returned (.bool (if vt then votesOk (bodies vs) && decide (slot + vs.length ≤ 40) else decide (vs.length = 0))) ∧ Below w.heap.size w w' := by
  obtain ⟨W, hW⟩ : ∃ W, W = w.alloc (.cells #[s, l1, l2, l3, l4, fn, .bool vt] 132) := ⟨_, rfl⟩
  have BW : Hid (Below w.heap.size w W) := by show Below _ _ _; rw [hW]; exact (Below.refl _ _).alloc (Nat.le_refl _) _
  have HW : Hid (W = _) := hW
  clear hW
  have HC := implVotesOk 3000 a c vs W (h.below BW.out) hn hl
  rw [votesUpto_top] at HC
  have HC2 : Hid (Calls _ _ _ _ _) := HC
  clear HC h hl
  generalize votesOk (bodies vs) = vo at HC2 ⊢
  obtain ⟨hs1, hs2⟩ := hs
  cases vt with
  | false =>
    have X : Hid (((vs.length : Int) == 0) = decide (vs.length = 0)) := by
      show _ = _
      by_cases h : vs.length = 0
      · simp [h]
      · have : ((vs.length : Int) == 0) = false := beq_eq_false_iff_ne.2 (by omega)
        rw [this]; simp [h]
    go_enter Try.func131, Try.ntmps131
    go_wp2_with fail
    go_ret
    exact ⟨ret_bool (by rw [X.out]; simp), by rw [← HW.out]; exact BW.out⟩
  | true =>
    have hw1 : IntKind.i64.wrap (slot + (vs.length : Int)) = slot + (vs.length : Int) := by rw [IntKind.wrap_i64]; omega
    go_enter Try.func131, Try.ntmps131
    go_wp2_with fail
    rw [← HW.out]
    refine Calls.mono HC2.out ?_
    rintro e w1 ⟨rfl, b1⟩
    have B1 : Hid (Below w.heap.size w w1) := BW.out.trans (b1.mono BW.out.size)
    clear b1
    cases vo with
    | false =>
      go_wp2_with fail
      go_ret
      exact ⟨rfl, B1.out⟩
    | true =>
      go_wp2_with fail
      go_ret
      exact ⟨ret_bool (by simp), B1.out⟩
end Go.Proofs.Ytbbbfnfpmaogoaa.Own
