/-
  Own text: what spec.DrawExecSame does: two runs that can be read.
-/
import Derived.Test.YtgcencilgpilaaaL3RunW
import Derived.Deep.Cut
namespace Go.Proofs.Ytgcencilgpilaaa.Own
open Go.RowKit
set_option linter.unusedVariables false
set_option linter.unusedSimpArgs false

theorem Bytes.belowE {w w' : World} {a : Option Addr} {n : Nat} (h : Bytes w w.heap.size a n) (hb : Below w.heap.size w w') : Bytes w' w'.heap.size a n := by
  rcases h with h | ⟨b, off, rfl, hlt, hz⟩
  · exact .inl h
  · exact .inr ⟨b, off, rfl, Nat.lt_of_lt_of_le hlt hb.size, fun i hi => by rw [hb.cell (p := ⟨b, off + i, none⟩) hlt]; exact hz i hi⟩

/-- The lists of a run that can be read; they lie in blocks from lo up to hi. -/
structure RunS (w : World) (lo hi : Nat) (a1 : Option Addr) (c1 : Nat) (xs : List P2) (a2 : Option Addr) (c2 : Nat) (ys : List P2) : Prop where
  s1 : Sl w a1 xs
  s2 : Sl w a2 ys
  f1 : ∀ x, a1 = some x → lo ≤ x.block ∧ x.block < hi
  f2 : ∀ x, a2 = some x → lo ≤ x.block ∧ x.block < hi
  l1 : xs.length ≤ 5
  l2 : ys.length ≤ 5
  k1 : xs.length ≤ c1
  k2 : ys.length ≤ c2
theorem RunS.below {w w' : World} {lo hi : Nat} {a1 a2 : Option Addr} {c1 c2 : Nat} {xs ys : List P2} (h : RunS w lo hi a1 c1 xs a2 c2 ys) (hb : Below w.heap.size w w') : RunS w' lo hi a1 c1 xs a2 c2 ys := ⟨h.s1.below hb, h.s2.below hb, h.f1, h.f2, h.l1, h.l2, h.k1, h.k2⟩
theorem RunS.turned {L : List Nat} {w w' : World} {lo hi : Nat} {a1 a2 : Option Addr} {c1 c2 : Nat} {xs ys : List P2} (h : RunS w lo hi a1 c1 xs a2 c2 ys) (ht : Turned L w w') (hL : ∀ x, x ∈ L → x < lo ∨ hi ≤ x) : RunS w' lo hi a1 c1 xs a2 c2 ys :=
  ⟨h.s1.turned ht (fun x e hx => by have := h.f1 x e; have := hL _ hx; omega), h.s2.turned ht (fun x e hx => by have := h.f2 x e; have := hL _ hx; omega), h.f1, h.f2, h.l1, h.l2, h.k1, h.k2⟩

/-- What a draw of a run leaves, for one who reads. -/
theorem DrawnRun.open {w w' : World} {rb B p : Nat} {e : Ending} (h : DrawnRun w w' rb B p e) :
    ∃ gb bs a1 c1 xs a2 c2 ys v k, e = .returned (.tuple #[.slice (some ⟨gb, 0, none⟩) (List.length (α := P2) bs) 4, .agg #[.slice a1 (List.length (α := P2) xs) c1, .slice a2 (List.length (α := P2) ys) c2, .int .i64 v, .int .i64 k]]) ∧ (3 ≤ bs.length ∧ bs.length ≤ 4) ∧ RunS w' w.heap.size w'.heap.size a1 c1 xs a2 c2 ys ∧ BoxAt w' gb 0 bs ∧ (∀ o, w'.frozen? ⟨gb, o, none⟩ = false) ∧ (∀ x, a1 = some x → x.block ≠ gb) ∧ (∀ x, a2 = some x → x.block ≠ gb) ∧ w.heap.size ≤ gb ∧ (∃ p', p' ≤ p + 200 ∧ Rd w' rb B p') ∧ Bar rb w w' := by
  obtain ⟨gb, bs, rv, pv, xs, ys, v, k, rfl, hl, ⟨hr, hp, hb, hf⟩, hap, n1, n2, hg, ⟨l1, l2⟩, hR, hbar⟩ := h
  obtain ⟨a1, c1, rfl, s1, k1, _, o1⟩ := hr.open
  obtain ⟨a2, c2, rfl, s2, k2, _, o2⟩ := hp.open
  exact ⟨gb, bs, a1, c1, xs, a2, c2, ys, v, k, rfl, ⟨hl.1, hl.2.1⟩, ⟨s1, s2, fun x e => World.ownsRow.lt hr _ (o1 x e).1, fun x e => World.ownsRow.lt hp _ (o2 x e).1, l1, l2, k1, k2⟩, hb, hf, fun x e => n1 _ (o1 x e).1, fun x e => n2 _ (o2 x e).1, hg, hR, hbar⟩

def TwoRuns (w w' : World) (e : Ending) : Prop := ∃ a1 c1 xs a2 c2 ys v k b1 d1 zs b2 d2 us v' k', e = .returned (.tuple #[.agg #[.slice a1 (List.length (α := P2) xs) c1, .slice a2 (List.length (α := P2) ys) c2, .int .i64 v, .int .i64 k], .agg #[.slice b1 (List.length (α := P2) zs) d1, .slice b2 (List.length (α := P2) us) d2, .int .i64 v', .int .i64 k']]) ∧ (∃ lo hi, RunS w' lo hi a1 c1 xs a2 c2 ys) ∧ (∃ lo hi, RunS w' lo hi b1 d1 zs b2 d2 us) ∧ Below w.heap.size w w'

set_option maxRecDepth 100000 in
set_option maxHeartbeats 4000000 in
theorem drawExecSame (a : Option Addr) (n c : Nat) (w : World) (h : Bytes w w.heap.size a n) (hc : n ≤ c) (hm : c ≤ maxLen) :
    Calls Try.prog 22 #[.slice a n c] w fun e w' => TwoRuns w w' e := by
  have HB : Hid (Bytes w w.heap.size a n) := h
  have HM : Hid (c ≤ maxLen) := hm
  clear h
  unfold maxLen at hm
  obtain ⟨W, hW⟩ : ∃ W, W = (w.alloc (.cells #[.slice none 0 0, .slice none 0 0, .int .i64 0, .int .i64 0] 27)).alloc (.cells #[.slice none 0 0, .slice none 0 0, .int .i64 0, .int .i64 0] 27) := ⟨_, rfl⟩
  have BW : Hid (Below w.heap.size w W) := by show Below _ _ _; rw [hW]; exact ((Below.refl _ _).alloc (Nat.le_refl _) _).alloc (by simp) _
  have SW : Hid (W.heap.size = w.heap.size + 2) := by show _ = _; rw [hW]; simp
  have ZA : Hid (Blk W w.heap.size #[.slice none 0 0, .slice none 0 0, .int .i64 0, .int .i64 0] 27) := by show Blk _ _ _ _; rw [hW]; exact (Blk.new _ _ _).alloc _
  have ZB : Hid (Blk W (w.heap.size + 1) #[.slice none 0 0, .slice none 0 0, .int .i64 0, .int .i64 0] 27) := by show Blk _ _ _ _; rw [hW]; exact Blk.new2 _ _ _ _
  have HW : Hid (W = _) := hW
  clear hW
  go_enter Try.func22, Try.ntmps22
  go_wp2_with fail
  rw [← HW.out]
  refine (l15Open a n c W (HB.out.belowE BW.out) hc HM.out).mono ?_
  rintro e w1 ⟨rfl, hR, hb⟩
  have R1 : Hid (Rd w1 W.heap.size (W.heap.size + 1) 0) := hR
  have B1 : Hid (Below W.heap.size W w1) := hb
  clear hR hb
  go_wp2_with fail
  refine (l3Run W.heap.size (W.heap.size + 1) 0 w1 R1.out (by omega)).mono ?_
  rintro e w2 hd
  obtain ⟨gb, bs, a1, c1, xs, a2, c2, ys, v, k, rfl, _, hrs, _, _, _, _, _, _, hbar⟩ := hd.open
  obtain ⟨X2, hX2⟩ : ∃ X, X = w2.alloc (.cells #[.slice a1 xs.length c1, .slice a2 ys.length c2, .int .i64 v, .int .i64 k] 27) := ⟨_, rfl⟩
  have c2' : Below w2.heap.size w2 X2 := by rw [hX2]; exact below_new _ _
  have b12 : Below W.heap.size W w2 := B1.out.trans (hbar.below (Nat.le_refl _) B1.out.size)
  have B2 : Hid (Below W.heap.size W X2) := b12.trans (c2'.mono b12.size)
  have S2 : Hid (RunS X2 w1.heap.size w2.heap.size a1 c1 xs a2 c2 ys) := hrs.below c2'
  have X2b : Hid (Blk X2 w2.heap.size #[.slice a1 xs.length c1, .slice a2 ys.length c2, .int .i64 v, .int .i64 k] 27) := by show Blk _ _ _ _; rw [hX2]; exact Blk.new _ _ _
  have G2 : Hid (W.heap.size ≤ w2.heap.size) := b12.size
  have HX2 : Hid (X2 = _) := hX2
  clear hX2 c2' b12 hrs hbar hd
  go_wp2_with fail
  rw [← HX2.out]
  refine (l15Open a n c X2 (HB.out.belowE (BW.out.trans (B2.out.mono BW.out.size))) hc HM.out).mono ?_
  rintro e w3 ⟨rfl, hR, hb⟩
  have R3 : Hid (Rd w3 X2.heap.size (X2.heap.size + 1) 0) := hR
  have B3 : Hid (Below X2.heap.size X2 w3) := hb
  clear hR hb
  go_wp2_with fail
  refine (l3Run X2.heap.size (X2.heap.size + 1) 0 w3 R3.out (by omega)).mono ?_
  rintro e w4 hd
  obtain ⟨gb', bs', b1, d1, zs, b2, d2, us, v', k', rfl, _, hrs, _, _, _, _, _, _, hbar⟩ := hd.open
  obtain ⟨X4, hX4⟩ : ∃ X, X = w4.alloc (.cells #[.slice b1 zs.length d1, .slice b2 us.length d2, .int .i64 v', .int .i64 k'] 27) := ⟨_, rfl⟩
  have c4 : Below w4.heap.size w4 X4 := by rw [hX4]; exact below_new _ _
  have b34 : Below X2.heap.size X2 w4 := B3.out.trans (hbar.below (Nat.le_refl _) B3.out.size)
  have d4 : Below X2.heap.size X2 X4 := b34.trans (c4.mono b34.size)
  have S4 : Hid (RunS X4 w1.heap.size w2.heap.size a1 c1 xs a2 c2 ys) := S2.out.below d4
  have T4 : Hid (RunS X4 w3.heap.size w4.heap.size b1 d1 zs b2 d2 us) := hrs.below c4
  have X2c : Hid (Blk X4 w2.heap.size _ _) := X2b.out.keep d4
  have e4 : Below W.heap.size W X4 := B2.out.trans (d4.mono B2.out.size)
  have ZA4 : Hid (Blk X4 w.heap.size _ _) := ZA.out.keep e4
  have ZB4 : Hid (Blk X4 (w.heap.size + 1) _ _) := ZB.out.keep e4
  have X4b : Hid (Blk X4 w4.heap.size #[.slice b1 zs.length d1, .slice b2 us.length d2, .int .i64 v', .int .i64 k'] 27) := by show Blk _ _ _ _; rw [hX4]; exact Blk.new _ _ _
  have W4 : Hid (Below w.heap.size w X4) := BW.out.trans (e4.mono BW.out.size)
  have NN : Hid (w.heap.size + 1 < w2.heap.size ∧ w2.heap.size < w4.heap.size) := ⟨by have := G2.out; have := SW.out; omega, by have := X2b.out.lt; have := b34.size; omega⟩
  have HX4 : Hid (X4 = _) := hX4
  clear hX4 c4 b34 d4 hrs hbar hd e4
  have FIN : Hid (∀ (W' : World) (v'' : Int), Turned [w.heap.size, w.heap.size + 1, w4.heap.size] X4 W' → TwoRuns w W' (.returned (.tuple #[.agg #[.slice a1 xs.length c1, .slice a2 ys.length c2, .int .i64 v, .int .i64 k], .agg #[.slice b1 zs.length d1, .slice b2 us.length d2, .int .i64 v'', .int .i64 k']]))) := by
    intro W' v'' ht
    have s1 := R1.out.2.1
    have s3 := R3.out.2.1
    have nn := NN.out
    have sw := SW.out
    refine ⟨_, _, _, _, _, _, _, _, _, _, _, _, _, _, _, _, rfl, ⟨_, _, S4.out.turned ht (fun x hx => ?_)⟩, ⟨_, _, T4.out.turned ht (fun x hx => ?_)⟩, W4.out.trans (ht.below (fun x hx => ?_) W4.out.size)⟩
    · simp at hx; omega
    · simp at hx; have := X2b.out.lt; omega
    · simp at hx; omega
  obtain ⟨x0, x1, x2, x3⟩ := X2c.out.cells4
  obtain ⟨u0, u1, u2, u3⟩ := X4b.out.cells4
  obtain ⟨z0, z1, z2, z3⟩ := ZA4.out.cells4
  obtain ⟨y0, y1, y2, y3⟩ := ZB4.out.cells4
  have fu := X4b.out.frozen
  have fz := ZA4.out.frozen
  have fy := ZB4.out.frozen
  have HB4 : Hid (Bytes X4 X4.heap.size a n) := HB.out.belowE W4.out
  have n1 : ¬ w4.heap.size = w.heap.size := by have := NN.out; omega
  have n2 : ¬ w4.heap.size = w.heap.size + 1 := by have := NN.out; omega
  have n3 : ¬ w.heap.size = w4.heap.size := by have := NN.out; omega
  have n4 : ¬ w.heap.size + 1 = w4.heap.size := by have := NN.out; omega
  have n5 : ¬ w4.heap.size = w2.heap.size := by have := NN.out; omega
  go_upto_region 3 with fail
  rw [← HX4.out]
  clear HX4 HX2 HW BW SW ZA ZB R1 B1 B2 S2 X2b G2 R3 B3
  by_cases hn0 : n = 0
  · subst hn0
    go_wp2
    go_region
    all_goals
      go_wp2
      refine bodyPost_ret (v := .tuple #[.agg #[.slice a1 xs.length c1, .slice a2 ys.length c2, .int .i64 v, .int .i64 k], .agg #[.slice b1 zs.length d1, .slice b2 us.length d2, .int .i64 v', .int .i64 k']]) (by simp [results, Try.results22, go_sem, z0, z1, z2, z3, y0, y1, y2, y3, n1, n2, n3, n4, n5]) rfl ?_
      refine FIN.out _ _ ?_
      repeat (first | (with_reducible exact Turned.refl _ _) | (with_reducible refine Turned.set ?_ (by simp) _) | (with_reducible refine Turned.drew ?_) | (with_reducible refine Turned.drewN ?_ _))
  · have g0 : decide ((0 : Int) < (n : Int)) = true := by simp; omega
    have g1 : (0 : Int) < (n : Int) := by omega
    rcases HB4.out with h | ⟨b, off, rfl, hlt, hz⟩
    · omega
    obtain ⟨z, hz1, hz2⟩ := hz 0 (by omega)
    rw [Nat.add_zero] at hz2
    clear hz
    cases t : ((z : Int) % 2 == 1) with
    | false =>
      go_wp2
      go_region
      all_goals
        go_wp2
        refine bodyPost_ret (v := .tuple #[.agg #[.slice a1 xs.length c1, .slice a2 ys.length c2, .int .i64 v, .int .i64 k], .agg #[.slice b1 zs.length d1, .slice b2 us.length d2, .int .i64 v', .int .i64 k']]) (by simp [results, Try.results22, go_sem, z0, z1, z2, z3, y0, y1, y2, y3, n1, n2, n3, n4, n5]) rfl ?_
        refine FIN.out _ _ ?_
        repeat (first | (with_reducible exact Turned.refl _ _) | (with_reducible refine Turned.set ?_ (by simp) _) | (with_reducible refine Turned.drew ?_) | (with_reducible refine Turned.drewN ?_ _))
    | true =>
      go_wp2
      go_region
      all_goals
        go_wp2
        refine bodyPost_ret (v := .tuple #[.agg #[.slice a1 xs.length c1, .slice a2 ys.length c2, .int .i64 v, .int .i64 k], .agg #[.slice b1 zs.length d1, .slice b2 us.length d2, .int .i64 (wrap64 (v' + 1)), .int .i64 k']]) (by simp [results, Try.results22, go_sem, z0, z1, z2, z3, y0, y1, y2, y3, n1, n2, n3, n4, n5]) rfl ?_
        refine FIN.out _ _ ?_
        repeat (first | (with_reducible exact Turned.refl _ _) | (with_reducible refine Turned.set ?_ (by simp) _) | (with_reducible refine Turned.drew ?_) | (with_reducible refine Turned.drewN ?_ _))
end Go.Proofs.Ytgcencilgpilaaa.Own
