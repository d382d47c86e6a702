/-
  Own text: what spec.DrawExecFresh does: boxes and a run that can be read.
-/
import Derived.Test.YtgcencilgpilaaaDrawES
namespace Go.Proofs.Ytgcencilgpilaaa.Own
open Go.RowKit
set_option linter.unusedVariables false
set_option linter.unusedSimpArgs false

def BoxRun (w w' : World) (e : Ending) : Prop := ∃ gb bs a1 c1 xs a2 c2 ys v k, e = .returned (.tuple #[.slice (some ⟨gb, 0, none⟩) (List.length (α := P2) bs) 4, .agg #[.slice a1 (List.length (α := P2) xs) c1, .slice a2 (List.length (α := P2) ys) c2, .int .i64 v, .int .i64 k]]) ∧ bs.length ≤ 4 ∧ BoxAt w' gb 0 bs ∧ (∃ lo hi, RunS w' lo hi a1 c1 xs a2 c2 ys) ∧ Below w.heap.size w w'

theorem RunS.set {w : World} {lo hi gb o : Nat} {a1 a2 : Option Addr} {c1 c2 : Nat} {xs ys : List P2} (h : RunS w lo hi a1 c1 xs a2 c2 ys) (n1 : ∀ x, a1 = some x → x.block ≠ gb) (n2 : ∀ x, a2 = some x → x.block ≠ gb) (u : Value) : RunS (w.setCell ⟨gb, o, none⟩ u) lo hi a1 c1 xs a2 c2 ys := by
  have ht : Turned [gb] w (w.setCell ⟨gb, o, none⟩ u) := (Turned.refl _ _).set (by simp) _
  exact ⟨h.s1.turned ht (fun x e hx => n1 x e (by simpa using hx)), h.s2.turned ht (fun x e hx => n2 x e (by simpa using hx)), h.f1, h.f2, h.l1, h.l2, h.k1, h.k2⟩

set_option maxRecDepth 100000 in
set_option maxHeartbeats 8000000 in
theorem drawExecFresh (a : Option Addr) (n c : Nat) (w : World) (h : Bytes w w.heap.size a n) (hc : n ≤ c) (hm : c ≤ maxLen) :
    Calls Try.prog 23 #[.slice a n c] w fun e w' => BoxRun w w' e := by
  have HB : Hid (Bytes w w.heap.size a n) := h
  have HM : Hid (c ≤ maxLen) := hm
  clear h
  unfold maxLen at hm
  obtain ⟨W, hW⟩ : ∃ W, W = w.alloc (.cells #[.slice none 0 0, .slice none 0 0, .int .i64 0, .int .i64 0] 27) := ⟨_, rfl⟩
  have BW : Hid (Below w.heap.size w W) := by show Below _ _ _; rw [hW]; exact below_new _ _
  have SW : Hid (W.heap.size = w.heap.size + 1) := by show _ = _; rw [hW]; simp
  have ZA : Hid (Blk W w.heap.size #[.slice none 0 0, .slice none 0 0, .int .i64 0, .int .i64 0] 27) := by show Blk _ _ _ _; rw [hW]; exact Blk.new _ _ _
  have HW : Hid (W = _) := hW
  clear hW
  go_enter Try.func23, Try.ntmps23
  go_wp2_with fail
  rw [← HW.out]
  refine (l15Open a n c W (HB.out.belowE BW.out) hc HM.out).mono ?_
  rintro e w1 ⟨rfl, hR, hb⟩
  have R1 : Hid (Rd w1 W.heap.size (W.heap.size + 1) 0) := hR
  have B1 : Hid (Below W.heap.size W w1) := hb
  clear hR hb
  go_wp2_with fail
  refine (l3Run W.heap.size (W.heap.size + 1) 0 w1 R1.out (by omega)).mono ?_
  rintro e w2 hd
  obtain ⟨gb, bs, a1, c1, xs, a2, c2, ys, v, k, rfl, ⟨l3, l4⟩, hrs, hat, hfz, n1, n2, hgb, ⟨p', hp', hR2⟩, hbar⟩ := hd.open
  obtain ⟨X2, hX2⟩ : ∃ X, X = w2.alloc (.cells #[.slice a1 xs.length c1, .slice a2 ys.length c2, .int .i64 v, .int .i64 k] 27) := ⟨_, rfl⟩
  have c2' : Below w2.heap.size w2 X2 := by rw [hX2]; exact below_new _ _
  have b12 : Below W.heap.size W w2 := B1.out.trans (hbar.below (Nat.le_refl _) B1.out.size)
  have B2 : Hid (Below W.heap.size W X2) := b12.trans (c2'.mono b12.size)
  have S2 : Hid (RunS X2 w1.heap.size w2.heap.size a1 c1 xs a2 c2 ys) := hrs.below c2'
  have X2b : Hid (Blk X2 w2.heap.size #[.slice a1 xs.length c1, .slice a2 ys.length c2, .int .i64 v, .int .i64 k] 27) := by show Blk _ _ _ _; rw [hX2]; exact Blk.new _ _ _
  have A2 : Hid (BoxAt X2 gb 0 bs ∧ ∀ o, X2.frozen? ⟨gb, o, none⟩ = false) := ⟨hat.below c2', fun o => by rw [c2'.frozen (p := ⟨gb, o, none⟩) hat.1]; exact hfz o⟩
  have R2 : Hid (Rd X2 W.heap.size (W.heap.size + 1) p') := hR2.below c2'
  have N12 : Hid ((∀ x, a1 = some x → x.block ≠ gb) ∧ (∀ x, a2 = some x → x.block ≠ gb)) := ⟨n1, n2⟩
  have GG : Hid (W.heap.size < w1.heap.size ∧ w1.heap.size ≤ gb ∧ gb < w2.heap.size ∧ w.heap.size < W.heap.size) := ⟨by have := R1.out.2.1; omega, hgb, hat.1, by have := SW.out; omega⟩
  have ZA2 : Hid (Blk X2 w.heap.size _ _) := ZA.out.keep B2.out
  have HX2 : Hid (X2 = _) := hX2
  clear hX2 c2' b12 hrs hbar hd hat hfz n1 n2 hgb hR2
  have d0 : decide ((0 : Int) < (bs.length : Int)) = true := by simp; omega
  have d1 : (0 : Int) < (bs.length : Int) := by omega
  go_wp2_with fail
  rw [← HX2.out]
  refine (pick W.heap.size (W.heap.size + 1) p' 2 X2 R2.out (by omega) (by omega) (by omega)).mono ?_
  rintro e w3 ⟨⟨r, rfl, r0, r1⟩, hR, hO⟩
  have R3 : Hid (Rd w3 W.heap.size (W.heap.size + 1) (p' + 1)) := hR
  have t3 : Turned [W.heap.size] X2 w3 := Turned.ofOnly hO (by simp)
  have S3 : Hid (RunS w3 w1.heap.size w2.heap.size a1 c1 xs a2 c2 ys) := S2.out.turned t3 (fun x hx => by have := GG.out; simp at hx; omega)
  have hng : gb ≠ W.heap.size := by have := GG.out; omega
  have A3 : Hid (BoxAt w3 gb 0 bs ∧ ∀ o, w3.frozen? ⟨gb, o, none⟩ = false) := ⟨A2.out.1.only hO hng, fun o => by rw [World.frozen?_of_block (w := X2) (a := ⟨gb, o, none⟩) (hO.block gb hng)]; exact A2.out.2 o⟩
  have X3b : Hid (Blk w3 w2.heap.size _ _) := X2b.out.grown hO.gr (fun e => by injection e with e; have := GG.out; omega)
  have ZA3 : Hid (Blk w3 w.heap.size _ _) := ZA2.out.grown hO.gr (fun e => by injection e with e; have := GG.out; omega)
  have B3 : Hid (Below w.heap.size w w3) := (BW.out.trans (B2.out.mono BW.out.size)).trans (t3.below (fun x hx => by have := GG.out; simp at hx; omega) (BW.out.trans (B2.out.mono BW.out.size)).size)
  have FIN : Hid (∀ (V W' : World) (bs' : List P2), bs'.length = bs.length → BoxAt V gb 0 bs' → RunS V w1.heap.size w2.heap.size a1 c1 xs a2 c2 ys → Below w.heap.size w V → Turned [w.heap.size] V W' → BoxRun w W' (.returned (.tuple #[.slice (some ⟨gb, 0, none⟩) bs.length 4, .agg #[.slice a1 xs.length c1, .slice a2 ys.length c2, .int .i64 v, .int .i64 k]]))) := by
    intro V W' bs' hl hat hrs hb ht
    have gg := GG.out
    refine ⟨gb, bs', a1, c1, xs, a2, c2, ys, v, k, by rw [hl], by omega, hat.turned ht (by simp; omega), ⟨_, _, hrs.turned ht (fun x hx => by simp at hx; omega)⟩, hb.trans (ht.below (fun x hx => by simp at hx; omega) hb.size)⟩
  have m1 : ¬ w2.heap.size = w.heap.size := by have := GG.out; omega
  have m2 : ¬ w.heap.size = w2.heap.size := by have := GG.out; omega
  have m3 : ¬ gb = w.heap.size := by have := GG.out; omega
  have m4 : ¬ w.heap.size = gb := by have := GG.out; omega
  have m5 : ¬ gb = w2.heap.size := by have := GG.out; omega
  have m6 : ¬ w2.heap.size = gb := by have := GG.out; omega
  clear hR hO t3 HX2 HW BW SW ZA ZA2 X2b A2 R2 S2 B1 B2 R1
  by_cases hr : r = 0
  · subst hr
    go_wp2_with fail
    refine (pick W.heap.size (W.heap.size + 1) (p' + 1) bs.length w3 R3.out (by omega) (by omega) (by omega)).mono ?_
    rintro e w4 ⟨⟨i, rfl, i0, i1⟩, hR, hO⟩
    obtain ⟨i, rfl⟩ := Int.eq_ofNat_of_zero_le i0
    have hi : i < bs.length := by omega
    have t4 : Turned [W.heap.size] w3 w4 := Turned.ofOnly hO (by simp)
    have S4 : RunS w4 w1.heap.size w2.heap.size a1 c1 xs a2 c2 ys := S3.out.turned t4 (fun x hx => by have := GG.out; simp at hx; omega)
    have at4 : BoxAt w4 gb 0 bs := A3.out.1.only hO hng
    have fg : ∀ o, w4.frozen? ⟨gb, o, none⟩ = false := fun o => by rw [World.frozen?_of_block (w := w3) (a := ⟨gb, o, none⟩) (hO.block gb hng)]; exact A3.out.2 o
    have X4b : Blk w4 w2.heap.size _ _ := X3b.out.grown hO.gr (fun e => by injection e with e; have := GG.out; omega)
    have ZA4 : Blk w4 w.heap.size _ _ := ZA3.out.grown hO.gr (fun e => by injection e with e; have := GG.out; omega)
    have B4 : Below w.heap.size w w4 := B3.out.trans (t4.below (fun x hx => by have := GG.out; simp at hx; omega) B3.out.size)
    have cv := (at4.2 i hi).1
    rw [Nat.zero_add] at cv
    obtain ⟨ver, hver⟩ : ∃ z, z = (bs.getD i (0, 0)).1 := ⟨_, rfl⟩
    rw [← hver] at cv
    have sv := at4.setVer i hi (wrap64 (ver + 1))
    rw [Nat.zero_add] at sv
    have FIN2 : Hid (∀ W', Turned [w.heap.size] (w4.setCell ⟨gb, i * 2, none⟩ (.int .i64 (wrap64 (ver + 1)))) W' → BoxRun w W' (.returned (.tuple #[.slice (some ⟨gb, 0, none⟩) bs.length 4, .agg #[.slice a1 xs.length c1, .slice a2 ys.length c2, .int .i64 v, .int .i64 k]]))) := fun W' ht =>
      FIN.out _ W' _ (by rw [List.length_set]) sv (S4.set N12.out.1 N12.out.2 _) (B4.setCell (by have := GG.out; show _ ≤ gb; omega) _) ht
    obtain ⟨x0, x1, x2, x3⟩ := X4b.cells4
    obtain ⟨z0, z1, z2, z3⟩ := ZA4.cells4
    have fz := ZA4.frozen
    have hki : (i : Int) < (bs.length : Int) := by omega
    clear hR hO t4 S4 at4 X4b ZA4 B4 sv hver FIN i0 i1
    go_wp2
    go_region
    all_goals
      go_wp2
      refine bodyPost_ret (v := .tuple #[.slice (some ⟨gb, 0, none⟩) bs.length 4, .agg #[.slice a1 xs.length c1, .slice a2 ys.length c2, .int .i64 v, .int .i64 k]]) (by simp [results, Try.results23, go_sem, z0, z1, z2, z3, m1, m2, m3, m4, m5, m6]) rfl ?_
      refine FIN2.out _ ?_
      repeat (first | (with_reducible exact Turned.refl _ _) | (with_reducible refine Turned.set ?_ (by simp) _) | (with_reducible refine Turned.drew ?_) | (with_reducible refine Turned.drewN ?_ _))
  · have hr' : (r == 0) = false := by simpa using hr
    obtain ⟨x0, x1, x2, x3⟩ := X3b.out.cells4
    obtain ⟨z0, z1, z2, z3⟩ := ZA3.out.cells4
    have fz := ZA3.out.frozen
    go_wp2
    go_region
    all_goals
      go_wp2
      refine bodyPost_ret (v := .tuple #[.slice (some ⟨gb, 0, none⟩) bs.length 4, .agg #[.slice a1 xs.length c1, .slice a2 ys.length c2, .int .i64 v, .int .i64 k]]) (by simp [results, Try.results23, go_sem, z0, z1, z2, z3, m1, m2, m3, m4, m5, m6]) rfl ?_
      refine FIN.out w3 _ bs rfl A3.out.1 S3.out B3.out ?_
      repeat (first | (with_reducible exact Turned.refl _ _) | (with_reducible refine Turned.set ?_ (by simp) _) | (with_reducible refine Turned.drew ?_) | (with_reducible refine Turned.drewN ?_ _))
end Go.Proofs.Ytgcencilgpilaaa.Own
