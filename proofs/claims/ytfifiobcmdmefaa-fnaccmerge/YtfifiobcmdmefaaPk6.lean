/-
  Own texts, bundled: L5Entry, Over8, VoteCopy, OwnL, PutVote, CapL, ListCopy, ListGrow, Pair2, EqualR, EntMath, EqualP, ExecSameI, EntLikeI.
-/
import Derived.Test.YtfifiobcmdmefaaPk5
import Derived.Test.YtfifiobcmdmefaaPk2
import Derived.Deep.AppendLies
import Derived.Test.YtfifiobcmdmefaaPk1
import Derived.ChangeKeysEq
import Derived.BigQuiet
import Derived.Deep.QuietTactic
namespace Go.Proofs.Ytfifiobcmdmefaa.Own
open Go.RowKit
set_option linter.unusedVariables false
set_option linter.unusedSimpArgs false

def L5Post (n : Bool) (p q : Int) (xs ys : List P2) (v k : Int) (w : World) (c : Nat) (wx : World) : Prop :=
  ∃ g1 e1 g2 e2, Blk wx c #[.bool n, .int .i64 p, .int .i64 q, .slice (some ⟨g1, 0, none⟩) xs.length e1, .slice (some ⟨g2, 0, none⟩) ys.length e2, .int .i64 v, .int .i64 k] 33 ∧ RunE wx w.heap.size g1 e1 g2 e2 xs ys ∧ Below w.heap.size w wx

set_option maxRecDepth 100000 in
set_option maxHeartbeats 4000000 in
theorem l5EntryX (n : Bool) (p q : Int) (a1 a2 : Option Addr) (c1 c2 : Nat) (xs ys : List P2) (v k : Int) (w : World) (h1 : Sl w a1 xs) (h2 : Sl w a2 ys) (n1 : xs.length ≤ 2 ^ 40) (n2 : ys.length ≤ 2 ^ 40) :
    Calls Try.prog 100 #[.agg #[.bool n, .int .i64 p, .int .i64 q, .slice a1 xs.length c1, .slice a2 ys.length c2, .int .i64 v, .int .i64 k]] w fun e w' => ∃ g1 e1 g2 e2, e = .returned (.agg #[.bool n, .int .i64 p, .int .i64 q, .slice (some ⟨g1, 0, none⟩) xs.length e1, .slice (some ⟨g2, 0, none⟩) ys.length e2, .int .i64 v, .int .i64 k]) ∧ RunE w' w.heap.size g1 e1 g2 e2 xs ys ∧ Below w.heap.size w w' := by
  obtain ⟨W, hW⟩ : ∃ W, W = (w.alloc (.cells #[.bool n, .int .i64 p, .int .i64 q, .slice a1 xs.length c1, .slice a2 ys.length c2, .int .i64 v, .int .i64 k] 33)).alloc (.cells #[.bool false, .int .i64 0, .int .i64 0, .slice none 0 0, .slice none 0 0, .int .i64 0, .int .i64 0] 33) := ⟨_, rfl⟩
  have bW : Below w.heap.size w W := by rw [hW]; exact ((Below.refl _ _).alloc (Nat.le_refl _) _).alloc (by simp) _
  have BW : Hid (Below w.heap.size w W) := bW
  have PW : Hid (Blk W w.heap.size #[.bool n, .int .i64 p, .int .i64 q, .slice a1 xs.length c1, .slice a2 ys.length c2, .int .i64 v, .int .i64 k] 33) := by show Blk _ _ _ _; rw [hW]; exact (Blk.new _ _ _).alloc _
  have ZW : Hid (Blk W (w.heap.size + 1) #[.bool false, .int .i64 0, .int .i64 0, .slice none 0 0, .slice none 0 0, .int .i64 0, .int .i64 0] 33) := by show Blk _ _ _ _; rw [hW]; exact Blk.new2 _ _ _ _
  have SZ : Hid (W.heap.size = w.heap.size + 2) := by show _ = _; rw [hW]; simp
  have S1 : Hid (Sl W a1 xs) := h1.below bW
  have S2 : Hid (Sl W a2 ys) := h2.below bW
  have HW : Hid (W = _) := hW
  have CP : Hid (∀ V, Below W.heap.size W V → Calls Try.prog 135 #[.agg #[.slice a1 xs.length c1, .slice a2 ys.length c2, .int .i64 v, .int .i64 k]] V fun e w' => ∃ g1 e1 g2 e2, e = .returned (.agg #[.slice (some ⟨g1, 0, none⟩) xs.length e1, .slice (some ⟨g2, 0, none⟩) ys.length e2, .int .i64 v, .int .i64 k]) ∧ RunE w' V.heap.size g1 e1 g2 e2 xs ys ∧ Below V.heap.size V w') := fun V hV => l3Copy a1 a2 c1 c2 xs ys v k V (S1.out.below hV) (S2.out.below hV) n1 n2
  have AF : Hid (∀ V, Below W.heap.size W V → (V.cell? ⟨w.heap.size, 0, none⟩ = some (.bool n) ∧ V.cell? ⟨w.heap.size, 1, none⟩ = some (.int .i64 p) ∧ V.cell? ⟨w.heap.size, 2, none⟩ = some (.int .i64 q) ∧ V.cell? ⟨w.heap.size, 3, none⟩ = some (.slice a1 xs.length c1) ∧ V.cell? ⟨w.heap.size, 4, none⟩ = some (.slice a2 ys.length c2) ∧ V.cell? ⟨w.heap.size, 5, none⟩ = some (.int .i64 v) ∧ V.cell? ⟨w.heap.size, 6, none⟩ = some (.int .i64 k)) ∧ (V.cell? ⟨w.heap.size + 1, 0, none⟩ = some (.bool false) ∧ V.cell? ⟨w.heap.size + 1, 1, none⟩ = some (.int .i64 0) ∧ V.cell? ⟨w.heap.size + 1, 2, none⟩ = some (.int .i64 0) ∧ V.cell? ⟨w.heap.size + 1, 3, none⟩ = some (.slice none 0 0) ∧ V.cell? ⟨w.heap.size + 1, 4, none⟩ = some (.slice none 0 0) ∧ V.cell? ⟨w.heap.size + 1, 5, none⟩ = some (.int .i64 0) ∧ V.cell? ⟨w.heap.size + 1, 6, none⟩ = some (.int .i64 0)) ∧ (∀ o, V.frozen? ⟨w.heap.size + 1, o, none⟩ = false)) := fun V hV => ⟨(PW.out.keep hV).cells7, (ZW.out.keep hV).cells7, (ZW.out.keep hV).frozen⟩
  have FIN : Hid (∀ (L : World) (g1 e1 g2 e2 : Nat), Below W.heap.size W L → RunE L W.heap.size g1 e1 g2 e2 xs ys →
      ∀ X, X = (((((((L.setCell ⟨w.heap.size + 1, 0, none⟩ (.bool n)).setCell ⟨w.heap.size + 1, 1, none⟩ (.int .i64 p)).setCell ⟨w.heap.size + 1, 2, none⟩ (.int .i64 q)).setCell ⟨w.heap.size + 1, 3, none⟩ (.slice (some ⟨g1, 0, none⟩) xs.length e1)).setCell ⟨w.heap.size + 1, 4, none⟩ (.slice (some ⟨g2, 0, none⟩) ys.length e2)).setCell ⟨w.heap.size + 1, 5, none⟩ (.int .i64 v)).setCell ⟨w.heap.size + 1, 6, none⟩ (.int .i64 k)) → L5Post n p q xs ys v k w (w.heap.size + 1) X) := fun L g1 e1 g2 e2 hb r1 X hX => by
    have sz := SZ.out
    have sl := hb.size
    have on : Only (w.heap.size + 1) L X := by rw [hX]; exact (((((((Only.refl _ _).setCell _).setCell _).setCell _).setCell _).setCell _).setCell _).setCell _
    have zb := ((((((((ZW.out.keep hb).set 0 (.bool n)).set 1 (.int .i64 p)).set 2 (.int .i64 q)).set 3 (.slice (some ⟨g1, 0, none⟩) xs.length e1)).set 4 (.slice (some ⟨g2, 0, none⟩) ys.length e2)).set 5 (.int .i64 v)).set 6 (.int .i64 k)).eq (C' := #[.bool n, .int .i64 p, .int .i64 q, .slice (some ⟨g1, 0, none⟩) xs.length e1, .slice (some ⟨g2, 0, none⟩) ys.length e2, .int .i64 v, .int .i64 k]) (by simp)
    have os := on.size
    have t1 := r1.b1
    have t2 := r1.b2
    exact ⟨g1, e1, g2, e2, by rw [hX]; exact zb, (r1.blk (Nat.le_of_eq os.symm) (on.block g1 (by omega)) (on.block g2 (by omega))).weaken (by omega), BW.out.trans ((hb.mono BW.out.size).trans (on.below (by omega)))⟩
  obtain ⟨V, hV⟩ : ∃ V, V = W.drew := ⟨_, rfl⟩
  have HV : Hid (V = W.drew) := hV
  have BV : Hid (Below W.heap.size W V) := by show Below _ _ _; rw [hV]; exact (Below.refl _ _).drew
  obtain ⟨⟨p0, p1, p2, p3, p4, p5, p6⟩, ⟨z0, z1, z2, z3, z4, z5, z6⟩, fz⟩ := AF.out W (Below.refl _ _)
  have pv := (AF.out V BV.out).1
  clear h1 h2 hW bW hV
  go_enter Try.func100, Try.ntmps100
  go_upto_region 1 with fail
  rw [← HW.out]
  go_cut [] from 3 to 11 (fun wx => L5Post n p q xs ys v k w (w.heap.size + 1) wx)
  case first =>
    refine wp_region_held_drew (S := (fun w' : World => w'.cell? ⟨w.heap.size, 0, none⟩ = some (.bool n) ∧ w'.cell? ⟨w.heap.size, 1, none⟩ = some (.int .i64 p) ∧ w'.cell? ⟨w.heap.size, 2, none⟩ = some (.int .i64 q) ∧ w'.cell? ⟨w.heap.size, 3, none⟩ = some (.slice a1 xs.length c1) ∧ w'.cell? ⟨w.heap.size, 4, none⟩ = some (.slice a2 ys.length c2) ∧ w'.cell? ⟨w.heap.size, 5, none⟩ = some (.int .i64 v) ∧ w'.cell? ⟨w.heap.size, 6, none⟩ = some (.int .i64 k))) (by kernel_rfl) ⟨p0, p1, p2, p3, p4, p5, p6⟩ (fun hHeld => ?_)
    rw [← HV.out]
    refine wpAnyH_take (i := 0) (v := ?v0) rfl (by kernel_rfl) (by kernel_rfl) (by kernel_rfl) (fun _ _ _ h => h) (Or.inl ⟨by rfl, ?y0⟩) (by assumption) ?r0
    case y0 =>
      intro w' hSw
      try dsimp only at hSw
      go_simp
      try with_reducible rfl
    simp only [Act.put, List.getElem_toArray, List.getElem_cons_succ, List.getElem_cons_zero, List.setIfInBounds_toArray, List.set_cons_zero, List.set_cons_succ]
    refine wpAnyH_take (i := 1) (v := ?v1) rfl (by kernel_rfl) (by kernel_rfl) (by kernel_rfl) (fun _ _ _ h => h) (Or.inl ⟨by rfl, ?y1⟩) (by assumption) ?r1
    case y1 =>
      intro w' hSw
      try dsimp only at hSw
      go_simp
      try with_reducible rfl
    simp only [Act.put, List.getElem_toArray, List.getElem_cons_succ, List.getElem_cons_zero, List.setIfInBounds_toArray, List.set_cons_zero, List.set_cons_succ]
    refine wpAnyH_take (i := 2) (v := ?v2) rfl (by kernel_rfl) (by kernel_rfl) (by kernel_rfl) (fun _ _ _ h => h) (Or.inl ⟨by rfl, ?y2⟩) (by assumption) ?r2
    case y2 =>
      intro w' hSw
      try dsimp only at hSw
      go_simp
      try with_reducible rfl
    simp only [Act.put, List.getElem_toArray, List.getElem_cons_succ, List.getElem_cons_zero, List.setIfInBounds_toArray, List.set_cons_zero, List.set_cons_succ]
    refine wpAnyH_take (i := 3) (v := ?v3) rfl (by kernel_rfl) (by kernel_rfl) (by kernel_rfl) (fun _ _ _ h => h) (Or.inl ⟨by rfl, ?y3⟩) (by assumption) ?r3
    case y3 =>
      intro w' hSw
      try dsimp only at hSw
      go_simp
      try with_reducible rfl
    simp only [Act.put, List.getElem_toArray, List.getElem_cons_succ, List.getElem_cons_zero, List.setIfInBounds_toArray, List.set_cons_zero, List.set_cons_succ]
    refine wpAnyH_take (i := 4) (v := ?v4) rfl (by kernel_rfl) (by kernel_rfl) (by kernel_rfl) (fun _ _ _ h => h) (Or.inl ⟨by rfl, ?y4⟩) (by assumption) ?r4
    case y4 =>
      intro w' hSw
      try dsimp only at hSw
      go_simp
      try with_reducible rfl
    simp only [Act.put, List.getElem_toArray, List.getElem_cons_succ, List.getElem_cons_zero, List.setIfInBounds_toArray, List.set_cons_zero, List.set_cons_succ]
    refine wpAnyH_take (i := 5) (v := ?v5) rfl (by kernel_rfl) (by kernel_rfl) (by kernel_rfl) (fun _ _ _ h => h) (Or.inl ⟨by rfl, ?y5⟩) (by assumption) ?r5
    case y5 =>
      intro w' hSw
      try dsimp only at hSw
      go_simp
      try with_reducible rfl
    simp only [Act.put, List.getElem_toArray, List.getElem_cons_succ, List.getElem_cons_zero, List.setIfInBounds_toArray, List.set_cons_zero, List.set_cons_succ]
    refine wpAnyH_ready (rs := [6]) (by kernel_rfl) (by simp) ?_
    refine AllReadyH.cons rfl (fun K hK => ?_) AllReadyH.nil
    go_simp
    refine Calls.mono (CP.out _ BV.out) ?_
    rintro e w1 ⟨g1, e1, g2, e2, rfl, r1, hb⟩
    have B1 : Hid (Below W.heap.size W w1) := BV.out.trans (hb.mono BV.out.size)
    have R1 : Hid (RunE w1 W.heap.size g1 e1 g2 e2 xs ys) := r1.weaken BV.out.size
    refine hK.out _ _ (AF.out w1 B1.out).1 (fun hH1 => ?_)
    clear hK K r1 hb
    refine wpAnyH_take (i := 7) (v := ?v7) rfl (by kernel_rfl) (by kernel_rfl) (by kernel_rfl) (fun _ _ _ h => h) (Or.inl ⟨by rfl, ?y7⟩) (by assumption) ?r7
    case y7 =>
      intro w' hSw
      try dsimp only at hSw
      go_simp
      try with_reducible rfl
    simp only [Act.put, List.getElem_toArray, List.getElem_cons_succ, List.getElem_cons_zero, List.setIfInBounds_toArray, List.set_cons_zero, List.set_cons_succ]
    refine wpAnyH_ready (rs := [8]) (by kernel_rfl) (by simp) ?_
    refine AllReadyH.cons rfl (fun K hK => ?_) AllReadyH.nil
    obtain ⟨hp, ⟨y0, y1, y2, y3, y4, y5, y6⟩, fy⟩ := AF.out w1 B1.out
    go_simp
    refine hK.out _ _ ?_ (fun hHx => ?_)
    · have on : Only (w.heap.size + 1) w1 (((((((w1.setCell ⟨w.heap.size + 1, 0, none⟩ (.bool n)).setCell ⟨w.heap.size + 1, 1, none⟩ (.int .i64 p)).setCell ⟨w.heap.size + 1, 2, none⟩ (.int .i64 q)).setCell ⟨w.heap.size + 1, 3, none⟩ (.slice (some ⟨g1, 0, none⟩) xs.length e1)).setCell ⟨w.heap.size + 1, 4, none⟩ (.slice (some ⟨g2, 0, none⟩) ys.length e2)).setCell ⟨w.heap.size + 1, 5, none⟩ (.int .i64 v)).setCell ⟨w.heap.size + 1, 6, none⟩ (.int .i64 k)) := (((((((Only.refl _ _).setCell _).setCell _).setCell _).setCell _).setCell _).setCell _).setCell _
      refine ⟨?_, ?_, ?_, ?_, ?_, ?_, ?_⟩
      · rw [on.cell (by simp)]; exact hp.1
      · rw [on.cell (by simp)]; exact hp.2.1
      · rw [on.cell (by simp)]; exact hp.2.2.1
      · rw [on.cell (by simp)]; exact hp.2.2.2.1
      · rw [on.cell (by simp)]; exact hp.2.2.2.2.1
      · rw [on.cell (by simp)]; exact hp.2.2.2.2.2.1
      · rw [on.cell (by simp)]; exact hp.2.2.2.2.2.2
    · refine wpAnyH_done (by kernel_rfl) ?_ _
      go_wp2_with fail
      go_meet
      exact FIN.out w1 g1 e1 g2 e2 B1.out R1.out _ rfl
  case rest =>
    obtain ⟨g1, e1, g2, e2, hblk, hst, hb⟩ := hcut
    obtain ⟨d0, d1, d2, d3, d4, d5, d6⟩ := hblk.cells7
    have F : Hid (RunE wc w.heap.size g1 e1 g2 e2 xs ys ∧ Below w.heap.size w wc) := ⟨hst, hb⟩
    clear hblk hst hb p0 p1 p2 p3 p4 p5 p6 z0 z1 z2 z3 z4 z5 z6 fz pv
    go_wp2_with fail
    refine bodyPost_ret (v := .agg #[.bool n, .int .i64 p, .int .i64 q, .slice (some ⟨g1, 0, none⟩) xs.length e1, .slice (some ⟨g2, 0, none⟩) ys.length e2, .int .i64 v, .int .i64 k]) (by simp [results, Try.results100, go_sem, d0, d1, d2, d3, d4, d5, d6]) rfl ?_
    exact ⟨g1, e1, g2, e2, rfl, F.out.1, F.out.2⟩
/-- In one form: an entry that can be read, copied. -/
theorem l5Entry (x : VM) (w : World) (h1 : Sl w x.a1 x.b.xs) (h2 : Sl w x.a2 x.b.ys) (k1 : x.b.xs.length ≤ 2 ^ 40) (k2 : x.b.ys.length ≤ 2 ^ 40) :
    Calls Try.prog 100 #[.agg x.ecells] w fun e w' => ∃ y : VM, e = .returned (.agg y.ecells) ∧ y.body = x.body ∧ OneOwn w' w.heap.size y ∧ Below w.heap.size w w' :=
  (l5EntryX x.b.n x.b.p x.b.q x.a1 x.a2 x.c1 x.c2 x.b.xs x.b.ys x.b.v x.b.k w h1 h2 k1 k2).mono fun e w' ⟨g1, e1, g2, e2, he, hr, hb⟩ =>
    ⟨⟨x.bal, x.b, some ⟨g1, 0, none⟩, e1, some ⟨g2, 0, none⟩, e2⟩, he, rfl, hr.one x.bal, hb⟩
end Go.Proofs.Ytfifiobcmdmefaa.Own

namespace Go.Proofs.Ytfifiobcmdmefaa.Own
open Go.RowKit
set_option linter.unusedVariables false
set_option linter.unusedSimpArgs false

/-- A vote stored in a block of its own. -/
def over8 (w : World) (b : Nat) (x : VM) : World := (((((((w.setCell ⟨b, 0, none⟩ (.int .i64 x.bal)).setCell ⟨b, 1, none⟩ (.bool x.b.n)).setCell ⟨b, 2, none⟩ (.int .i64 x.b.p)).setCell ⟨b, 3, none⟩ (.int .i64 x.b.q)).setCell ⟨b, 4, none⟩ (.slice x.a1 x.b.xs.length x.c1)).setCell ⟨b, 5, none⟩ (.slice x.a2 x.b.ys.length x.c2)).setCell ⟨b, 6, none⟩ (.int .i64 x.b.v)).setCell ⟨b, 7, none⟩ (.int .i64 x.b.k)
theorem Blk.over8 {w : World} {b : Nat} {z0 z1 z2 z3 z4 z5 z6 z7 : Value} {t : TypeId} (h : Blk w b #[z0, z1, z2, z3, z4, z5, z6, z7] t) (x : VM) : Blk (over8 w b x) b x.cells t := by
  have k := (((((((h.set 0 (.int .i64 x.bal)).set 1 (.bool x.b.n)).set 2 (.int .i64 x.b.p)).set 3 (.int .i64 x.b.q)).set 4 (.slice x.a1 x.b.xs.length x.c1)).set 5 (.slice x.a2 x.b.ys.length x.c2)).set 6 (.int .i64 x.b.v)).set 7 (.int .i64 x.b.k)
  exact k.eq (by simp [VM.cells])
theorem Blk.over8' {w : World} {b : Nat} {y : VM} {t : TypeId} (h : Blk w b y.cells t) (x : VM) : Blk (Own.over8 w b x) b x.cells t := Blk.over8 h x
theorem below_over8 {B b : Nat} {w0 w : World} (h : Below B w0 w) (hB : B ≤ b) (x : VM) : Below B w0 (over8 w b x) := by
  unfold over8
  exact (((((((h.setCell hB _).setCell hB _).setCell hB _).setCell hB _).setCell hB _).setCell hB _).setCell hB _).setCell hB _
end Go.Proofs.Ytfifiobcmdmefaa.Own

namespace Go.Proofs.Ytfifiobcmdmefaa.Own
open Go.RowKit
set_option linter.unusedVariables false
set_option linter.unusedSimpArgs false

set_option maxRecDepth 100000 in
set_option maxHeartbeats 2000000 in
theorem voteCopied (x : VM) (w : World) (h1 : Sl w x.a1 x.b.xs) (h2 : Sl w x.a2 x.b.ys) (k1 : x.b.xs.length ≤ 2 ^ 40) (k2 : x.b.ys.length ≤ 2 ^ 40) :
    Calls Try.prog 53 #[.agg x.cells] w fun e w' => ∃ y : VM, e = .returned (.agg y.cells) ∧ y.body = x.body ∧ OneOwn w' w.heap.size y ∧ Below w.heap.size w w' := by
  obtain ⟨bal, ⟨n, p, q, xs, ys, v, k⟩, a1, c1, a2, c2⟩ := x
  simp only [VM.cells] at *
  obtain ⟨X, hX⟩ : ∃ X, X = (w.alloc (.cells #[.int .i64 bal, .bool n, .int .i64 p, .int .i64 q, .slice a1 xs.length c1, .slice a2 ys.length c2, .int .i64 v, .int .i64 k] 42)).alloc (.cells #[.int .i64 0, .bool false, .int .i64 0, .int .i64 0, .slice none 0 0, .slice none 0 0, .int .i64 0, .int .i64 0] 42) := ⟨_, rfl⟩
  have P0 : Hid (Blk X w.heap.size #[.int .i64 bal, .bool n, .int .i64 p, .int .i64 q, .slice a1 xs.length c1, .slice a2 ys.length c2, .int .i64 v, .int .i64 k] 42) := by
    show Blk _ _ _ _; rw [hX]; exact (Blk.new _ _ _).alloc _
  have R0 : Hid (Blk X (w.heap.size + 1) #[.int .i64 0, .bool false, .int .i64 0, .int .i64 0, .slice none 0 0, .slice none 0 0, .int .i64 0, .int .i64 0] 42) := by
    show Blk _ _ _ _; rw [hX]; exact Blk.new2 _ _ _ _
  have BX : Hid (Below w.heap.size w X) := by
    show Below _ _ _; rw [hX]; exact ((Below.refl _ _).alloc (Nat.le_refl _) _).alloc (by rw [size_new]; omega) _
  have SX : X.heap.size = w.heap.size + 1 + 1 := by rw [hX, size_new, size_new]
  have HX : Hid (X = _) := hX
  have EC := entCopied ⟨bal, ⟨n, p, q, xs, ys, v, k⟩, a1, c1, a2, c2⟩ X (h1.below BX.out) (h2.below BX.out) k1 k2
  simp only [VM.ecells] at EC
  have HC : Hid _ := EC
  clear hX EC h1 h2
  obtain ⟨q0, q1, q2, q3, q4, q5, q6, q7⟩ := P0.out.cells8
  go_enter Try.func53, Try.ntmps53
  go_upto_region 1 with fail
  rw [← HX.out]
  go_wp2_with fail
  refine Calls.mono HC.out ?_
  rintro e w3 ⟨⟨ybal, ⟨yn, yp, yq, yxs, yys, yv, yk⟩, g1, e1, g2, e2⟩, rfl, hyb, hy, b3⟩
  simp only [VM.body, Prod.mk.injEq, EB.mk.injEq] at hyb
  obtain ⟨rfl, rfl, rfl, rfl, rfl, rfl, rfl, rfl⟩ := hyb
  have Y3 : Hid (OneOwn w3 X.heap.size ⟨ybal, ⟨yn, yp, yq, yxs, yys, yv, yk⟩, g1, e1, g2, e2⟩) := hy
  have B3 : Hid (Below X.heap.size X w3) := b3
  have P3 : Hid (Blk w3 w.heap.size #[.int .i64 ybal, .bool yn, .int .i64 yp, .int .i64 yq, .slice a1 yxs.length c1, .slice a2 yys.length c2, .int .i64 yv, .int .i64 yk] 42) := P0.out.keep B3.out
  have R3 : Hid (Blk w3 (w.heap.size + 1) #[.int .i64 0, .bool false, .int .i64 0, .int .i64 0, .slice none 0 0, .slice none 0 0, .int .i64 0, .int .i64 0] 42) := R0.out.keep B3.out
  clear hy b3 q0 q1 q2 q3 q4 q5 q6 q7
  obtain ⟨q0, q1, q2, q3, q4, q5, q6, q7⟩ := P3.out.cells8
  have fr := P3.out.frozen
  go_upto_region 2 with fail
  obtain ⟨Z, hZ⟩ : ∃ Z, Z = ((((((w3.setCell ⟨w.heap.size, 1, none⟩ (.bool yn)).setCell ⟨w.heap.size, 2, none⟩ (.int .i64 yp)).setCell ⟨w.heap.size, 3, none⟩ (.int .i64 yq)).setCell ⟨w.heap.size, 4, none⟩ (.slice g1 yxs.length e1)).setCell ⟨w.heap.size, 5, none⟩ (.slice g2 yys.length e2)).setCell ⟨w.heap.size, 6, none⟩ (.int .i64 yv)).setCell ⟨w.heap.size, 7, none⟩ (.int .i64 yk) := ⟨_, rfl⟩
  rw [← hZ]
  have SZ : Z.heap.size = w3.heap.size := by rw [hZ]; simp [World.setCell]
  have S3 : w.heap.size + 1 + 1 ≤ w3.heap.size := by have := B3.out.size; omega
  have PZ : Hid (Blk Z w.heap.size #[.int .i64 ybal, .bool yn, .int .i64 yp, .int .i64 yq, .slice g1 yxs.length e1, .slice g2 yys.length e2, .int .i64 yv, .int .i64 yk] 42) := by
    show Blk _ _ _ _; rw [hZ]; exact ((((((P3.out.set 1 _).set 2 _).set 3 _).set 4 _).set 5 _).set 6 _).set 7 _
  have RZ : Hid (Blk Z (w.heap.size + 1) #[.int .i64 0, .bool false, .int .i64 0, .int .i64 0, .slice none 0 0, .slice none 0 0, .int .i64 0, .int .i64 0] 42) := by
    show Blk _ _ _ _; rw [hZ]; exact ((((((R3.out.other (by omega) _ _).other (by omega) _ _).other (by omega) _ _).other (by omega) _ _).other (by omega) _ _).other (by omega) _ _).other (by omega) _ _
  have BZ : Hid (Below w.heap.size w Z) := by
    show Below _ _ _; rw [hZ]; exact (((((((BX.out.trans (B3.out.mono (by omega))).setCell (Nat.le_refl _) _).setCell (Nat.le_refl _) _).setCell (Nat.le_refl _) _).setCell (Nat.le_refl _) _).setCell (Nat.le_refl _) _).setCell (Nat.le_refl _) _).setCell (Nat.le_refl _) _
  have zb : ∀ b, b ≠ w.heap.size → Z.heap[b]? = w3.heap[b]? := fun b hb => by
    rw [hZ, Below.heap_setCell _ _ _ _ hb, Below.heap_setCell _ _ _ _ hb, Below.heap_setCell _ _ _ _ hb, Below.heap_setCell _ _ _ _ hb, Below.heap_setCell _ _ _ _ hb, Below.heap_setCell _ _ _ _ hb, Below.heap_setCell _ _ _ _ hb]
  have YZ : Hid (OneOwn Z X.heap.size ⟨ybal, ⟨yn, yp, yq, yxs, yys, yv, yk⟩, g1, e1, g2, e2⟩) := Y3.out.blkV (Nat.le_of_eq SZ.symm) fun b hb => zb b (by
    rcases hb with hb | hb
    · have := Y3.out.b1 b hb; omega
    · have := Y3.out.b2 b hb; omega)
  clear q0 q1 q2 q3 q4 q5 q6 q7 fr hZ zb
  obtain ⟨q0, q1, q2, q3, q4, q5, q6, q7⟩ := PZ.out.cells8
  obtain ⟨r0, r1, r2, r3, r4, r5, r6, r7⟩ := RZ.out.cells8
  have fr := RZ.out.frozen
  go_wp2_with fail
  obtain ⟨U, hU⟩ : ∃ U, U = (((((((Z.setCell ⟨w.heap.size + 1, 0, none⟩ (.int .i64 ybal)).setCell ⟨w.heap.size + 1, 1, none⟩ (.bool yn)).setCell ⟨w.heap.size + 1, 2, none⟩ (.int .i64 yp)).setCell ⟨w.heap.size + 1, 3, none⟩ (.int .i64 yq)).setCell ⟨w.heap.size + 1, 4, none⟩ (.slice g1 yxs.length e1)).setCell ⟨w.heap.size + 1, 5, none⟩ (.slice g2 yys.length e2)).setCell ⟨w.heap.size + 1, 6, none⟩ (.int .i64 yv)).setCell ⟨w.heap.size + 1, 7, none⟩ (.int .i64 yk) := ⟨_, rfl⟩
  rw [← hU]
  have RU : Blk U (w.heap.size + 1) #[.int .i64 ybal, .bool yn, .int .i64 yp, .int .i64 yq, .slice g1 yxs.length e1, .slice g2 yys.length e2, .int .i64 yv, .int .i64 yk] 42 := by
    rw [hU]; exact (((((((RZ.out.set 0 _).set 1 _).set 2 _).set 3 _).set 4 _).set 5 _).set 6 _).set 7 _
  have SU : U.heap.size = Z.heap.size := by rw [hU]; simp [World.setCell]
  have BU : Below w.heap.size w U := by
    rw [hU]
    exact (((((((BZ.out.setCell (by show w.heap.size ≤ w.heap.size + 1; omega) _).setCell (by show w.heap.size ≤ w.heap.size + 1; omega) _).setCell (by show w.heap.size ≤ w.heap.size + 1; omega) _).setCell (by show w.heap.size ≤ w.heap.size + 1; omega) _).setCell (by show w.heap.size ≤ w.heap.size + 1; omega) _).setCell (by show w.heap.size ≤ w.heap.size + 1; omega) _).setCell (by show w.heap.size ≤ w.heap.size + 1; omega) _).setCell (by show w.heap.size ≤ w.heap.size + 1; omega) _
  have ub : ∀ b, b ≠ w.heap.size + 1 → U.heap[b]? = Z.heap[b]? := fun b hb => by
    rw [hU, Below.heap_setCell _ _ _ _ hb, Below.heap_setCell _ _ _ _ hb, Below.heap_setCell _ _ _ _ hb, Below.heap_setCell _ _ _ _ hb, Below.heap_setCell _ _ _ _ hb, Below.heap_setCell _ _ _ _ hb, Below.heap_setCell _ _ _ _ hb, Below.heap_setCell _ _ _ _ hb]
  have YU : OneOwn U w.heap.size ⟨ybal, ⟨yn, yp, yq, yxs, yys, yv, yk⟩, g1, e1, g2, e2⟩ := (YZ.out.blkV (Nat.le_of_eq SU.symm) fun b hb => ub b (by
    rcases hb with hb | hb
    · have := YZ.out.b1 b hb; omega
    · have := YZ.out.b2 b hb; omega)).low (by omega)
  obtain ⟨z0, z1, z2, z3, z4, z5, z6, z7⟩ := RU.cells8
  refine bodyPost_ret (v := .agg #[.int .i64 ybal, .bool yn, .int .i64 yp, .int .i64 yq, .slice g1 yxs.length e1, .slice g2 yys.length e2, .int .i64 yv, .int .i64 yk]) (by simp [results, Try.results53, go_sem, z0, z1, z2, z3, z4, z5, z6, z7]) rfl ?_
  exact ⟨⟨ybal, ⟨yn, yp, yq, yxs, yys, yv, yk⟩, g1, e1, g2, e2⟩, rfl, rfl, YU, BU⟩
end Go.Proofs.Ytfifiobcmdmefaa.Own

namespace Go.Proofs.Ytfifiobcmdmefaa.Own
open Go.RowKit
set_option linter.unusedVariables false
set_option linter.unusedSimpArgs false

def flat8 (vs : List VM) : List Value := vs.flatMap fun x => x.cells.toList
theorem flat8_length (vs : List VM) : (flat8 vs).length = vs.length * 8 := by
  induction vs with
  | nil => rfl
  | cons p r ih => simp [flat8, VM.cells] at ih ⊢; omega
theorem flat8_snoc (vs : List VM) (y : VM) : flat8 (vs ++ [y]) = flat8 vs ++ y.cells.toList := by simp [flat8]
theorem flat8_get (vs : List VM) (i j : Nat) (h : i < vs.length) (hj : j < 8) : (flat8 vs)[i * 8 + j]? = (vs.getD i v0).cells.toList[j]? := by
  induction vs generalizing i with
  | nil => simp at h
  | cons p r ih =>
    have hl : p.cells.toList.length = 8 := rfl
    cases i with
    | zero =>
      simp only [flat8, List.flatMap_cons, Nat.zero_mul, Nat.zero_add]
      rw [List.getElem?_append_left (by omega)]
      rfl
    | succ i =>
      have := ih i (by simpa using h)
      simp only [flat8, List.flatMap_cons] at this ⊢
      rw [List.getElem?_append_right (by omega), show (i + 1) * 8 + j - p.cells.toList.length = i * 8 + j by omega]
      simpa using this

theorem getD_snocV (vs : List VM) (y : VM) (i : Nat) : (vs ++ [y]).getD i v0 = if i < vs.length then vs.getD i v0 else if i = vs.length then y else v0 := by
  by_cases h : i < vs.length
  · simp [List.getD, List.getElem?_append_left h, h]
  · rw [if_neg h]
    by_cases e : i = vs.length
    · simp [List.getD, e]
    · rw [if_neg e]
      simp [List.getD, List.getElem?_eq_none (show (vs ++ [y]).length ≤ i by simp; omega)]

theorem OneOwn.blk {w w' : World} {B : Nat} {y : VM} (h : OneOwn w B y) (hs : w.heap.size ≤ w'.heap.size) (hb : ∀ b, (blk1 y = some b ∨ blk2 y = some b) → w'.heap[b]? = w.heap[b]?) : OneOwn w' B y := by
  have f : ∀ (a : Option Addr) (xs : List P2), OwnB w B a xs → (∀ b, blkOf a xs.length = some b → w'.heap[b]? = w.heap[b]?) → OwnB w' B a xs := fun a xs h hb => by
    rcases h with h | ⟨g, rfl, hB, h, hf⟩
    · exact .inl h
    · by_cases h0 : xs = []
      · exact .inl h0
      · have hl : xs.length ≠ 0 := fun e => h0 (List.eq_nil_of_length_eq_zero e)
        have e := hb g (by simp [blkOf, hl])
        exact .inr ⟨g, rfl, hB, h.block hs e, fun o => by rw [World.frozen?_of_block (w := w) (a := ⟨g, o, none⟩) e]; exact hf o⟩
  exact ⟨f _ _ h.l1 fun b e => hb b (.inl e), f _ _ h.l2 fun b e => hb b (.inr e), h.c1, h.c2, fun b e => ⟨(h.b1 b e).1, Nat.lt_of_lt_of_le (h.b1 b e).2 hs⟩, fun b e => ⟨(h.b2 b e).1, Nat.lt_of_lt_of_le (h.b2 b e).2 hs⟩, h.ap⟩
theorem OneOwn.weaken {w : World} {B B' : Nat} {y : VM} (h : OneOwn w B y) (hB : B' ≤ B) : OneOwn w B' y :=
  ⟨h.l1.weaken hB, h.l2.weaken hB, h.c1, h.c2, fun b e => ⟨Nat.le_trans hB (h.b1 b e).1, (h.b1 b e).2⟩, fun b e => ⟨Nat.le_trans hB (h.b2 b e).1, (h.b2 b e).2⟩, h.ap⟩

structure OwnL (w : World) (B : Nat) (v : Value) (vs : List VM) : Prop where
  row : w.ownsRow B 42 8 v vs.length (flat8 vs)
  one : ∀ i, i < vs.length → OneOwn w B (vs.getD i v0)
  out : ∀ i, i < vs.length → ∀ g, v.ownBlock = some g → blk1 (vs.getD i v0) ≠ some g ∧ blk2 (vs.getD i v0) ≠ some g
  all : ∀ i j, i < vs.length → j < vs.length → i ≠ j → ∀ b, (blk1 (vs.getD i v0) = some b ∨ blk2 (vs.getD i v0) = some b) → blk1 (vs.getD j v0) ≠ some b ∧ blk2 (vs.getD j v0) ≠ some b

theorem OwnL.nil (w : World) (B : Nat) : OwnL w B (.slice none 0 0) [] :=
  ⟨World.ownsRow_nil w B _ 8, fun i h => by simp at h, fun i h => by simp at h, fun i j h => by simp at h⟩
theorem ownsRow_lt8 {w : World} {base : Nat} {e : TypeId} {size : Nat} {v : Value} {n : Nat} {xs : List Value} (h : w.ownsRow base e size v n xs) : ∀ g, v.ownBlock = some g → g < w.heap.size := by
  obtain ⟨_, h⟩ := h
  intro g hg
  rcases h with ⟨rfl, _⟩ | ⟨g', cap, cur, rfl, hb, hh, _⟩
  · cases hg
  · simp only [Value.ownBlock] at hg
    injection hg with hg
    subst hg
    exact (Array.getElem?_eq_some_iff.1 hh).1
theorem OwnL.keep {w w' : World} {B : Nat} {v : Value} {vs : List VM} (h : OwnL w B v vs) (hb : Below w.heap.size w w') : OwnL w' B v vs := by
  refine ⟨?_, fun i hi => (h.one i hi).blk hb.size fun b e => hb.block b ?_, h.out, h.all⟩
  · obtain ⟨h1, h2⟩ := h.row
    refine ⟨h1, ?_⟩
    rcases h2 with h2 | ⟨g, cap, cur, hv, hg, hh, r⟩
    · exact .inl h2
    · exact .inr ⟨g, cap, cur, hv, hg, by rw [hb.block g (Array.getElem?_eq_some_iff.1 hh).1]; exact hh, r⟩
  · rcases e with e | e
    · exact ((h.one i hi).b1 b e).2
    · exact ((h.one i hi).b2 b e).2

/-- One vote more. -/
theorem OwnL.snoc {w0 w w' : World} {B : Nat} {v v' : Value} {vs : List VM} {y : VM} (h0 : OwnL w0 B v vs) (hb : Below w0.heap.size w0 w) (hy : OneOwn w w0.heap.size y) (hB : B ≤ w0.heap.size)
    (hrow : w'.ownsRow B 42 8 v' (vs.length + 1) (flat8 vs ++ y.cells.toList)) (hg : w.grownBy w' v.ownBlock) (hloc : ∀ g, v'.ownBlock = some g → v.ownBlock = some g ∨ g = w.heap.size) : OwnL w' B v' (vs ++ [y]) := by
  have h := h0.keep hb
  obtain ⟨_, _, _, hgs, hgb⟩ := hg
  have lt0 : ∀ i, i < vs.length → ∀ b, (blk1 (vs.getD i v0) = some b ∨ blk2 (vs.getD i v0) = some b) → b < w0.heap.size := fun i hi b e => by
    rcases e with e | e
    · exact ((h0.one i hi).b1 b e).2
    · exact ((h0.one i hi).b2 b e).2
  have rl0 := ownsRow_lt8 h0.row
  have rl : ∀ g, v.ownBlock = some g → g < w0.heap.size := rl0
  have yb : ∀ b, (blk1 y = some b ∨ blk2 y = some b) → w0.heap.size ≤ b ∧ b < w.heap.size := fun b e => by
    rcases e with e | e
    · exact hy.b1 b e
    · exact hy.b2 b e
  have len : (vs ++ [y]).length = vs.length + 1 := by simp
  have at1 : ∀ i, i < vs.length → (vs ++ [y]).getD i v0 = vs.getD i v0 := fun i hi => by rw [getD_snocV, if_pos hi]
  have at2 : (vs ++ [y]).getD vs.length v0 = y := by rw [getD_snocV, if_neg (by omega), if_pos rfl]
  have hbs := hb.size
  refine ⟨by rw [len, flat8_snoc]; exact hrow, fun i hi => ?_, fun i hi g hgv => ?_, fun i j hi hj hne b e => ?_⟩
  · rw [len] at hi
    by_cases e : i < vs.length
    · rw [at1 i e]
      refine (h.one i e).blk hgs fun b eb => hgb b ?_ ?_
      · have := lt0 i e b eb; omega
      · intro k
        have o := h.out i e b k.symm
        rcases eb with eb | eb
        · exact o.1 eb
        · exact o.2 eb
    · obtain rfl : i = vs.length := by omega
      rw [at2]
      refine (hy.weaken hB).blk hgs fun b eb => hgb b (yb b eb).2 ?_
      intro k
      have := rl b k.symm
      have := (yb b eb).1
      omega
  · rw [len] at hi
    have key : ∀ b, (blk1 ((vs ++ [y]).getD i v0) = some b ∨ blk2 ((vs ++ [y]).getD i v0) = some b) → b ≠ g := fun b eb => by
      by_cases e : i < vs.length
      · rw [at1 i e] at eb
        rcases hloc g hgv with hl | hl
        · have o := h.out i e g hl
          intro e2
          subst e2
          rcases eb with eb | eb
          · exact o.1 eb
          · exact o.2 eb
        · have := lt0 i e b eb; omega
      · obtain rfl : i = vs.length := by omega
        rw [at2] at eb
        have := yb b eb
        rcases hloc g hgv with hl | hl
        · have := rl g hl; omega
        · omega
    exact ⟨fun e => key g (.inl e) rfl, fun e => key g (.inr e) rfl⟩
  · rw [len] at hi hj
    by_cases ei : i < vs.length
    · rw [at1 i ei] at e
      by_cases ej : j < vs.length
      · rw [at1 j ej]; exact h.all i j ei ej hne b e
      · obtain rfl : j = vs.length := by omega
        rw [at2]
        have := lt0 i ei b e
        exact ⟨fun e2 => by have := yb b (.inl e2); omega, fun e2 => by have := yb b (.inr e2); omega⟩
    · obtain rfl : i = vs.length := by omega
      rw [at2] at e
      have := yb b e
      have ej : j < vs.length := by omega
      rw [at1 j ej]
      exact ⟨fun e2 => by have := lt0 j ej b (.inl e2); omega, fun e2 => by have := lt0 j ej b (.inr e2); omega⟩

/-- As a list in memory of one's own. -/
theorem OwnL.vs {w : World} {B : Nat} {v : Value} {vs : List VM} (h : OwnL w B v vs) (hn : vs ≠ []) : ∃ g cap, v = .slice (some ⟨g, 0, none⟩) vs.length cap ∧ vs.length ≤ cap ∧ OwnVs w B g vs ∧ Sep g vs := by
  have hpos : 0 < vs.length := List.length_pos_iff.2 hn
  obtain ⟨hl, hr⟩ := h.row
  rcases hr with ⟨_, h0⟩ | ⟨g, cap, cur, hv, hb, hh, hmc, _, hsz, htk⟩
  · omega
  have hl8 := flat8_length vs
  refine ⟨g, cap, hv, hmc, ⟨(Array.getElem?_eq_some_iff.1 hh).1, hb, fun o => frozen_heap hh o, fun i hi => ?_, fun i hi => ⟨(h.one i hi).l1, (h.one i hi).l2⟩⟩, ⟨fun i hi => h.out i hi g (by rw [hv]; rfl), fun i hi => (h.one i hi).ap, h.all⟩⟩
  have e : ∀ j, j < 8 → w.cell? ⟨g, i * 8 + j, none⟩ = (vs.getD i v0).cells.toList[j]? := fun j hj => by
    rw [← flat8_get vs i j hi hj, ← htk, cell_heap hh, List.getElem?_take_of_lt (by omega)]
    simp
  exact ⟨e 0 (by omega), e 1 (by omega), e 2 (by omega), e 3 (by omega), e 4 (by omega), e 5 (by omega), e 6 (by omega), e 7 (by omega)⟩
end Go.Proofs.Ytfifiobcmdmefaa.Own

namespace Go.Proofs.Ytfifiobcmdmefaa.Own
open Go.RowKit
set_option linter.unusedVariables false
set_option linter.unusedSimpArgs false

theorem set8_other (w : World) (g o : Nat) (y : VM) (o' : Nat) (ho : o' < o ∨ o + 7 < o') : (set8 w g o y).cell? ⟨g, o', none⟩ = w.cell? ⟨g, o', none⟩ := by
  unfold set8
  rw [setCell_cell_other _ _ _ _ _ (by omega), setCell_cell_other _ _ _ _ _ (by omega), setCell_cell_other _ _ _ _ _ (by omega), setCell_cell_other _ _ _ _ _ (by omega), setCell_cell_other _ _ _ _ _ (by omega), setCell_cell_other _ _ _ _ _ (by omega), setCell_cell_other _ _ _ _ _ (by omega), setCell_cell_other _ _ _ _ _ (by omega)]
theorem set8_c8 {w : World} {g o : Nat} {x : VM} (h : C8 w g o x) (y : VM) : C8 (set8 w g o y) g o y := by
  obtain ⟨h0, h1, h2, h3, h4, h5, h6, h7⟩ := h
  unfold set8
  refine ⟨?_, ?_, ?_, ?_, ?_, ?_, ?_, ?_⟩
  all_goals
    repeat (rw [setCell_cell_other _ _ _ _ _ (by omega)])
    apply setCell_cell_same
    repeat (rw [setCell_cell_other _ _ _ _ _ (by omega)])
    assumption
theorem OwnB.blkLt {w : World} {B : Nat} {a : Option Addr} {xs : List P2} (h : OwnB w B a xs) : ∀ b, blkOf a xs.length = some b → B ≤ b ∧ b < w.heap.size := by
  intro b hb
  rcases h with rfl | ⟨g, rfl, hB, h, _⟩
  · simp [blkOf] at hb
  · by_cases h0 : xs.length = 0
    · simp [blkOf, h0] at hb
    · have : g = b := by simpa [blkOf, h0] using hb
      subst this
      exact ⟨hB, h.1⟩
theorem getD_setV (vs : List VM) (i j : Nat) (y : VM) (hi : i < vs.length) : (vs.set i y).getD j v0 = if i = j then y else vs.getD j v0 := by
  simp only [List.getD_eq_getElem?_getD, List.getElem?_set]
  by_cases e : i = j
  · simp [e, show j < vs.length by omega]
  · simp [e]

theorem OwnVs.put {w0 w : World} {B g : Nat} {vs : List VM} (h0 : OwnVs w0 B g vs) (sep : Sep g vs) (hb : Below w0.heap.size w0 w) {y : VM} (hy : OneOwn w w0.heap.size y) (hB : B ≤ w0.heap.size) (i : Nat) (hi : i < vs.length) :
    OwnVs (set8 w g (i * 8) y) B g (vs.set i y) ∧ Sep g (vs.set i y) := by
  have T := set8_turned w g (i * 8) y
  have S := set8_size w g (i * 8) y
  have hs := hb.size
  have hg := h0.lt
  have keep : ∀ b, b ≠ g → (set8 w g (i * 8) y).heap[b]? = w.heap[b]? := fun b hne => by
    unfold set8
    rw [Below.heap_setCell _ _ _ _ hne, Below.heap_setCell _ _ _ _ hne, Below.heap_setCell _ _ _ _ hne, Below.heap_setCell _ _ _ _ hne, Below.heap_setCell _ _ _ _ hne, Below.heap_setCell _ _ _ _ hne, Below.heap_setCell _ _ _ _ hne, Below.heap_setCell _ _ _ _ hne]
  have lt0 : ∀ j, j < vs.length → ∀ b, (blk1 (vs.getD j v0) = some b ∨ blk2 (vs.getD j v0) = some b) → b < w0.heap.size := fun j hj b e => by
    rcases e with e | e
    · exact ((h0.own j hj).1.blkLt b e).2
    · exact ((h0.own j hj).2.blkLt b e).2
  have yb : ∀ b, (blk1 y = some b ∨ blk2 y = some b) → w0.heap.size ≤ b ∧ b < w.heap.size := fun b e => by
    rcases e with e | e
    · exact hy.b1 b e
    · exact hy.b2 b e
  refine ⟨⟨by rw [S]; omega, h0.lo, fun o => ?_, fun j hj => ?_, fun j hj => ?_⟩, ⟨fun j hj => ?_, fun j hj => ?_, fun j k hj hk hne b e => ?_⟩⟩
  · have : w.frozen? ⟨g, o, none⟩ = false := by rw [hb.frozen (p := ⟨g, o, none⟩) hg]; exact h0.fr o
    simpa [set8] using this
  · rw [List.length_set] at hj
    rw [getD_setV _ _ _ _ hi]
    have cj : C8 w g (j * 8) (vs.getD j v0) := (h0.cell j hj).congr fun l hl => hb.cell (p := ⟨g, j * 8 + l, none⟩) hg
    by_cases e : i = j
    · subst e; rw [if_pos rfl]; exact set8_c8 cj y
    · rw [if_neg e]
      exact cj.congr fun l hl => set8_other _ _ _ _ _ (by omega)
  · rw [List.length_set] at hj
    rw [getD_setV _ _ _ _ hi]
    by_cases e : i = j
    · subst e; rw [if_pos rfl]
      refine ⟨(hy.l1.weaken hB).blk S fun b hb' => keep b ?_, (hy.l2.weaken hB).blk S fun b hb' => keep b ?_⟩
      · have := hy.b1 b hb'; omega
      · have := hy.b2 b hb'; omega
    · rw [if_neg e]
      have s := sep.one j hj
      refine ⟨((h0.own j hj).1.below hb).blk S fun b hb' => keep b fun e => s.1 (by rw [← e]; exact hb'), ((h0.own j hj).2.below hb).blk S fun b hb' => keep b fun e => s.2 (by rw [← e]; exact hb')⟩
  · rw [List.length_set] at hj
    rw [getD_setV _ _ _ _ hi]
    by_cases e : i = j
    · rw [if_pos e]
      exact ⟨fun e2 => by have := yb g (.inl e2); omega, fun e2 => by have := yb g (.inr e2); omega⟩
    · rw [if_neg e]; exact sep.one j hj
  · rw [List.length_set] at hj
    rw [getD_setV _ _ _ _ hi]
    by_cases e : i = j
    · rw [if_pos e]; exact hy.ap
    · rw [if_neg e]; exact sep.two j hj
  · rw [List.length_set] at hj hk
    rw [getD_setV _ _ _ _ hi] at e ⊢
    by_cases ej : i = j
    · rw [if_pos ej] at e
      rw [if_neg (by omega)]
      have := yb b e
      exact ⟨fun e2 => by have := lt0 k hk b (.inl e2); omega, fun e2 => by have := lt0 k hk b (.inr e2); omega⟩
    · rw [if_neg ej] at e
      have := lt0 j hj b e
      by_cases ek : i = k
      · rw [if_pos ek]
        exact ⟨fun e2 => by have := yb b (.inl e2); omega, fun e2 => by have := yb b (.inr e2); omega⟩
      · rw [if_neg ek]; exact sep.all j k hj hk hne b e
end Go.Proofs.Ytfifiobcmdmefaa.Own

namespace Go.Proofs.Ytfifiobcmdmefaa.Own
open Go.RowKit
set_option linter.unusedVariables false

/-- The lists of votes fit their capacities. -/
def CapL (L : List VM) : Prop := ∀ i, i < L.length → (L.getD i v0).b.xs.length ≤ (L.getD i v0).c1 ∧ (L.getD i v0).b.ys.length ≤ (L.getD i v0).c2
theorem CapL.set {L : List VM} (h : CapL L) (j : Nat) {y : VM} (hy : y.b.xs.length ≤ y.c1 ∧ y.b.ys.length ≤ y.c2) (hj : j < L.length) : CapL (L.set j y) := fun i hi => by
  rw [List.length_set] at hi
  rw [getD_setV _ _ _ _ hj]
  by_cases e : j = i
  · rw [if_pos e]; exact hy
  · rw [if_neg e]; exact h i hi
theorem OwnL.cap {w : World} {B : Nat} {v : Value} {L : List VM} (h : OwnL w B v L) : CapL L := fun i hi => ⟨(h.one i hi).c1, (h.one i hi).c2⟩
end Go.Proofs.Ytfifiobcmdmefaa.Own

namespace Go.Proofs.Ytfifiobcmdmefaa.Own
open Go.RowKit
set_option linter.unusedVariables false
set_option linter.unusedSimpArgs false

theorem infoVoteC : (Try.prog.info? 42).map (fun i => (i.zero, i.size, i.bytes)) = some (some (.agg #[.int .i64 0, .bool false, .int .i64 0, .int .i64 0, .slice none 0 0, .slice none 0 0, .int .i64 0, .int .i64 0]), 8, 96) := by kernel_rfl
theorem bodies_snoc (us : List VM) (y : VM) : bodies (us ++ [y]) = bodies us ++ [y.body] := by simp [bodies]
theorem bodies_take (vs : List VM) (j : Nat) (hj : j < vs.length) : (bodies vs).take (j + 1) = (bodies vs).take j ++ [(vs.getD j v0).body] := by
  rw [List.take_succ_eq_append_getElem (by rw [bodies_len]; exact hj), ← bodies_getD]
  simp [List.getD, bodies_len, hj]

theorem eight_new (w : World) (y : VM) : ∀ j u, y.cells.toList[j]? = some u → (w.alloc (.cells y.cells 42)).cell? ((⟨w.heap.size, 0, none⟩ : Addr).add j) = some u := by
  intro j u hu
  have e : (⟨w.heap.size, 0, none⟩ : Addr).add j = ⟨w.heap.size, j, none⟩ := by unfold Addr.add; split <;> simp_all
  rw [e, (Blk.new w y.cells _).cell]
  simpa using hu
theorem cells_one (y : VM) : ∀ u ∈ y.cells.toList, u.oneCell' = true := by
  intro u hu
  simp [VM.cells] at hu
  rcases hu with rfl | rfl | rfl | rfl | rfl | rfl | rfl | rfl <;> rfl

set_option maxRecDepth 100000 in
set_option maxHeartbeats 2000000 in
theorem listCopied (a : Option Addr) (c : Nat) (vs : List VM) (w : World) (h : SlV w a vs) (hl : VLs vs) (hn : vs.length ≤ 2 ^ 30) :
    Calls Try.prog 63 #[.slice a vs.length c] w fun e w' => ∃ v us, e = .returned v ∧ OwnL w' w.heap.size v us ∧ bodies us = bodies vs ∧ Below w.heap.size w w' := by
  have H : Hid (SlV w a vs) := h
  have VLS : Hid (VLs vs) := hl
  clear h hl
  obtain ⟨i0, hi, hz0, hz1, hz2⟩ := info_parts infoVoteC
  have I0 : Hid (Try.prog.info? 42 = some i0 ∧ i0.zero = some (.agg #[.int .i64 0, .bool false, .int .i64 0, .int .i64 0, .slice none 0 0, .slice none 0 0, .int .i64 0, .int .i64 0]) ∧ i0.size = 8 ∧ i0.bytes = 96) := ⟨hi, hz0, hz1, hz2⟩
  clear hi hz0 hz1 hz2
  go_enter Try.func63, Try.ntmps63
  go_wp2_with fail
  go_loopw [3, 8] (fun o i wr => ∃ (j : Nat) (us : List VM), j ≤ vs.length ∧ i = .int .i64 j ∧ Hid (OwnL wr w.heap.size o us) ∧ Hid (bodies us = (bodies vs).take j) ∧ Hid (Below w.heap.size w wr)) (fun _ i _ => vs.length - (intOf i).toNat)
  case atStart => exact ⟨0, [], Nat.zero_le _, rfl, OwnL.nil _ _, by show _ = _; simp [bodies], Below.refl _ _⟩
  case round =>
    obtain ⟨j, us, hj, rfl, OL, BU, BW⟩ := hrel
    by_cases hlt : j < vs.length
    · have hji : (j : Int) < (vs.length : Int) := by omega
      obtain ⟨x, hx⟩ : ∃ x, x = vs.getD j v0 := ⟨_, rfl⟩
      rcases H.out with h0 | ⟨b, off, rfl, hat⟩
      · rw [h0] at hlt; simp at hlt
      obtain ⟨c8, s1, s2⟩ := (hat.below BW.out).2 j hlt
      have VX := VLS.out j hlt
      rw [← hx] at c8 s1 s2 VX
      obtain ⟨q0, q1, q2, q3, q4, q5, q6, q7⟩ := c8
      have S1 : Hid (Sl wr x.a1 x.b.xs) := s1
      have S2 : Hid (Sl wr x.a2 x.b.ys) := s2
      have HXB : Hid (x = vs.getD j v0) := hx
      clear hat s1 s2 hx
      go_upto_region 5 with fail
      obtain ⟨X, hX⟩ : ∃ X, X = wr.alloc (.cells #[.int .i64 x.bal, .bool x.b.n, .int .i64 x.b.p, .int .i64 x.b.q, .slice x.a1 x.b.xs.length x.c1, .slice x.a2 x.b.ys.length x.c2, .int .i64 x.b.v, .int .i64 x.b.k] 42) := ⟨_, rfl⟩
      rw [← hX]
      have GX : Hid (Blk X wr.heap.size x.cells 42) := by show Blk _ _ _ _; rw [hX]; exact Blk.new _ _ _
      have BX : Hid (Below wr.heap.size wr X) := by show Below _ _ _; rw [hX]; exact (Below.refl _ _).alloc (Nat.le_refl _) _
      clear hX q0 q1 q2 q3 q4 q5 q6 q7
      obtain ⟨q0, q1, q2, q3, q4, q5, q6, q7⟩ := Blk.cells8 GX.out
      go_wp2_with fail
      refine (voteCopied x X (S1.out.below BX.out) (S2.out.below BX.out) VX.1 VX.2.1).mono ?_
      rintro e w1 ⟨y, rfl, hyb, hy, hb1⟩
      have Y1 : Hid (OneOwn w1 X.heap.size y) := hy
      have YB : Hid (y.body = x.body) := hyb
      have B1 : Hid (Below X.heap.size X w1) := hb1
      have hul : us.length = j := by
        have := congrArg List.length BU.out
        rw [bodies_len, List.length_take, bodies_len] at this
        omega
      have OX := OL.out.keep BX.out
      have BWX : Hid (Below w.heap.size w X) := BW.out.trans (BX.out.mono BW.out.size)
      have BA : Hid (Below X.heap.size X (w1.alloc (.cells y.cells 42))) := B1.out.alloc B1.out.size _
      have YA : Hid (OneOwn (w1.alloc (.cells y.cells 42)) X.heap.size y) := Y1.out.blk (by rw [size_new]; omega) fun b hb => heap_old _ _ _ (by
        rcases hb with hb | hb
        · exact (Y1.out.b1 b hb).2
        · exact (Y1.out.b2 b hb).2)
      have OXH : Hid (OwnL X w.heap.size u3 us) := OX
      have s1 := BWX.out.size
      have s2 := B1.out.size
      clear hy hyb hb1 OX q0 q1 q2 q3 q4 q5 q6 q7
      simp only [VM.cells] at BA YA ⊢
      go_wp2_with (at_builtin; go_loud (refine wpList_append_lies _ rfl (.tmp 12) (.tmp 15) 89 rfl w.heap.size 42 i0 _ 8 96 Try.underlying89 I0.out.1 I0.out.2.1 I0.out.2.2.1 I0.out.2.2.2 rfl (by decide) u3 us.length (flat8 us) rfl (OXH.out.keep BA.out).row ⟨w1.heap.size, 0, none⟩ 1 1 y.cells.toList rfl rfl (eight_new w1 y) (cells_one y) (by decide) (by unfold maxLen; omega) (by omega) (by rw [size_new]; omega) (w1.heap.size + 1) (size_new _ _) ?_))
      intro g4 cap4 w4 hown4 hgr hloc hg4
      have OW4 : Hid (OwnL w4 w.heap.size (.slice (some ⟨g4, 0, none⟩) (j + 1) cap4) (us ++ [y])) := OXH.out.snoc BA.out YA.out s1 (by rw [hul]; exact hown4) hgr (fun g hg => by
        simp only [Value.ownBlock] at hg
        injection hg with hg
        rcases hloc with hloc | hloc
        · left; rw [hloc, hg]
        · right; rw [size_new]; omega)
      have B4 : Hid (Below w.heap.size w w4) := (BWX.out.trans (BA.out.mono s1)).grown hgr (by rw [size_new]; omega) (fun k hk => (by
        have := OXH.out.row
        obtain ⟨_, hr⟩ := this
        rcases hr with ⟨e, _⟩ | ⟨g, cap, cur, e, hg, _⟩
        · rw [e] at hk; cases hk
        · rw [e] at hk
          simp only [Value.ownBlock] at hk
          injection hk with hk
          omega))
      clear hown4 hgr hloc hg4
      go_wp2_with fail
      refine ⟨⟨j + 1, us ++ [y], by omega, by go_num, OW4.out, ?_, B4.out⟩, ?_⟩
      · show _ = _
        rw [bodies_snoc, bodies_take _ _ hlt, BU.out, YB.out, HXB.out]
      · simp only [intOf]; omega
    · have hji : ¬ (j : Int) < (vs.length : Int) := by omega
      obtain rfl : j = vs.length := by omega
      go_wp2_with fail
      go_ret
      exact ⟨_, rfl, us, OL.out, by rw [BU.out, List.take_of_length_le (by rw [bodies_len]; exact Nat.le_refl _)], BW.out⟩
end Go.Proofs.Ytfifiobcmdmefaa.Own

namespace Go.Proofs.Ytfifiobcmdmefaa.Own
open Go.RowKit
set_option linter.unusedVariables false
set_option linter.unusedSimpArgs false

theorem OwnL.form {w : World} {B : Nat} {v : Value} {vs : List VM} (h : OwnL w B v vs) : ∃ a cap, v = .slice a vs.length cap := by
  obtain ⟨_, hr⟩ := h.row
  rcases hr with ⟨hv, h0⟩ | ⟨g, cap, cur, hv, _⟩
  · exact ⟨none, 0, by rw [hv, h0]⟩
  · exact ⟨some ⟨g, 0, none⟩, cap, hv⟩
theorem OwnL.from {w : World} {B : Nat} {v : Value} {vs : List VM} (h : OwnL w B v vs) : ∀ k, v.ownBlock = some k → B ≤ k := by
  intro k hk
  obtain ⟨_, hr⟩ := h.row
  rcases hr with ⟨e, _⟩ | ⟨g, cap, cur, e, hg, _⟩
  · rw [e] at hk; cases hk
  · rw [e] at hk
    simp only [Value.ownBlock] at hk
    injection hk with hk
    omega
theorem one_v0 (w : World) (B : Nat) : OneOwn w B v0 :=
  ⟨.inl rfl, .inl rfl, Nat.le_refl _, Nat.le_refl _, fun b h => by simp [blk1, blkOf, v0, e0] at h, fun b h => by simp [blk2, blkOf, v0, e0] at h, fun b h => by simp [blk1, blkOf, v0, e0] at h⟩
/-- Votes, and behind them so many that are none. -/
def padV (us : List VM) (k : Nat) : List VM := us ++ List.replicate k v0
theorem padV_len (us : List VM) (k : Nat) : (padV us k).length = us.length + k := by simp [padV]
theorem padV_succ (us : List VM) (k : Nat) : padV us (k + 1) = padV us k ++ [v0] := by simp [padV, List.replicate_succ', List.append_assoc]

def lenN : Value → Nat
  | .slice _ n _ => n
  | _ => 0

set_option maxRecDepth 100000 in
set_option maxHeartbeats 2000000 in
theorem listGrown (v : Value) (us : List VM) (n : Nat) (w : World) (B : Nat) (h : OwnL w B v us) (hB : B ≤ w.heap.size) (hu : us.length ≤ 2 ^ 30) (hn : n ≤ 2 ^ 30) :
    Calls Try.prog 52 #[v, .int .i64 n] w fun e w' => ∃ v', e = .returned v' ∧ OwnL w' B v' (padV us (n - us.length)) ∧ Below B w w' := by
  obtain ⟨a0, cap0, rfl⟩ := h.form
  have H : Hid (OwnL w B (.slice a0 us.length cap0) us) := h
  clear h
  obtain ⟨i0, hi, hz0, hz1, hz2⟩ := info_parts infoVoteC
  have I0 : Hid (Try.prog.info? 42 = some i0 ∧ i0.zero = some (.agg #[.int .i64 0, .bool false, .int .i64 0, .int .i64 0, .slice none 0 0, .slice none 0 0, .int .i64 0, .int .i64 0]) ∧ i0.size = 8 ∧ i0.bytes = 96) := ⟨hi, hz0, hz1, hz2⟩
  clear hi hz0 hz1 hz2
  go_enter Try.func52, Try.ntmps52
  go_wp2_with fail
  go_loopw [0] (fun o wr => ∃ (k : Nat) (a : Option Addr) (cap : Nat), k ≤ n - us.length ∧ o = .slice a (us.length + k) cap ∧ Hid (OwnL wr B (.slice a (us.length + k) cap) (padV us k)) ∧ Hid (Below B w wr)) (fun o _ => n - lenN o)
  case atStart => exact ⟨0, a0, cap0, Nat.zero_le _, rfl, by show OwnL _ _ _ _; simpa [padV] using H.out, Below.refl _ _⟩
  case round =>
    obtain ⟨k, a, cap, hk, rfl, OL, BW⟩ := hrel
    by_cases hlt : us.length + k < n
    · have hji : ((us.length + k : Nat) : Int) < (n : Int) := by omega
      have s1 := BW.out.size
      have BA : Hid (Below wr.heap.size wr (wr.alloc (.cells v0.cells 42))) := (Below.refl _ _).alloc (Nat.le_refl _) _
      have PL := padV_len us k
      have OK : Hid (OwnL (wr.alloc (.cells v0.cells 42)) B (.slice a (us.length + k) cap) (padV us k)) := OL.out.keep BA.out
      have RW : Hid ((wr.alloc (.cells v0.cells 42)).ownsRow B 42 8 (.slice a (us.length + k) cap) (us.length + k) (flat8 (padV us k))) := by
        have := OK.out.row
        rw [PL] at this
        exact this
      have PLH : Hid ((padV us k).length = us.length + k) := PL
      clear PL
      go_wp2_with (at_builtin; go_loud (refine wpList_append_lies _ rfl (.tmp 9) (.tmp 11) 89 rfl B 42 i0 _ 8 96 Try.underlying89 I0.out.1 I0.out.2.1 I0.out.2.2.1 I0.out.2.2.2 rfl (by decide) (.slice a (us.length + k) cap) (us.length + k) (flat8 (padV us k)) rfl RW.out ⟨wr.heap.size, 0, none⟩ 1 1 v0.cells.toList rfl rfl (eight_new wr v0) (cells_one v0) (by decide) (by unfold maxLen; omega) (by omega) (by rw [size_new]; omega) (wr.heap.size + 1) (size_new _ _) ?_))
      intro g4 cap4 w4 hown4 hgr hloc hg4
      have OW4 : Hid (OwnL w4 B (.slice (some ⟨g4, 0, none⟩) (us.length + k + 1) cap4) (padV us (k + 1))) := by
        show OwnL _ _ _ _
        rw [padV_succ]
        exact OL.out.snoc BA.out (one_v0 _ _) (by omega) (by rw [PLH.out]; exact hown4) hgr (fun g hg => by
          simp only [Value.ownBlock] at hg
          injection hg with hg
          rcases hloc with hloc | hloc
          · left; rw [hloc, hg]
          · right; rw [size_new]; omega)
      have B4 : Hid (Below B w w4) := (BW.out.trans (BA.out.mono (by omega))).grown hgr (by rw [size_new]; omega) OL.out.from
      clear hown4 hgr hloc hg4
      go_wp2_with fail
      refine ⟨⟨k + 1, some ⟨g4, 0, none⟩, cap4, by omega, rfl, OW4.out, B4.out⟩, ?_⟩
      simp only [lenN]; omega
    · have hji : ¬ ((us.length + k : Nat) : Int) < (n : Int) := by omega
      have hk' : k = n - us.length := by omega
      go_wp2_with fail
      go_ret
      exact ⟨_, rfl, by rw [← hk']; exact OL.out, BW.out⟩
end Go.Proofs.Ytfifiobcmdmefaa.Own

namespace Go.Proofs.Ytfifiobcmdmefaa.Own
open Go.RowKit

def eq2 (p q : P2) : Bool := p.1 == q.1 && p.2 == q.2
theorem eq2_iff (p q : P2) : eq2 p q = true ↔ p = q := by
  obtain ⟨a, b⟩ := p
  obtain ⟨a', b'⟩ := q
  simp [eq2]
theorem eq2_false (p q : P2) : eq2 p q = false ↔ p ≠ q := by
  rw [← Bool.not_eq_true, eq2_iff]

/-- Two runs are one. -/
def sameRun (xs ys zs us : List P2) (v k v' k' : Int) : Bool := k == k' && v == v' && xs == zs && ys == us
end Go.Proofs.Ytfifiobcmdmefaa.Own

namespace Go.Proofs.Ytfifiobcmdmefaa.Own
open Go.RowKit
set_option linter.unusedVariables false

theorem eqRead1 (d : Nat) (a b a' b' : Int) (w : World) : (Op.equalIn (d+2) 140 (.agg #[.int .i64 a, .int .i64 b]) (.agg #[.int .i64 a', .int .i64 b'])).run Try.prog w = .ok (eq2 (a, b) (a', b')) w := by
  unfold eq2
  go_simp
  by_cases h : a = a'
  · by_cases h1 : b = b' <;> simp [h, h1]
  · simp [h]
theorem neqRead (a b a' b' : Int) (w : World) : (binOp .neq 140 (.agg #[.int .i64 a, .int .i64 b]) (.agg #[.int .i64 a', .int .i64 b'])).run Try.prog w = .ok (.bool (!(eq2 (a, b) (a', b')))) w := by
  rw [run_neq_struct, eqRead1 9998]; rfl

set_option maxRecDepth 100000 in
set_option maxHeartbeats 1000000 in
theorem equalRead (a1 a2 : Option Addr) (c1 c2 : Nat) (xs ys : List P2) (w : World) (h1 : Sl w a1 xs) (h2 : Sl w a2 ys) (l1 : xs.length ≤ 2 ^ 40) (l2 : ys.length ≤ 2 ^ 40) :
    Calls Try.prog 105 #[.slice a1 xs.length c1, .slice a2 ys.length c2] w fun e w' => e = .returned (.bool (xs == ys)) ∧ Below w.heap.size w w' := by
  have H1 : Hid (Sl w a1 xs) := h1
  have H2 : Hid (Sl w a2 ys) := h2
  clear h1 h2
  by_cases hl : xs.length = ys.length
  · have hl' : ((xs.length : Int) != (ys.length : Int)) = false := by simp [hl]
    have Hl : Hid (xs.length = ys.length) := hl
    clear hl
    go_enter Try.func105, Try.ntmps105
    go_wp2
    go_loopw [13] (fun i wr => ∃ k : Nat, k ≤ xs.length ∧ i = .int .i64 k ∧ Hid (xs.take k = ys.take k) ∧ Below w.heap.size w wr) (fun i _ => xs.length - (intOf i).toNat)
    case atStart => exact ⟨0, Nat.zero_le _, rfl, rfl, Below.refl _ _⟩
    case round =>
      obtain ⟨k, hk, rfl, hE, hB⟩ := hrel
      by_cases hlt : k < xs.length
      · have hlt2 : k < ys.length := by rw [← Hl.out]; exact hlt
        rcases H1.out with h | ⟨b1, o1, rfl, h1⟩
        · subst h; simp at hlt
        rcases H2.out with h | ⟨b2, o2, rfl, h2⟩
        · subst h; simp at hlt2
        have H1' : Hid (BoxAt w b1 o1 xs) := h1
        have H2' : Hid (BoxAt w b2 o2 ys) := h2
        clear h1 h2
        have HT : Hid ((xs.take (k + 1) = ys.take (k + 1)) ↔ (xs.getD k (0, 0) = ys.getD k (0, 0))) := by
          unfold Hid; rw [take_succ_eqG (0, 0) hlt hlt2]; exact ⟨fun h => h.2, fun h => ⟨hE, h⟩⟩
        obtain ⟨p, hp⟩ : ∃ p, p = xs.getD k (0, 0) := ⟨_, rfl⟩
        obtain ⟨q, hq⟩ : ∃ q, q = ys.getD k (0, 0) := ⟨_, rfl⟩
        obtain ⟨ca, cb⟩ := H1'.out.2 k hlt
        obtain ⟨da, db⟩ := H2'.out.2 k hlt2
        rw [← hB.cell H1'.out.1, ← hp] at ca cb
        rw [← hB.cell H2'.out.1, ← hq] at da db
        have HP : Hid (p = xs.getD k (0, 0)) := hp
        have HQ : Hid (q = ys.getD k (0, 0)) := hq
        clear hp hq
        obtain ⟨p1, p2⟩ := p
        obtain ⟨q1, q2⟩ := q
        have HB : Hid (Below w.heap.size w wr) := hB
        clear hB
        have hne := fun w => neqRead p1 p2 q1 q2 w
        by_cases hpq : eq2 (p1, p2) (q1, q2) = true
        · have N : Hid (xs.take (k + 1) = ys.take (k + 1)) := by
            show _ = _
            apply HT.out.2
            rw [← HP.out, ← HQ.out]
            exact (eq2_iff _ _).1 hpq
          rw [hpq] at hne
          go_wp2
          go_quiet (fail)
          go_wp2
          go_roundw
          case rel => exact ⟨k + 1, by omega, by go_num, N, below_drewN HB.out _⟩
          case measure => simp [intOf]; omega
        · have hpq' : eq2 (p1, p2) (q1, q2) = false := by simpa using hpq
          have F : Hid ((xs == ys) = false) := by
            show _ = _
            apply ne_of_getDG (k := k) (0, 0)
            rw [← HP.out, ← HQ.out]
            exact (eq2_false _ _).1 hpq'
          clear hpq
          rw [hpq'] at hne
          go_wp2
          go_quiet (fail)
          go_wp2
          go_ret
          exact ⟨ret_bool F.out.symm, below_drewN HB.out _⟩
      · go_wp2
        go_ret
        have : k = xs.length := by omega
        subst this
        refine ⟨ret_bool ?_, hB⟩
        have h := hE
        unfold Hid at h
        rw [List.take_length] at h
        have h3 := Hl.out
        rw [List.take_of_length_le (by omega)] at h
        simp [h]
  · have hl' : ((xs.length : Int) != (ys.length : Int)) = true := by simp; omega
    go_enter Try.func105, Try.ntmps105
    go_wp2
    go_ret
    refine ⟨ret_bool ?_, Below.refl _ _⟩
    symm
    simp
    intro h; exact hl (by rw [h])
end Go.Proofs.Ytfifiobcmdmefaa.Own

namespace Go.Proofs.Ytfifiobcmdmefaa.Own
open Go.RowKit
set_option linter.unusedVariables false

/-- Two entries are one. -/
def likeE (n n' : Bool) (p p' : P2) (xs ys zs us : List P2) (v k v' k' : Int) : Bool := n == n' && eq2 p p' && sameRun xs ys zs us v k v' k'
theorem likeE_none {n n' : Bool} (p p' : P2) (xs ys zs us : List P2) (v k v' k' : Int) (h : (n == n') = false) : likeE n n' p p' xs ys zs us v k v' k' = false := by simp [likeE, h]
theorem likeE_req {n n' : Bool} {p p' : P2} (xs ys zs us : List P2) (v k v' k' : Int) (h : eq2 p p' = false) : likeE n n' p p' xs ys zs us v k v' k' = false := by simp [likeE, h]
theorem likeE_run {n n' : Bool} {p p' : P2} (xs ys zs us : List P2) (v k v' k' : Int) (h : (n == n') = true) (h2 : eq2 p p' = true) : likeE n n' p p' xs ys zs us v k v' k' = sameRun xs ys zs us v k v' k' := by simp [likeE, h, h2]

theorem eqReq1 (d : Nat) (a b a' b' : Int) (w : World) : (Op.equalIn (d+2) 27 (.agg #[.int .i64 a, .int .i64 b]) (.agg #[.int .i64 a', .int .i64 b'])).run Try.prog w = .ok (eq2 (a, b) (a', b')) w := by
  unfold eq2
  go_simp
  by_cases h : a = a'
  · by_cases h1 : b = b' <;> simp [h, h1]
  · simp [h]
theorem eqlReq (a b a' b' : Int) (w : World) : (binOp .eql 27 (.agg #[.int .i64 a, .int .i64 b]) (.agg #[.int .i64 a', .int .i64 b'])).run Try.prog w = .ok (.bool (eq2 (a, b) (a', b'))) w := by
  rw [run_eql_struct, eqReq1 9998]; rfl
end Go.Proofs.Ytfifiobcmdmefaa.Own

namespace Go.Proofs.Ytfifiobcmdmefaa.Own
open Go.RowKit
set_option linter.unusedVariables false

theorem eqPut1 (d : Nat) (a b a' b' : Int) (w : World) : (Op.equalIn (d+2) 143 (.agg #[.int .i64 a, .int .i64 b]) (.agg #[.int .i64 a', .int .i64 b'])).run Try.prog w = .ok (eq2 (a, b) (a', b')) w := by
  unfold eq2
  go_simp
  by_cases h : a = a'
  · by_cases h1 : b = b' <;> simp [h, h1]
  · simp [h]
theorem neqPut (a b a' b' : Int) (w : World) : (binOp .neq 143 (.agg #[.int .i64 a, .int .i64 b]) (.agg #[.int .i64 a', .int .i64 b'])).run Try.prog w = .ok (.bool (!(eq2 (a, b) (a', b')))) w := by
  rw [run_neq_struct, eqPut1 9998]; rfl

set_option maxRecDepth 100000 in
set_option maxHeartbeats 1000000 in
theorem equalPut (a1 a2 : Option Addr) (c1 c2 : Nat) (xs ys : List P2) (w : World) (h1 : Sl w a1 xs) (h2 : Sl w a2 ys) (l1 : xs.length ≤ 2 ^ 40) (l2 : ys.length ≤ 2 ^ 40) :
    Calls Try.prog 106 #[.slice a1 xs.length c1, .slice a2 ys.length c2] w fun e w' => e = .returned (.bool (xs == ys)) ∧ Below w.heap.size w w' := by
  have H1 : Hid (Sl w a1 xs) := h1
  have H2 : Hid (Sl w a2 ys) := h2
  clear h1 h2
  by_cases hl : xs.length = ys.length
  · have hl' : ((xs.length : Int) != (ys.length : Int)) = false := by simp [hl]
    have Hl : Hid (xs.length = ys.length) := hl
    clear hl
    go_enter Try.func106, Try.ntmps106
    go_wp2
    go_loopw [13] (fun i wr => ∃ k : Nat, k ≤ xs.length ∧ i = .int .i64 k ∧ Hid (xs.take k = ys.take k) ∧ Below w.heap.size w wr) (fun i _ => xs.length - (intOf i).toNat)
    case atStart => exact ⟨0, Nat.zero_le _, rfl, rfl, Below.refl _ _⟩
    case round =>
      obtain ⟨k, hk, rfl, hE, hB⟩ := hrel
      by_cases hlt : k < xs.length
      · have hlt2 : k < ys.length := by rw [← Hl.out]; exact hlt
        rcases H1.out with h | ⟨b1, o1, rfl, h1⟩
        · subst h; simp at hlt
        rcases H2.out with h | ⟨b2, o2, rfl, h2⟩
        · subst h; simp at hlt2
        have H1' : Hid (BoxAt w b1 o1 xs) := h1
        have H2' : Hid (BoxAt w b2 o2 ys) := h2
        clear h1 h2
        have HT : Hid ((xs.take (k + 1) = ys.take (k + 1)) ↔ (xs.getD k (0, 0) = ys.getD k (0, 0))) := by
          unfold Hid; rw [take_succ_eqG (0, 0) hlt hlt2]; exact ⟨fun h => h.2, fun h => ⟨hE, h⟩⟩
        obtain ⟨p, hp⟩ : ∃ p, p = xs.getD k (0, 0) := ⟨_, rfl⟩
        obtain ⟨q, hq⟩ : ∃ q, q = ys.getD k (0, 0) := ⟨_, rfl⟩
        obtain ⟨ca, cb⟩ := H1'.out.2 k hlt
        obtain ⟨da, db⟩ := H2'.out.2 k hlt2
        rw [← hB.cell H1'.out.1, ← hp] at ca cb
        rw [← hB.cell H2'.out.1, ← hq] at da db
        have HP : Hid (p = xs.getD k (0, 0)) := hp
        have HQ : Hid (q = ys.getD k (0, 0)) := hq
        clear hp hq
        obtain ⟨p1, p2⟩ := p
        obtain ⟨q1, q2⟩ := q
        have HB : Hid (Below w.heap.size w wr) := hB
        clear hB
        have hne := fun w => neqPut p1 p2 q1 q2 w
        by_cases hpq : eq2 (p1, p2) (q1, q2) = true
        · have N : Hid (xs.take (k + 1) = ys.take (k + 1)) := by
            show _ = _
            apply HT.out.2
            rw [← HP.out, ← HQ.out]
            exact (eq2_iff _ _).1 hpq
          rw [hpq] at hne
          go_wp2
          go_quiet (fail)
          go_wp2
          go_roundw
          case rel => exact ⟨k + 1, by omega, by go_num, N, below_drewN HB.out _⟩
          case measure => simp [intOf]; omega
        · have hpq' : eq2 (p1, p2) (q1, q2) = false := by simpa using hpq
          have F : Hid ((xs == ys) = false) := by
            show _ = _
            apply ne_of_getDG (k := k) (0, 0)
            rw [← HP.out, ← HQ.out]
            exact (eq2_false _ _).1 hpq'
          clear hpq
          rw [hpq'] at hne
          go_wp2
          go_quiet (fail)
          go_wp2
          go_ret
          exact ⟨ret_bool F.out.symm, below_drewN HB.out _⟩
      · go_wp2
        go_ret
        have : k = xs.length := by omega
        subst this
        refine ⟨ret_bool ?_, hB⟩
        have h := hE
        unfold Hid at h
        rw [List.take_length] at h
        have h3 := Hl.out
        rw [List.take_of_length_le (by omega)] at h
        simp [h]
  · have hl' : ((xs.length : Int) != (ys.length : Int)) = true := by simp; omega
    go_enter Try.func106, Try.ntmps106
    go_wp2
    go_ret
    refine ⟨ret_bool ?_, Below.refl _ _⟩
    symm
    simp
    intro h; exact hl (by rw [h])
end Go.Proofs.Ytfifiobcmdmefaa.Own

namespace Go.Proofs.Ytfifiobcmdmefaa.Own
open Go.RowKit
set_option linter.unusedVariables false
set_option linter.unusedSimpArgs false

set_option maxRecDepth 100000 in
set_option maxHeartbeats 1000000 in
theorem implExecSame (a1 a2 b1 b2 : Option Addr) (c1 c2 d1 d2 : Nat) (xs ys zs us : List P2) (v k v' k' : Int) (w : World) (h1 : Sl w a1 xs) (h2 : Sl w a2 ys) (h3 : Sl w b1 zs) (h4 : Sl w b2 us)
    (n1 : xs.length ≤ 2 ^ 40) (n2 : ys.length ≤ 2 ^ 40) (n3 : zs.length ≤ 2 ^ 40) (n4 : us.length ≤ 2 ^ 40) :
    Calls Try.prog 61 #[.agg #[.slice a1 xs.length c1, .slice a2 ys.length c2, .int .i64 v, .int .i64 k], .agg #[.slice b1 zs.length d1, .slice b2 us.length d2, .int .i64 v', .int .i64 k']] w fun e w' => e = .returned (.bool (sameRun xs ys zs us v k v' k')) ∧ Below w.heap.size w w' := by
  have H1 : Hid (Sl w a1 xs) := h1
  have H2 : Hid (Sl w a2 ys) := h2
  have H3 : Hid (Sl w b1 zs) := h3
  have H4 : Hid (Sl w b2 us) := h4
  clear h1 h2 h3 h4
  have E : Hid (sameRun xs ys zs us v k v' k' = (k == k' && v == v' && xs == zs && ys == us)) := rfl
  obtain ⟨W, hW⟩ : ∃ W, W = (w.alloc (.cells #[.slice a1 xs.length c1, .slice a2 ys.length c2, .int .i64 v, .int .i64 k] 31)).alloc (.cells #[.slice b1 zs.length d1, .slice b2 us.length d2, .int .i64 v', .int .i64 k'] 31) := ⟨_, rfl⟩
  have hbW : Hid (Below w.heap.size w W) := by
    show Below _ _ _
    rw [hW]; exact ((Below.refl _ _).alloc (Nat.le_refl _) _).alloc (by simp) _
  have hsW : Hid (W.heap.size = w.heap.size + 2) := by show _ = _; rw [hW]; simp
  have g0 : Hid (W.heap[w.heap.size]? = some (.cells #[.slice a1 xs.length c1, .slice a2 ys.length c2, .int .i64 v, .int .i64 k] 31 (0, 0))) := by
    show _ = _
    rw [hW]; exact heap_new1 _ _ _
  have g1 : Hid (W.heap[w.heap.size + 1]? = some (.cells #[.slice b1 zs.length d1, .slice b2 us.length d2, .int .i64 v', .int .i64 k'] 31 (0, 0))) := by
    show _ = _
    rw [hW]; exact heap_new2 _ _ _
  have HW : Hid (W = _) := hW
  clear hW
  cases hk : (k == k') with
  | false =>
    go_enter Try.func61, Try.ntmps61
    go_wp2_with fail
    go_ret
    exact ⟨ret_bool (by rw [E.out, hk]; rfl), by rw [← HW.out]; exact hbW.out⟩
  | true =>
    cases hv : (v == v') with
    | false =>
      go_enter Try.func61, Try.ntmps61
      go_wp2_with fail
      go_ret
      exact ⟨ret_bool (by rw [E.out, hv]; simp), by rw [← HW.out]; exact hbW.out⟩
    | true =>
      have E2 : Hid (sameRun xs ys zs us v k v' k' = (xs == zs && ys == us)) := by show _ = _; rw [E.out, hk, hv]; rfl
      have C1 := equalRead a1 b1 c1 d1 xs zs W (H1.out.below hbW.out) (H3.out.below hbW.out) n1 n3
      generalize (xs == zs) = r at E2 C1
      have C1' : Hid (Calls Try.prog 105 #[.slice a1 xs.length c1, .slice b1 zs.length d1] W fun e w' => e = .returned (.bool r) ∧ Below W.heap.size W w') := C1
      clear C1
      go_enter Try.func61, Try.ntmps61
      go_wp2_with fail
      rw [← HW.out]
      refine C1'.out.mono ?_
      rintro e w1 ⟨rfl, b1'⟩
      have B1 : Hid (Below w.heap.size w w1) := hbW.out.trans (b1'.mono hbW.out.size)
      have q0 : w1.cell? ⟨w.heap.size, 1, none⟩ = some (.slice a2 ys.length c2) := by rw [b1'.cell (p := ⟨w.heap.size, 1, none⟩) (by show w.heap.size < _; have := hsW.out; omega), cell_heap g0.out]; rfl
      have q1 : w1.cell? ⟨w.heap.size + 1, 1, none⟩ = some (.slice b2 us.length d2) := by rw [b1'.cell (p := ⟨w.heap.size + 1, 1, none⟩) (by show w.heap.size + 1 < _; have := hsW.out; omega), cell_heap g1.out]; rfl
      clear b1'
      cases r with
      | false =>
        go_wp2_with fail
        go_ret
        exact ⟨ret_bool (by rw [E2.out]; rfl), B1.out⟩
      | true =>
        go_wp2_with fail
        refine (equalPut a2 b2 c2 d2 ys us w1 (H2.out.below B1.out) (H4.out.below B1.out) n2 n4).mono ?_
        rintro e w2 ⟨rfl, b2'⟩
        have B2 : Hid (Below w.heap.size w w2) := B1.out.trans (b2'.mono B1.out.size)
        clear b2'
        generalize (ys == us) = r2 at E2
        go_wp2_with fail
        go_ret
        exact ⟨ret_bool (by rw [E2.out]; rfl), B2.out⟩
end Go.Proofs.Ytfifiobcmdmefaa.Own

namespace Go.Proofs.Ytfifiobcmdmefaa.Own
open Go.RowKit
set_option linter.unusedVariables false
set_option linter.unusedSimpArgs false

set_option maxRecDepth 100000 in
set_option maxHeartbeats 1000000 in
theorem implCertLike (n n' : Bool) (p q p' q' : Int) (a1 a2 b1 b2 : Option Addr) (c1 c2 d1 d2 : Nat) (xs ys zs us : List P2) (v k v' k' : Int) (w : World) (h1 : Sl w a1 xs) (h2 : Sl w a2 ys) (h3 : Sl w b1 zs) (h4 : Sl w b2 us)
    (n1 : xs.length ≤ 2 ^ 40) (n2 : ys.length ≤ 2 ^ 40) (n3 : zs.length ≤ 2 ^ 40) (n4 : us.length ≤ 2 ^ 40) :
    Calls Try.prog 18 #[.agg #[.bool n, .int .i64 p, .int .i64 q, .slice a1 xs.length c1, .slice a2 ys.length c2, .int .i64 v, .int .i64 k], .agg #[.bool n', .int .i64 p', .int .i64 q', .slice b1 zs.length d1, .slice b2 us.length d2, .int .i64 v', .int .i64 k']] w fun e w' => e = .returned (.bool (likeE n n' (p, q) (p', q') xs ys zs us v k v' k')) ∧ Below w.heap.size w w' := by
  have H1 : Hid (Sl w a1 xs) := h1
  have H2 : Hid (Sl w a2 ys) := h2
  have H3 : Hid (Sl w b1 zs) := h3
  have H4 : Hid (Sl w b2 us) := h4
  clear h1 h2 h3 h4
  obtain ⟨W, hW⟩ : ∃ W, W = (w.alloc (.cells #[.bool n, .int .i64 p, .int .i64 q, .slice a1 xs.length c1, .slice a2 ys.length c2, .int .i64 v, .int .i64 k] 33)).alloc (.cells #[.bool n', .int .i64 p', .int .i64 q', .slice b1 zs.length d1, .slice b2 us.length d2, .int .i64 v', .int .i64 k'] 33) := ⟨_, rfl⟩
  have BW : Hid (Below w.heap.size w W) := by
    show Below _ _ _
    rw [hW]; exact ((Below.refl _ _).alloc (Nat.le_refl _) _).alloc (by simp) _
  have HW : Hid (W = _) := hW
  clear hW
  have hq := fun w => eqlReq p q p' q' w
  cases hn : (n == n') with
  | false =>
    have F : Hid (likeE n n' (p, q) (p', q') xs ys zs us v k v' k' = false) := likeE_none _ _ _ _ _ _ _ _ _ _ hn
    go_enter Try.func18, Try.ntmps18
    go_wp2_with fail
    go_ret
    exact ⟨ret_bool F.out.symm, by rw [← HW.out]; exact BW.out⟩
  | true =>
    cases he : eq2 (p, q) (p', q') with
    | false =>
      have F : Hid (likeE n n' (p, q) (p', q') xs ys zs us v k v' k' = false) := likeE_req _ _ _ _ _ _ _ _ he
      rw [he] at hq
      go_enter Try.func18, Try.ntmps18
      go_wp2_with fail
      go_ret
      exact ⟨ret_bool F.out.symm, by rw [← HW.out]; exact BW.out⟩
    | true =>
      have F : Hid (likeE n n' (p, q) (p', q') xs ys zs us v k v' k' = sameRun xs ys zs us v k v' k') := likeE_run _ _ _ _ _ _ _ _ hn he
      rw [he] at hq
      go_enter Try.func18, Try.ntmps18
      go_wp2_with fail
      rw [← HW.out]
      refine (implExecSame a1 a2 b1 b2 c1 c2 d1 d2 xs ys zs us v k v' k' W (H1.out.below BW.out) (H2.out.below BW.out) (H3.out.below BW.out) (H4.out.below BW.out) n1 n2 n3 n4).mono ?_
      rintro e w1 ⟨rfl, b1'⟩
      have B1 : Hid (Below w.heap.size w w1) := BW.out.trans (b1'.mono BW.out.size)
      clear b1'
      generalize sameRun xs ys zs us v k v' k' = r at F
      go_wp2_with fail
      go_ret
      exact ⟨ret_bool F.out.symm, B1.out⟩
end Go.Proofs.Ytfifiobcmdmefaa.Own
