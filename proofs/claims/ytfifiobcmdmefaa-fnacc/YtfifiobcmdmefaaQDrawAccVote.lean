/-
  Own text, by program (gen_drawvote.py): what spec.DrawAccVote draws: an acceptor, a ballot, a place, an entry.
-/
import Derived.Test.YtfifiobcmdmefaaPk12
import Derived.Deep.RegionHeld
namespace Go.Proofs.Ytfifiobcmdmefaa.Own
open Go.RowKit
set_option linter.unusedVariables false
set_option linter.unusedSimpArgs false

theorem OneOwn.setLow {w : World} {B : Nat} {y : VM} (h : OneOwn w B y) {p : Addr} (hp : p.block < B) (x : Value) : OneOwn (w.setCell p x) B y :=
  h.blk (by simp [World.setCell]) fun b e => Below.heap_setCell _ _ _ _ (by
    rcases e with e | e
    · have := (h.b1 b e).1; omega
    · have := (h.b2 b e).1; omega)
theorem OneOwn.keepB {w w' : World} {B : Nat} {y : VM} (h : OneOwn w B y) (hb : Below w.heap.size w w') : OneOwn w' B y :=
  h.blk hb.size fun b e => hb.block b (by
    rcases e with e | e
    · exact (h.b1 b e).2
    · exact (h.b2 b e).2)
theorem wrap_near (n : Int) (h0 : -1000000 ≤ n) (h1 : n ≤ 1000000) : IntKind.i64.wrap n = n := by
  by_cases hn : 0 ≤ n
  · have hm : n % 18446744073709551616 = n := by omega
    simp [IntKind.wrap, IntKind.bits, IntKind.signed, hm]; omega
  · have hm : n % 18446744073709551616 = n + 18446744073709551616 := by omega
    simp [IntKind.wrap, IntKind.bits, IntKind.signed, hm]; omega
/-- An acceptor that was drawn, while more is drawn. -/
structure VD (w : World) (m : Int) (la : Option Addr) (lc : Nat) (us : List VM) (tb p : Nat) (wx : World) : Prop where
  z : Blk wx w.heap.size #[.int .i64 0, .slice none 0 0] 25
  e : Blk wx (w.heap.size + 1) #[.bool false, .int .i64 0, .int .i64 0, .slice none 0 0, .slice none 0 0, .int .i64 0, .int .i64 0] 33
  rd : Rd wx (w.heap.size + 2) (w.heap.size + 3) p
  own : OwnL wx (w.heap.size + 3) (.slice la us.length lc) us
  t : Blk wx tb #[.int .i64 m, .slice la us.length lc] 25
  tlo : w.heap.size + 3 ≤ tb
  bel : Below w.heap.size w wx
theorem VD.step {w wx wy : World} {m : Int} {la : Option Addr} {lc tb p p' : Nat} {us : List VM} (h : VD w m la lc us tb p wx) (hb : Bar (w.heap.size + 2) wx wy) (hr : Rd wy (w.heap.size + 2) (w.heap.size + 3) p') : VD w m la lc us tb p' wy :=
  ⟨h.z.bar1 hb (by omega), h.e.bar1 hb (by omega), hr, h.own.bar2 hb (by omega), h.t.bar1 hb (by have := h.tlo; omega), h.tlo, h.bel.trans (hb.below (by omega) h.bel.size)⟩
theorem VD.keep {w wx wy : World} {m : Int} {la : Option Addr} {lc tb p : Nat} {us : List VM} (h : VD w m la lc us tb p wx) (hb : Below wx.heap.size wx wy) : VD w m la lc us tb p wy :=
  h.step (Bar.ofBelow hb) (h.rd.below hb)
/-- An acceptor, a ballot, a place and an entry. -/
def AccVoteD (w : World) (e : Ending) (w' : World) : Prop := ∃ m la lc us bal slot n p q a1 d1 xs a2 d2 ys v k, e = .returned (.tuple #[.agg #[.int .i64 m, .slice la (List.length (α := VM) us) lc], .int .i64 bal, .int .i64 slot, .agg #[.bool n, .int .i64 p, .int .i64 q, .slice a1 (List.length (α := P2) xs) d1, .slice a2 (List.length (α := P2) ys) d2, .int .i64 v, .int .i64 k]]) ∧
  LV w' w.heap.size w'.heap.size (.slice la us.length lc) us ∧ OneOwn w' w.heap.size ⟨0, ⟨n, p, q, xs, ys, v, k⟩, a1, d1, a2, d2⟩ ∧ xs.length ≤ 4 ∧ ys.length ≤ 4 ∧ -1 ≤ m ∧ m ≤ 3001 ∧ -2 ≤ bal ∧ bal ≤ 3003 ∧ -1 ≤ slot ∧ slot ≤ 40 ∧ Below w.heap.size w w'

set_option maxRecDepth 100000 in
set_option maxHeartbeats 4000000 in
theorem drawAccVote (a : Option Addr) (n c : Nat) (w : World) (h : Bytes w w.heap.size a n) (hc : n ≤ c) (hm : c ≤ maxLen) :
    Calls Try.prog 10 #[.slice a n c] w fun e w' => AccVoteD w e w' := by
  have HB : Hid (Bytes w w.heap.size a n) := h
  have HM : Hid (c ≤ maxLen) := hm
  clear h hm
  obtain ⟨W, hW⟩ : ∃ W, W = (w.alloc (.cells #[.int .i64 0, .slice none 0 0] 25)).alloc (.cells #[.bool false, .int .i64 0, .int .i64 0, .slice none 0 0, .slice none 0 0, .int .i64 0, .int .i64 0] 33) := ⟨_, rfl⟩
  have EW : Hid (W = (w.alloc (.cells #[.int .i64 0, .slice none 0 0] 25)).alloc (.cells #[.bool false, .int .i64 0, .int .i64 0, .slice none 0 0, .slice none 0 0, .int .i64 0, .int .i64 0] 33)) := hW
  have ZW : Hid (W.heap.size = w.heap.size + 2) := by show _ = _; rw [hW, size_new, size_new]
  have KW : Hid (Below w.heap.size w W) := by show Below _ _ _; rw [hW]; exact ((Below.refl _ _).alloc (Nat.le_refl _) _).alloc (by simp) _
  have CW : Hid (Blk W w.heap.size #[.int .i64 0, .slice none 0 0] 25) := by show Blk _ _ _ _; rw [hW]; exact (Blk.new _ _ _).alloc _
  have XW : Hid (Blk W (w.heap.size + 1) #[.bool false, .int .i64 0, .int .i64 0, .slice none 0 0, .slice none 0 0, .int .i64 0, .int .i64 0] 33) := by show Blk _ _ _ _; rw [hW]; exact Blk.new2 _ _ _ _
  clear hW
  go_enter Try.func10, Try.ntmps10
  go_upto_region 1 with fail
  rw [← EW.out]
  clear EW
  go_wp2_with fail
  refine (l15Open a n c W (HB.out.belowA KW.out) hc HM.out).mono ?_
  rintro e w1 ⟨rfl, hR, hb⟩
  rw [ZW.out] at hR ⊢
  have D1 : Hid (Rd w1 (w.heap.size + 2) (w.heap.size + 3) 0) := hR
  have S1 : Hid (w.heap.size + 3 ≤ w1.heap.size) := hR.2.1
  have C1 : Hid (Blk w1 w.heap.size #[.int .i64 0, .slice none 0 0] 25) := CW.out.keep hb
  have X1 : Hid (Blk w1 (w.heap.size + 1) #[.bool false, .int .i64 0, .int .i64 0, .slice none 0 0, .slice none 0 0, .int .i64 0, .int .i64 0] 33) := XW.out.keep hb
  have B1 : Hid (Below w.heap.size w w1) := KW.out.trans (hb.mono KW.out.size)
  clear hR hb CW XW KW
  go_wp2_with fail
  refine (l6Acc (w.heap.size + 2) (w.heap.size + 3) 0 w1 D1.out (by omega)).mono ?_
  rintro e w2 ⟨m, la, lc, us, rfl, ho, lu, su, m0, m1, ⟨p', hp, hr⟩, hbar⟩
  obtain ⟨V2, hV2⟩ : ∃ V, V = w2.alloc (.cells #[.int .i64 m, .slice la us.length lc] 25) := ⟨_, rfl⟩
  have E2 : Hid (V2 = w2.alloc (.cells #[.int .i64 m, .slice la us.length lc] 25)) := hV2
  obtain ⟨tb, htb⟩ : ∃ tb, tb = w2.heap.size := ⟨_, rfl⟩
  have HTB : Hid (w2.heap.size = tb) := htb.symm
  have A2 : Hid (VD w m la lc us tb p' V2) := by
    have k : Below w2.heap.size w2 V2 := by rw [hV2]; exact below_new _ _
    have b2 := hbar.trans (Bar.ofBelow k)
    exact ⟨C1.out.bar1 b2 (by omega), X1.out.bar1 b2 (by omega), hr.below k, (ho.keep k).low S1.out, by rw [hV2, htb]; exact Blk.new _ _ _, by rw [htb]; have := S1.out; have := hbar.size; omega, B1.out.trans (b2.below (by omega) B1.out.size)⟩
  have F2 : Hid (us.length ≤ 5 ∧ Short 4 (bodies us)) := ⟨lu, su⟩
  clear hV2 htb ho lu su hr hbar C1 X1 B1 D1
  go_upto_region 3 with fail
  rw [← E2.out, HTB.out]
  clear E2 HTB
  obtain ⟨t0, t1⟩ := A2.out.t.cells2
  go_cut [8] from 14 to 19 (fun x wx => ∃ bal, x = .int .i64 bal ∧ -2 ≤ bal ∧ bal ≤ 3003 ∧ Hid (VD w m la lc us tb (p' + 1) wx))
  case first =>
    refine wp_region_held_drew (S := (fun w' : World => w'.cell? ⟨tb, 0, none⟩ = some (.int .i64 m))) (by kernel_rfl) t0 (fun hHeld => ?_)
    obtain ⟨V, hV⟩ : ∃ V, V = V2.drew := ⟨_, rfl⟩
    have AV : Hid (VD w m la lc us tb p' V) := A2.out.keep (by rw [hV]; exact (Below.refl _ _).drew)
    rw [← hV] at hHeld ⊢
    clear hV
    refine wpAnyH_take (i := 0) (v := ?vd1) rfl (by kernel_rfl) (by kernel_rfl) (by kernel_rfl) (fun _ _ _ h => h) (Or.inl ⟨by rfl, ?yd1⟩) (by assumption) ?rd1
    case yd1 =>
      intro w' hSw
      try dsimp only at hSw
      go_simp
      try with_reducible rfl
    simp only [Act.put, List.getElem_toArray, List.getElem_cons_succ, List.getElem_cons_zero, List.setIfInBounds_toArray, List.set_cons_zero, List.set_cons_succ]
    refine wpAnyH_take (i := 1) (v := ?vd2) rfl (by kernel_rfl) (by kernel_rfl) (by kernel_rfl) (fun _ _ _ h => h) (Or.inl ⟨by rfl, ?yd2⟩) (by assumption) ?rd2
    case yd2 =>
      intro w' hSw
      try dsimp only at hSw
      go_simp
      try with_reducible rfl
    simp only [Act.put, List.getElem_toArray, List.getElem_cons_succ, List.getElem_cons_zero, List.setIfInBounds_toArray, List.set_cons_zero, List.set_cons_succ]
    refine wpAnyH_take (i := 2) (v := ?vd3) rfl (by kernel_rfl) (by kernel_rfl) (by kernel_rfl) (fun _ _ _ h => h) (Or.inl ⟨by rfl, ?yd3⟩) (by assumption) ?rd3
    case yd3 =>
      intro w' hSw
      try dsimp only at hSw
      go_simp
      try with_reducible rfl
    simp only [Act.put, List.getElem_toArray, List.getElem_cons_succ, List.getElem_cons_zero, List.setIfInBounds_toArray, List.set_cons_zero, List.set_cons_succ]
    refine wpAnyH_ready (rs := [3]) (by kernel_rfl) (by simp) ?_
    refine AllReadyH.cons rfl (fun K hK => ?_) AllReadyH.nil
    go_simp
    refine Calls.mono (pick (w.heap.size + 2) (w.heap.size + 3) p' 4 V AV.out.rd (by omega) (by omega) (by omega)) ?_
    rintro e v3 ⟨⟨r, rfl, r0, r1⟩, hR, hO⟩
    have A3 : Hid (VD w m la lc us tb (p' + 1) v3) := AV.out.step (Bar.ofOnly hO) hR
    refine hK.out _ _ (A3.out.t.cells2.1) (fun hH => ?_)
    clear hK K hR hO AV
    refine wpAnyH_take (i := 4) (v := ?vd4) rfl (by kernel_rfl) (by kernel_rfl) (by kernel_rfl) (fun _ _ _ h => h) (Or.inl ⟨by rfl, ?yd4⟩) (by assumption) ?rd4
    case yd4 =>
      intro w' hSw
      try dsimp only at hSw
      go_simp
      try with_reducible rfl
    simp only [Act.put, List.getElem_toArray, List.getElem_cons_succ, List.getElem_cons_zero, List.setIfInBounds_toArray, List.set_cons_zero, List.set_cons_succ]
    refine wpAnyH_take (i := 5) (v := ?vd5) rfl (by kernel_rfl) (by kernel_rfl) (by kernel_rfl) (fun _ _ _ h => h) (Or.inl ⟨by rfl, ?yd5⟩) (by assumption) ?rd5
    case yd5 =>
      intro w' hSw
      try dsimp only at hSw
      go_simp
      try with_reducible rfl
    simp only [Act.put, List.getElem_toArray, List.getElem_cons_succ, List.getElem_cons_zero, List.setIfInBounds_toArray, List.set_cons_zero, List.set_cons_succ]
    refine wpAnyH_take (i := 6) (v := ?vd6) rfl (by kernel_rfl) (by kernel_rfl) (by kernel_rfl) (fun _ _ _ h => h) (Or.inl ⟨by rfl, ?yd6⟩) (by assumption) ?rd6
    case yd6 =>
      intro w' hSw
      try dsimp only at hSw
      go_simp
      try with_reducible rfl
    simp only [Act.put, List.getElem_toArray, List.getElem_cons_succ, List.getElem_cons_zero, List.setIfInBounds_toArray, List.set_cons_zero, List.set_cons_succ]
    refine wpAnyH_done (by kernel_rfl) ?_ _
    go_wp2_with fail
    go_meet
    exact ⟨m + r - 1, by rw [wrap_near (m + r) (by omega) (by omega), wrap_near (m + r - 1) (by omega) (by omega)], by omega, by omega, A3.out⟩
  case rest =>
    obtain ⟨bal, rfl, bl1, bl2, A3⟩ := hcut
    rename World => v3
    have HBL : Hid (-2 ≤ bal ∧ bal ≤ 3003) := ⟨bl1, bl2⟩
    clear t0 t1 A2 bl1 bl2
    go_wp2_with fail
    have S3 : Hid (w.heap.size + 3 ≤ v3.heap.size) := A3.out.rd.2.1
    refine (num (w.heap.size + 2) (w.heap.size + 3) (p' + 1) v3.heap.size 8 8 [0, 1, 2, 3, 5, -1, 40, 39] _ (A3.out.rd.alloc _) (by omega) (nums_newO _ _ _ _ rfl) rfl (by omega) (by omega) (by have := S3.out; omega)).mono ?_
    rintro e v4 ⟨⟨slot, rfl, hz⟩, hR4, hO4⟩
    have A4 : Hid (VD w m la lc us tb (p' + 2) v4) := (A3.out.keep (below_new _ _)).step (Bar.ofOnly hO4) hR4
    have HSL : Hid (-1 ≤ slot ∧ slot ≤ 40) := by show _ ∧ _; simp at hz; omega
    clear hz hR4 hO4 A3 S3
    obtain ⟨t0, t1⟩ := A4.out.t.cells2
    go_upto_region 5 with fail
    refine wp_region_held_drew (S := (fun w' : World => w'.cell? ⟨tb, 0, none⟩ = some (.int .i64 m) ∧ w'.cell? ⟨tb, 1, none⟩ = some (.slice la us.length lc))) (by kernel_rfl) ⟨t0, t1⟩ (fun hHeld => ?_)
    obtain ⟨V, hV⟩ : ∃ V, V = v4.drew := ⟨_, rfl⟩
    have AV : Hid (VD w m la lc us tb (p' + 2) V) := A4.out.keep (by rw [hV]; exact (Below.refl _ _).drew)
    rw [← hV] at hHeld ⊢
    clear hV t0 t1 A4
    refine wpAnyH_take (i := 0) (v := ?vd7) rfl (by kernel_rfl) (by kernel_rfl) (by kernel_rfl) (fun _ _ _ h => h) (Or.inl ⟨by rfl, ?yd7⟩) (by assumption) ?rd7
    case yd7 =>
      intro w' hSw
      try dsimp only at hSw
      go_simp
      try with_reducible rfl
    simp only [Act.put, List.getElem_toArray, List.getElem_cons_succ, List.getElem_cons_zero, List.setIfInBounds_toArray, List.set_cons_zero, List.set_cons_succ]
    refine wpAnyH_take (i := 1) (v := ?vd8) rfl (by kernel_rfl) (by kernel_rfl) (by kernel_rfl) (fun _ _ _ h => h) (Or.inl ⟨by rfl, ?yd8⟩) (by assumption) ?rd8
    case yd8 =>
      intro w' hSw
      try dsimp only at hSw
      go_simp
      try with_reducible rfl
    simp only [Act.put, List.getElem_toArray, List.getElem_cons_succ, List.getElem_cons_zero, List.setIfInBounds_toArray, List.set_cons_zero, List.set_cons_succ]
    refine wpAnyH_take (i := 2) (v := ?vd9) rfl (by kernel_rfl) (by kernel_rfl) (by kernel_rfl) (fun _ _ _ h => h) (Or.inl ⟨by rfl, ?yd9⟩) (by assumption) ?rd9
    case yd9 =>
      intro w' hSw
      try dsimp only at hSw
      go_simp
      try with_reducible rfl
    simp only [Act.put, List.getElem_toArray, List.getElem_cons_succ, List.getElem_cons_zero, List.setIfInBounds_toArray, List.set_cons_zero, List.set_cons_succ]
    refine wpAnyH_take (i := 3) (v := ?vd10) rfl (by kernel_rfl) (by kernel_rfl) (by kernel_rfl) (fun _ _ _ h => h) (Or.inl ⟨by rfl, ?yd10⟩) (by assumption) ?rd10
    case yd10 =>
      intro w' hSw
      try dsimp only at hSw
      go_simp
      try with_reducible rfl
    simp only [Act.put, List.getElem_toArray, List.getElem_cons_succ, List.getElem_cons_zero, List.setIfInBounds_toArray, List.set_cons_zero, List.set_cons_succ]
    refine wpAnyH_ready (rs := [4]) (by kernel_rfl) (by simp) ?_
    refine AllReadyH.cons rfl (fun K hK => ?_) AllReadyH.nil
    go_simp
    refine Calls.mono (specOpen V) ?_
    rintro e v5 ⟨rfl, hw⟩
    have A5 : Hid (VD w m la lc us tb (p' + 2) v5) := AV.out.keep (by rw [hw]; exact below_new _ _)
    have X5 : Hid (Sl v5 (some ⟨V.heap.size, 0, none⟩) zero4) := .inr ⟨_, 0, rfl, zeros_at (by rw [hw]; exact heap_new _ _)⟩
    have S5 : Hid (w.heap.size + 3 ≤ V.heap.size) := AV.out.rd.2.1
    refine hK.out _ _ A5.out.t.cells2 (fun hH => ?_)
    clear hK K hw AV hHeld
    refine wpAnyH_ready (rs := [5]) (by kernel_rfl) (by simp) ?_
    refine AllReadyH.cons rfl (fun K hK => ?_) AllReadyH.nil
    go_simp
    refine Calls.mono (l5AnyX (w.heap.size + 2) (w.heap.size + 3) (p' + 2) (some ⟨V.heap.size, 0, none⟩) 4 zero4 v5 A5.out.rd (by omega) X5.out (fun x hx _ => by injection hx with hx; rw [← hx]; have := S5.out; simp only; omega) (by decide)) ?_
    rintro e v6 ⟨bn, ep, eq, a1, d1, xs, a2, d2, ys, ev, ek, rfl, hy, ⟨ly1, ly2⟩, ⟨p6, _, hR6⟩, hB6⟩
    have A6 : Hid (VD w m la lc us tb p6 v6) := A5.out.step hB6 hR6
    have O6 : Hid (OneOwn v6 (w.heap.size + 3) ⟨0, ⟨bn, ep, eq, xs, ys, ev, ek⟩, a1, d1, a2, d2⟩) := hy.weaken (by have := A5.out.rd.2.1; omega)
    have LY : Hid (xs.length ≤ 4 ∧ ys.length ≤ 4) := ⟨ly1, ly2⟩
    refine hK.out _ _ A6.out.t.cells2 (fun hH2 => ?_)
    clear hK K hy ly1 ly2 hR6 hB6 A5 X5 S5 hH
    obtain ⟨z0, z1⟩ := A6.out.z.cells2
    have zf := A6.out.z.frozen
    obtain ⟨e0, e1, e2, e3, e4, e5, e6⟩ := A6.out.e.cells7
    have ef := A6.out.e.frozen
    have HTL : Hid (w.heap.size + 3 ≤ tb) := A6.out.tlo
    have TS : Hid (∀ u v : Value, ((v6.setCell ⟨w.heap.size, 0, none⟩ u).setCell ⟨w.heap.size, 1, none⟩ v).cell? ⟨tb, 0, none⟩ = some (.int .i64 m) ∧ ((v6.setCell ⟨w.heap.size, 0, none⟩ u).setCell ⟨w.heap.size, 1, none⟩ v).cell? ⟨tb, 1, none⟩ = some (.slice la us.length lc)) := fun u v => by
      have o : Only w.heap.size v6 ((v6.setCell ⟨w.heap.size, 0, none⟩ u).setCell ⟨w.heap.size, 1, none⟩ v) := ((Only.refl _ _).setCell _).setCell _
      exact (A6.out.t.only1 o (by have := HTL.out; omega)).cells2
    refine wpAnyH_ready (rs := [6]) (by kernel_rfl) (by simp) ?_
    refine AllReadyH.cons rfl (fun K hK => ?_) AllReadyH.nil
    go_simp
    refine hK.out _ _ (TS.out _ _) (fun hH3 => ?_)
    clear hK K
    obtain ⟨v7, hv7⟩ : ∃ v7, v7 = (v6.setCell ⟨w.heap.size, 0, none⟩ (.int .i64 m)).setCell ⟨w.heap.size, 1, none⟩ (.slice la us.length lc) := ⟨_, rfl⟩
    have o7 : Only w.heap.size v6 v7 := by rw [hv7]; exact ((Only.refl _ _).setCell _).setCell _
    have Z7 : Hid (Blk v7 w.heap.size #[.int .i64 m, .slice la us.length lc] 25) := by show Blk _ _ _ _; rw [hv7]; exact ((A6.out.z.set 0 _).set 1 _).eq (by simp)
    have E7 : Hid (Blk v7 (w.heap.size + 1) #[.bool false, .int .i64 0, .int .i64 0, .slice none 0 0, .slice none 0 0, .int .i64 0, .int .i64 0] 33) := A6.out.e.only1 o7 (by omega)
    have T7 : Hid (Blk v7 tb #[.int .i64 m, .slice la us.length lc] 25) := A6.out.t.only1 o7 (by have := HTL.out; omega)
    have L7 : Hid (LV v7 (w.heap.size + 3) v7.heap.size (.slice la us.length lc) us) := by
      show LV _ _ _ _ _
      rw [hv7, show ((v6.setCell ⟨w.heap.size, 0, none⟩ (.int .i64 m)).setCell ⟨w.heap.size, 1, none⟩ (.slice la us.length lc)).heap.size = v6.heap.size by simp [World.setCell]]
      exact ((A6.out.own.lv (Nat.le_refl _) F2.out.2 (by have := F2.out.1; omega)).setLow (p := ⟨w.heap.size, 0, none⟩) (by simp only; omega) _).setLow (p := ⟨w.heap.size, 1, none⟩) (by simp only; omega) _
    have O7 : Hid (OneOwn v7 (w.heap.size + 3) ⟨0, ⟨bn, ep, eq, xs, ys, ev, ek⟩, a1, d1, a2, d2⟩) := by
      show OneOwn _ _ _
      rw [hv7]
      exact (O6.out.setLow (p := ⟨w.heap.size, 0, none⟩) (by simp only; omega) _).setLow (p := ⟨w.heap.size, 1, none⟩) (by simp only; omega) _
    have K7 : Hid (Below w.heap.size w v7) := by show Below _ _ _; rw [hv7]; exact (A6.out.bel.setCell (Nat.le_refl _) _).setCell (Nat.le_refl _) _
    rw [← hv7] at hH3 ⊢
    clear hv7 o7 z0 z1 zf e0 e1 e2 e3 e4 e5 e6 ef A6 O6 TS hH2
    refine wpAnyH_take (i := 7) (v := ?vd11) rfl (by kernel_rfl) (by kernel_rfl) (by kernel_rfl) (fun _ _ _ h => h) (Or.inl ⟨by rfl, ?yd11⟩) (by assumption) ?rd11
    case yd11 =>
      intro w' hSw
      try dsimp only at hSw
      go_simp
      try with_reducible rfl
    simp only [Act.put, List.getElem_toArray, List.getElem_cons_succ, List.getElem_cons_zero, List.setIfInBounds_toArray, List.set_cons_zero, List.set_cons_succ]
    refine wpAnyH_take (i := 8) (v := ?vd12) rfl (by kernel_rfl) (by kernel_rfl) (by kernel_rfl) (fun _ _ _ h => h) (Or.inl ⟨by rfl, ?yd12⟩) (by assumption) ?rd12
    case yd12 =>
      intro w' hSw
      try dsimp only at hSw
      go_simp
      try with_reducible rfl
    simp only [Act.put, List.getElem_toArray, List.getElem_cons_succ, List.getElem_cons_zero, List.setIfInBounds_toArray, List.set_cons_zero, List.set_cons_succ]
    obtain ⟨e0, e1, e2, e3, e4, e5, e6⟩ := E7.out.cells7
    have ef := E7.out.frozen
    obtain ⟨v8, hv8⟩ : ∃ v8, v8 = ((((((v7.setCell ⟨w.heap.size + 1, 0, none⟩ (.bool bn)).setCell ⟨w.heap.size + 1, 1, none⟩ (.int .i64 ep)).setCell ⟨w.heap.size + 1, 2, none⟩ (.int .i64 eq)).setCell ⟨w.heap.size + 1, 3, none⟩ (.slice a1 xs.length d1)).setCell ⟨w.heap.size + 1, 4, none⟩ (.slice a2 ys.length d2)).setCell ⟨w.heap.size + 1, 5, none⟩ (.int .i64 ev)).setCell ⟨w.heap.size + 1, 6, none⟩ (.int .i64 ek) := ⟨_, rfl⟩
    have EV8 : Hid (v8 = ((((((v7.setCell ⟨w.heap.size + 1, 0, none⟩ (.bool bn)).setCell ⟨w.heap.size + 1, 1, none⟩ (.int .i64 ep)).setCell ⟨w.heap.size + 1, 2, none⟩ (.int .i64 eq)).setCell ⟨w.heap.size + 1, 3, none⟩ (.slice a1 xs.length d1)).setCell ⟨w.heap.size + 1, 4, none⟩ (.slice a2 ys.length d2)).setCell ⟨w.heap.size + 1, 5, none⟩ (.int .i64 ev)).setCell ⟨w.heap.size + 1, 6, none⟩ (.int .i64 ek)) := hv8
    have o8 : Only (w.heap.size + 1) v7 v8 := by rw [hv8]; exact (((((((Only.refl _ _).setCell _).setCell _).setCell _).setCell _).setCell _).setCell _).setCell _
    have Z8 : Hid (Blk v8 w.heap.size #[.int .i64 m, .slice la us.length lc] 25) := Z7.out.only1 o8 (by omega)
    have E8 : Hid (Blk v8 (w.heap.size + 1) #[.bool bn, .int .i64 ep, .int .i64 eq, .slice a1 xs.length d1, .slice a2 ys.length d2, .int .i64 ev, .int .i64 ek] 33) := by
      show Blk _ _ _ _
      rw [hv8]
      exact (((((((E7.out.set 0 _).set 1 _).set 2 _).set 3 _).set 4 _).set 5 _).set 6 _).eq (by simp)
    have T8 : v8.cell? ⟨tb, 0, none⟩ = some (.int .i64 m) ∧ v8.cell? ⟨tb, 1, none⟩ = some (.slice la us.length lc) := (T7.out.only1 o8 (by have := HTL.out; omega)).cells2
    have F8 : Hid (AccVoteD w (.returned (.tuple #[.agg #[.int .i64 m, .slice la us.length lc], .int .i64 bal, .int .i64 slot, .agg #[.bool bn, .int .i64 ep, .int .i64 eq, .slice a1 xs.length d1, .slice a2 ys.length d2, .int .i64 ev, .int .i64 ek]])) v8) := by
      have hs : v8.heap.size = v7.heap.size := o8.size
      have lv : LV v8 (w.heap.size + 3) v8.heap.size (.slice la us.length lc) us := by
        rw [hs, hv8]
        exact ((((((L7.out.setLow (p := ⟨w.heap.size + 1, 0, none⟩) (by simp only; omega) _).setLow (p := ⟨w.heap.size + 1, 1, none⟩) (by simp only; omega) _).setLow (p := ⟨w.heap.size + 1, 2, none⟩) (by simp only; omega) _).setLow (p := ⟨w.heap.size + 1, 3, none⟩) (by simp only; omega) _).setLow (p := ⟨w.heap.size + 1, 4, none⟩) (by simp only; omega) _).setLow (p := ⟨w.heap.size + 1, 5, none⟩) (by simp only; omega) _).setLow (p := ⟨w.heap.size + 1, 6, none⟩) (by simp only; omega) _
      have oo : OneOwn v8 (w.heap.size + 3) ⟨0, ⟨bn, ep, eq, xs, ys, ev, ek⟩, a1, d1, a2, d2⟩ := by
        rw [hv8]
        exact ((((((O7.out.setLow (p := ⟨w.heap.size + 1, 0, none⟩) (by simp only; omega) _).setLow (p := ⟨w.heap.size + 1, 1, none⟩) (by simp only; omega) _).setLow (p := ⟨w.heap.size + 1, 2, none⟩) (by simp only; omega) _).setLow (p := ⟨w.heap.size + 1, 3, none⟩) (by simp only; omega) _).setLow (p := ⟨w.heap.size + 1, 4, none⟩) (by simp only; omega) _).setLow (p := ⟨w.heap.size + 1, 5, none⟩) (by simp only; omega) _).setLow (p := ⟨w.heap.size + 1, 6, none⟩) (by simp only; omega) _
      exact ⟨m, la, lc, us, bal, slot, bn, ep, eq, a1, d1, xs, a2, d2, ys, ev, ek, rfl, lv.weaken (by omega), oo.weaken (by omega), LY.out.1, LY.out.2, m0, m1, HBL.out.1, HBL.out.2, HSL.out.1, HSL.out.2, K7.out.trans (o8.below (by omega))⟩
    clear hv8 o8 Z7 E7 T7 L7 O7 K7
    refine wpAnyH_ready (rs := [9]) (by kernel_rfl) (by simp) ?_
    refine AllReadyH.cons rfl (fun K hK => ?_) AllReadyH.nil
    go_simp
    rw [← EV8.out]
    refine hK.out _ _ T8 (fun hH4 => ?_)
    clear hK K e0 e1 e2 e3 e4 e5 e6 ef EV8 T8
    refine wpAnyH_done (by kernel_rfl) ?_ _
    obtain ⟨z0, z1⟩ := Z8.out.cells2
    obtain ⟨e0, e1, e2, e3, e4, e5, e6⟩ := E8.out.cells7
    go_wp2_with fail
    refine bodyPost_ret (v := .tuple #[.agg #[.int .i64 m, .slice la us.length lc], .int .i64 bal, .int .i64 slot, .agg #[.bool bn, .int .i64 ep, .int .i64 eq, .slice a1 xs.length d1, .slice a2 ys.length d2, .int .i64 ev, .int .i64 ek]]) (by simp [results, Try.results10, go_sem, z0, z1, e0, e1, e2, e3, e4, e5, e6]) rfl ?_
    exact F8.out
end Go.Proofs.Ytfifiobcmdmefaa.Own
