/-
  Own text: what impl.boxesOf, impl.gather and impl.ProgPuts do: a range over a function.
-/
import Derived.Test.YtgcencilgpilaaaQIterP
namespace Go.Proofs.Ytgcencilgpilaaa.Own
open Go.RowKit Go.Shelf
set_option linter.unusedVariables false
attribute [local go_sem] Oper.semAt_some

theorem infoIntP : (Try.prog.info? 3).map (fun i => (i.zero, i.size, i.bytes)) = some (some (.int .i64 0), 1, 8) := by kernel_rfl

/-- What impl.boxesOf hands back. -/
theorem boxesStopsP (n : Nat) (hn : 1 ≤ n) (bd bl n₀ : Nat) (a : Option Addr) (c : Nat) (xs : List Q4) (hlen : xs.length ≤ 2 ^ 40) (w : World)
    (hbd : w.cell? ⟨bd, 0, none⟩ = some (.func (.func 151) #[] #[])) (hbl : w.cell? ⟨bl, 0, none⟩ = some (.slice a xs.length c)) (ld : bd < n₀) (ll : bl < n₀) (hn₀ : n₀ ≤ w.heap.size) (hS : Sl4b n₀ w a xs) :
    SeqStopsK Fence.wide n Try.prog 162 #[.pointer (some ⟨bd, 0, none⟩), .pointer (some ⟨bl, 0, none⟩)] (fun x : Int => #[Value.int .i64 x]) (Below n₀) (fun ys => ys = boxesTo putsQ xs 4) (fun _ => True) 4 w := fun l J Jx W hW hJ _ hY h0 => by
  have hW' := hW.mono hn₀
  exact boxes1P n hn l bd bl n₀ a c xs hlen J Jx W.heap.size hJ hY W ((hW'.cell (p := ⟨bd, 0, none⟩) ld).trans hbd) ((hW'.cell (p := ⟨bl, 0, none⟩) ll).trans hbl) ld ll (Nat.le_trans hn₀ hW.size) (hS.below hW') h0

set_option maxRecDepth 100000 in
set_option maxHeartbeats 2000000 in
theorem gatherP (bd bl : Nat) (a : Option Addr) (c : Nat) (xs : List Q4) (hlen : xs.length ≤ 2 ^ 40) (w : World)
    (hbd : w.cell? ⟨bd, 0, none⟩ = some (.func (.func 151) #[] #[])) (hbl : w.cell? ⟨bl, 0, none⟩ = some (.slice a xs.length c)) (ld : bd < w.heap.size) (ll : bl < w.heap.size) (hS : Sl4 w a xs) :
    Calls Try.prog 149 #[.func (.func 162) #[] #[.pointer (some ⟨bd, 0, none⟩), .pointer (some ⟨bl, 0, none⟩)]] w
      fun e W' => (∃ v, e = .returned v ∧ W'.ownsRow w.heap.size 3 1 v (boxesTo putsQ xs 4).length ((boxesTo putsQ xs 4).map (Value.int .i64))) ∧ Below w.heap.size w W' := by
  obtain ⟨i0, hi, hz0, hz1, hz2⟩ := info_parts infoIntP
  have HI : Hid (Try.prog.info? 3 = some i0 ∧ i0.zero = some (.int .i64 0) ∧ i0.size = 1 ∧ i0.bytes = 8) := ⟨hi, hz0, hz1, hz2⟩
  clear hi hz0 hz1 hz2
  refine (callsIn_wide (n := 3)).1 ?_
  have h1 : 1 ≤ 3 := by omega
  refine callsIn_of_wp_marks Try.func149 rfl trivial ?_ rfl
  simp only [Try.ntmps149, List.size_toArray, List.length_cons, List.length_nil, Nat.reduceAdd, Nat.reduceSub, Array.replicate_succ, Array.replicate_zero, List.push_toArray, List.append_toArray, List.nil_append, List.cons_append]
  gi_wp2
  have bO := Boxed.new w 48 (.slice none 0 0)
  have hB0 : Below w.heap.size w (w.alloc (.cells #[.slice none 0 0] 48)) := (Below.refl _ w).alloc (Nat.le_refl _) _
  refine wpIn_rangeFunc_ownG (F := Fence.wide) rfl h1 (gf := 162) (lb := #[.pointer (some ⟨bd, 0, none⟩), .pointer (some ⟨bl, 0, none⟩)]) rfl trivial (enters_of Try.func162 (by kernel_rfl) rfl)
    (boxesStopsP (3 - 1) (by omega) bd bl w.heap.size a c xs hlen _ ((hB0.cell (p := ⟨bd, 0, none⟩) ld).trans hbd) ((hB0.cell (p := ⟨bl, 0, none⟩) ll).trans hbl) ld ll (by simp) (hS.at.below hB0)) belowK_t (belowK_b (by simp)) (Below.refl _ _) (fun _ => rfl)
    (fun (pre : List Int) W => (∃ v, Boxed W w.heap.size 48 v ∧ W.ownsRow w.heap.size 3 1 v pre.length (pre.map (Value.int .i64)) ∧ True) ∧ Below w.heap.size w W)
    (fun _ _ _ => False)
    (OwnFrom.and (Own.from (holdsRow_own w.heap.size w.heap.size 48 3 1 (fun pre : List Int => pre.length) (fun pre : List Int => pre.map (Value.int .i64)) (fun _ _ => True)) _) (ownFrom_below (Nat.le_refl _) (by simp)))
    (fun _ _ _ _ _ hs _ _ => hs)
    ⟨⟨_, bO, World.ownsRow_nil _ _ _ _, trivial⟩, hB0⟩
    (fun x => { tmps := #[.func (.func 162) #[] #[.pointer (some ⟨bd, 0, none⟩), .pointer (some ⟨bl, 0, none⟩)], undef, .slice none 0 0, .pointer (some ⟨w.heap.size, 0, none⟩), .int .i64 x, .func (.func 162) #[] #[.pointer (some ⟨bd, 0, none⟩), .pointer (some ⟨bl, 0, none⟩)], .int .i64 x, undef, undef, undef, undef, undef], defers := [] }) ?assign ?body ?done ?stop
  case assign =>
    intro l x W K hK
    gi_wp2
    exact hK
  case body =>
    rintro l pre x W ⟨⟨v, hv, hrow, -⟩, hB⟩ hlt
    have hc := hv.cell
    gi_wp2_with (gi_at_builtin; refine wpListIn_append_own _ rfl _ _ 48 rfl w.heap.size 3 i0 (.int .i64 0) 1 8 Try.underlying48 HI.out.1 HI.out.2.1 HI.out.2.2.1 HI.out.2.2.2 rfl (by decide) _ _ _ rfl (hrow.alloc _) ⟨W.heap.size, 0, none⟩ 1 1 [.int .i64 x] rfl rfl (cell_one_new _ _ _) (by simp [Value.oneCell']) (by unfold maxLen; omega) (by omega) (by have := hB.size; simp; omega) ?_; intro v' w1 hown' hgrow _; obtain ⟨g', cap', rfl⟩ := ownsRow_succ hown'; obtain ⟨hv1, hv2, hr2, hk2, hb2⟩ := hv.appended (by decide) hrow hB.size (Nat.le_refl _) hown' hgrow; have hc1 := hv1.cell; have hf1 := hv1.frozen)
    exact ⟨hk2.from _, hb2, ⟨_, hv2, by simpa using hr2, trivial⟩, hB.trans hb2⟩
  case done =>
    rintro D ys W hD rfl ⟨⟨v, hv, hrow, -⟩, hB⟩ hK
    have hc := hv.cell
    gi_wp2
    refine ⟨by simp, .inl ⟨_, _, rfl, run_takeDeferred hK, ?_⟩⟩
    exact ⟨_, results_tmp rfl _ _ _, ⟨v, rfl, ownsRow_putObj hrow _ hK rfl⟩, hB.trans (belowK_b (w := w) (Nat.le_refl _) W D _ _ (by simp at hD; omega) hK rfl rfl)⟩
  case stop =>
    rintro D c pre W _ _ h _
    exact h.elim

set_option maxHeartbeats 1000000 in
theorem boxesOfP (a : Option Addr) (n c : Nat) (w : World) :
    Calls Try.prog 150 #[.slice a n c, .func (.func 151) #[] #[]] w fun e w' => e = .returned (.func (.func 162) #[] #[.pointer (some ⟨w.heap.size + 1, 0, none⟩), .pointer (some ⟨w.heap.size, 0, none⟩)]) ∧ w' = (w.alloc (.cells #[.slice a n c] 51)).alloc (.cells #[.func (.func 151) #[] #[]] 196) := by
  go_enter Try.func150, Try.ntmps150
  go_wp2
  go_ret
  exact ⟨rfl, rfl⟩

set_option maxHeartbeats 1000000 in
theorem implProgPuts (a : Option Addr) (c : Nat) (xs : List Q4) (hlen : xs.length ≤ 2 ^ 40) (w : World) (hS : Sl4 w a xs) :
    Calls Try.prog 126 #[.slice a xs.length c] w
      fun e W' => (∃ v, e = .returned v ∧ W'.ownsRow w.heap.size 3 1 v (boxesTo putsQ xs 4).length ((boxesTo putsQ xs 4).map (Value.int .i64))) ∧ Below w.heap.size w W' := by
  go_enter Try.func126, Try.ntmps126
  go_wp2_with fail
  refine (boxesOfP a xs.length c w).mono ?_
  rintro e w1 ⟨rfl, hw1⟩
  have B1 : Hid (Below w.heap.size w w1) := by show Below _ _ _; rw [hw1]; exact ((Below.refl _ _).alloc (Nat.le_refl _) _).alloc (by simp) _
  have s1 : Hid (w1.heap.size = w.heap.size + 2) := by show _ = _; rw [hw1, size_new, size_new]
  have c1 : Hid (w1.cell? ⟨w.heap.size, 0, none⟩ = some (.slice a xs.length c)) := by show _ = _; rw [hw1, cell_heap (heap_new1 _ _ _)]; rfl
  have c2 : Hid (w1.cell? ⟨w.heap.size + 1, 0, none⟩ = some (.func (.func 151) #[] #[])) := by show _ = _; rw [hw1, cell_heap (heap_new2 _ _ _)]; rfl
  clear hw1
  go_wp2_with fail
  refine (gatherP (w.heap.size + 1) w.heap.size a c xs hlen w1 c2.out c1.out (by have := s1.out; omega) (by have := s1.out; omega) (hS.below B1.out)).mono ?_
  rintro e w2 ⟨⟨v, rfl, hown⟩, hb2⟩
  have B2 : Hid (Below w.heap.size w w2) := B1.out.trans (hb2.mono B1.out.size)
  have O2 : Hid (w2.ownsRow w.heap.size 3 1 v (boxesTo putsQ xs 4).length ((boxesTo putsQ xs 4).map (Value.int .i64))) := ownsRow_lower hown B1.out.size
  clear hown hb2
  go_wp2_with fail
  go_ret
  exact ⟨⟨v, rfl, O2.out⟩, B2.out⟩
end Go.Proofs.Ytgcencilgpilaaa.Own
