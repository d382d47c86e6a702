/-
  Own text: what spec.l2Words and spec.l2Text do.
-/
import Derived.Test.YtbcnmmofccackaaGreatDoorText2
import Derived.Lib.QuietBelow
import Derived.BigQuiet
import Derived.Deep.QuietTactic
import Derived.Deep.RegionHeld
import Derived.Test.YtbcnmmofccackaaGreatDoorDec
namespace Go.Proofs.YtbcnmmofccackaaGreatDoor.Own
open Go.RowKit Go.Sort
set_option linter.unusedVariables false
set_option linter.unusedSimpArgs false

theorem wpAnyH_mono {P : Program} {ops : Array Oper} {Q : Exit → Act → World → Prop} {md : Region.Mode} {S S' : World → Prop} (h : ∀ w, S' w → S w) : ∀ (fuel : Nat) (listed : Array Bool) (a : Act) (w : World), wpAnyH P md ops Q S' fuel listed a w → wpAnyH P md ops Q S fuel listed a w
  | 0, _, _, _, h' => h'
  | fuel + 1, _, _, _, h' => ⟨h'.1, fun i hi => wpOp_mono (fun a' w' h2 => ⟨h _ h2.1, wpAnyH_mono h fuel _ a' w' h2.2⟩) (h'.2 i hi)⟩

def wordRow : Array Value := #[.string ⟨#[]⟩, .string ⟨#[108, 111, 97, 100]⟩, .string ⟨#[112, 117, 116]⟩, .string ⟨#[110, 117, 109]⟩, .string ⟨#[97, 100, 100]⟩, .string ⟨#[115, 117, 98]⟩, .string ⟨#[108, 101, 115, 115]⟩, .string ⟨#[102, 97, 105, 108]⟩]

set_option maxHeartbeats 1000000 in
theorem l2WordsC (w : World) : Calls Tryz.prog 47 #[] w fun e w' => e = .returned (.slice (some ⟨w.heap.size, 0, none⟩) 8 8) ∧ w' = w.alloc (.cells wordRow 9) := by
  go_enter Tryz.func47, Tryz.ntmps47
  go_wp2
  go_ret
  exact ⟨rfl, rfl⟩

set_option maxRecDepth 100000 in
set_option maxHeartbeats 4000000 in
theorem l2Text1 (a b n : Int) (fa : Fits a) (fb : Fits b) (w : World) :
    Calls Tryz.prog 25 #[.agg #[.int .i64 1, .int .i64 a, .int .i64 b, .int .i64 n]] w fun e w' => e = .returned (.string (str ([108, 111, 97, 100] ++ (32 :: Lib.itoa a) ++ (32 :: Lib.itoa b)))) ∧ Below w.heap.size w w' := by
  obtain ⟨s1, e1⟩ : ∃ s, s = str (Lib.itoa a) := ⟨_, rfl⟩
  obtain ⟨s2, e2⟩ : ∃ s, s = str (Lib.itoa b) := ⟨_, rfl⟩
  have z1 : s1.size ≤ 21 := by rw [e1, str_size]; exact itoa_len a fa
  have z2 : s2.size ≤ 21 := by rw [e2, str_size]; exact itoa_len b fb
  have E1 : Hid (s1 = str (Lib.itoa a)) := e1
  have E2 : Hid (s2 = str (Lib.itoa b)) := e2
  clear e1 e2
  have C1 : Hid (∀ W : World, Calls Tryz.prog 48 #[.int .i64 a] W fun e w' => e = .returned (.string s1) ∧ Below W.heap.size W w') := by
    intro W; rw [E1.out]; exact l15Dec a W fa.1 fa.2
  have C2 : Hid (∀ W : World, Calls Tryz.prog 48 #[.int .i64 b] W fun e w' => e = .returned (.string s2) ∧ Below W.heap.size W w') := by
    intro W; rw [E2.out]; exact l15Dec b W fb.1 fb.2
  obtain ⟨X, hX⟩ : ∃ X, X = w.alloc (.cells #[.int .i64 1, .int .i64 a, .int .i64 b, .int .i64 n] 41) := ⟨_, rfl⟩
  have hX0 : Hid (X.heap[w.heap.size]? = some (.cells #[.int .i64 1, .int .i64 a, .int .i64 b, .int .i64 n] 41)) := by show _ = _; rw [hX]; exact heap_new _ _
  have hXs : Hid (w.heap.size < X.heap.size) := by show _ < _; rw [hX, size_new]; omega
  have hXb : Hid (Below w.heap.size w X) := by show Below _ _ _; rw [hX]; exact (Below.refl _ _).alloc (Nat.le_refl _) _
  have HX : Hid (X = w.alloc (.cells #[.int .i64 1, .int .i64 a, .int .i64 b, .int .i64 n] 41)) := hX
  have HK : Hid (∀ W : World, Below X.heap.size X W → W.cell? ⟨w.heap.size, 0, none⟩ = some (.int .i64 1) ∧ W.cell? ⟨w.heap.size, 1, none⟩ = some (.int .i64 a) ∧ W.cell? ⟨w.heap.size, 2, none⟩ = some (.int .i64 b)) := by
    intro W h
    have e : W.heap[w.heap.size]? = _ := (h.block _ hXs.out).trans hX0.out
    exact ⟨by rw [cell_heap e]; rfl, by rw [cell_heap e]; rfl, by rw [cell_heap e]; rfl⟩
  have L2 : Hid (∀ W : World, Below X.heap.size X W → W.heap.size = X.heap.size → Calls Tryz.prog 47 #[] W fun e w' => e = .returned (.slice (some ⟨X.heap.size, 0, none⟩) 8 8) ∧ Below X.heap.size X w' ∧ w'.cell? ⟨X.heap.size, 1, none⟩ = some (.string ⟨#[108, 111, 97, 100]⟩) ∧ X.heap.size < w'.heap.size) := by
    intro W hW hs
    refine (l2WordsC W).mono ?_
    rintro e w' ⟨rfl, rfl⟩
    rw [← hs]
    exact ⟨rfl, by rw [hs]; exact hW.alloc hW.size _, by rw [cell_heap (heap_new _ _)]; rfl, by rw [size_new]; omega⟩
  clear hX
  have n1 : ¬ 9223372036854775807 < 5 + s1.size := by omega
  have n2 : ¬ 9223372036854775807 < 5 + s1.size + 1 := by omega
  have n3 : ¬ 9223372036854775807 < 5 + s1.size + 1 + s2.size := by omega
  go_enter Tryz.func25, Tryz.ntmps25
  go_wp2_with fail
  rw [← HX.out]
  refine wp_region_held_drew (S := (fun w' : World => w'.cell? ⟨w.heap.size, 0, none⟩ = some (.int .i64 1) ∧ w'.cell? ⟨w.heap.size, 1, none⟩ = some (.int .i64 a) ∧ w'.cell? ⟨w.heap.size, 2, none⟩ = some (.int .i64 b))) (by kernel_rfl) (HK.out X.drew (Below.drew (Below.refl _ _))) (fun hHeld => ?_)
  refine wpAnyH_take (i := 1) (v := ?v1) rfl (by kernel_rfl) (by kernel_rfl) (by kernel_rfl) (fun _ _ _ h => h) (Or.inl ⟨by rfl, ?y1⟩) (by assumption) ?r1
  case y1 =>
    intro w' hSw
    try dsimp only at hSw
    go_simp
    try with_reducible rfl
  try simp only [Act.put, List.setIfInBounds_toArray, List.set_cons_zero, List.set_cons_succ]
  refine wpAnyH_take (i := 2) (v := ?v2) rfl (by kernel_rfl) (by kernel_rfl) (by kernel_rfl) (fun _ _ _ h => h) (Or.inl ⟨by rfl, ?y2⟩) (by assumption) ?r2
  case y2 =>
    intro w' hSw
    try dsimp only at hSw
    go_simp
    try with_reducible rfl
  try simp only [Act.put, List.setIfInBounds_toArray, List.set_cons_zero, List.set_cons_succ]
  refine wpAnyH_take (i := 6) (v := ?v6) rfl (by kernel_rfl) (by kernel_rfl) (by kernel_rfl) (fun _ _ _ h => h) (Or.inl ⟨by rfl, ?y6⟩) (by assumption) ?r6
  case y6 =>
    intro w' hSw
    try dsimp only at hSw
    go_simp
    try with_reducible rfl
  try simp only [Act.put, List.setIfInBounds_toArray, List.set_cons_zero, List.set_cons_succ]
  refine wpAnyH_take (i := 7) (v := ?v7) rfl (by kernel_rfl) (by kernel_rfl) (by kernel_rfl) (fun _ _ _ h => h) (Or.inl ⟨by rfl, ?y7⟩) (by assumption) ?r7
  case y7 =>
    intro w' hSw
    try dsimp only at hSw
    go_simp
    try with_reducible rfl
  try simp only [Act.put, List.setIfInBounds_toArray, List.set_cons_zero, List.set_cons_succ]
  refine wpAnyH_take (i := 11) (v := ?v11) rfl (by kernel_rfl) (by kernel_rfl) (by kernel_rfl) (fun _ _ _ h => h) (Or.inl ⟨by rfl, ?y11⟩) (by assumption) ?r11
  case y11 =>
    intro w' hSw
    try dsimp only at hSw
    go_simp
    try with_reducible rfl
  try simp only [Act.put, List.setIfInBounds_toArray, List.set_cons_zero, List.set_cons_succ]
  refine wpAnyH_take (i := 12) (v := ?v12) rfl (by kernel_rfl) (by kernel_rfl) (by kernel_rfl) (fun _ _ _ h => h) (Or.inl ⟨by rfl, ?y12⟩) (by assumption) ?r12
  case y12 =>
    intro w' hSw
    try dsimp only at hSw
    go_simp
    try with_reducible rfl
  try simp only [Act.put, List.setIfInBounds_toArray, List.set_cons_zero, List.set_cons_succ]
  refine wpAnyH_ready (rs := [0]) (by kernel_rfl) (by simp) ?_
  refine AllReadyH.cons rfl (fun K hK => ?_) AllReadyH.nil
  go_simp
  refine (L2.out _ (Below.drew (Below.refl _ _)) rfl).mono ?_
  rintro e w1 ⟨rfl, hb1, hword, hlt1⟩
  have hB1 : Hid (Below X.heap.size X w1) := hb1
  have hlt : Hid (X.heap.size < w1.heap.size) := hlt1
  have hK1 := HK.out w1 hb1
  refine hK.out _ _ hK1 (fun hHeld1 => ?_)
  clear hK K hHeld hHeld1 hb1 hlt1
  refine wpAnyH_mono (S' := (fun w' : World => w'.cell? ⟨X.heap.size, 1, none⟩ = some (.string ⟨#[108, 111, 97, 100]⟩) ∧ w'.cell? ⟨w.heap.size, 0, none⟩ = some (.int .i64 1) ∧ w'.cell? ⟨w.heap.size, 1, none⟩ = some (.int .i64 a) ∧ w'.cell? ⟨w.heap.size, 2, none⟩ = some (.int .i64 b))) (fun _ h => h.2) _ _ _ _ ?_
  have hHeld : (fun w' : World => w'.cell? ⟨X.heap.size, 1, none⟩ = some (.string ⟨#[108, 111, 97, 100]⟩) ∧ w'.cell? ⟨w.heap.size, 0, none⟩ = some (.int .i64 1) ∧ w'.cell? ⟨w.heap.size, 1, none⟩ = some (.int .i64 a) ∧ w'.cell? ⟨w.heap.size, 2, none⟩ = some (.int .i64 b)) w1 := ⟨hword, hK1⟩
  clear hword hK1
  refine wpAnyH_take (i := 3) (v := ?v3) rfl (by kernel_rfl) (by kernel_rfl) (by kernel_rfl) (fun _ _ _ h => h) (Or.inl ⟨by rfl, ?y3⟩) (by assumption) ?r3
  case y3 =>
    intro w' hSw
    try dsimp only at hSw
    go_simp
    try with_reducible rfl
  try simp only [Act.put, List.setIfInBounds_toArray, List.set_cons_zero, List.set_cons_succ]
  refine wpAnyH_take (i := 4) (v := ?v4) rfl (by kernel_rfl) (by kernel_rfl) (by kernel_rfl) (fun _ _ _ h => h) (Or.inl ⟨by rfl, ?y4⟩) (by assumption) ?r4
  case y4 =>
    intro w' hSw
    try dsimp only at hSw
    go_simp
    try with_reducible rfl
  try simp only [Act.put, List.setIfInBounds_toArray, List.set_cons_zero, List.set_cons_succ]
  refine wpAnyH_take (i := 5) (v := ?v5) rfl (by kernel_rfl) (by kernel_rfl) (by kernel_rfl) (fun _ _ _ h => h) (Or.inl ⟨by rfl, ?y5⟩) (by assumption) ?r5
  case y5 =>
    intro w' hSw
    try dsimp only at hSw
    go_simp
    try with_reducible rfl
  try simp only [Act.put, List.setIfInBounds_toArray, List.set_cons_zero, List.set_cons_succ]
  refine wpAnyH_ready (rs := [8]) (by kernel_rfl) (by simp) ?_
  refine AllReadyH.cons rfl (fun K hK => ?_) AllReadyH.nil
  go_simp
  refine (C1.out _).mono ?_
  rintro e w2 ⟨rfl, hb2⟩
  have hB12 : Hid (w1.heap.size ≤ w2.heap.size) := hb2.size
  have hB2 : Hid (Below X.heap.size X w2) := hB1.out.trans (hb2.mono hB1.out.size)
  have hw2 : w2.cell? ⟨X.heap.size, 1, none⟩ = some (.string ⟨#[108, 111, 97, 100]⟩) := by rw [hb2.cell (p := ⟨X.heap.size, 1, none⟩) hlt.out]; exact hHeld.1
  refine hK.out _ _ ⟨hw2, HK.out w2 hB2.out⟩ (fun hHeld2 => ?_)
  clear hK K hHeld hb2 hw2
  refine wpAnyH_take (i := 9) (v := ?v9) rfl (by kernel_rfl) (by kernel_rfl) (by kernel_rfl) (fun _ _ _ h => h) (Or.inl ⟨by rfl, ?y9⟩) (by assumption) ?r9
  case y9 =>
    intro w' hSw
    try dsimp only at hSw
    go_simp
    try with_reducible rfl
  try simp only [Act.put, List.setIfInBounds_toArray, List.set_cons_zero, List.set_cons_succ]
  refine wpAnyH_take (i := 10) (v := ?v10) rfl (by kernel_rfl) (by kernel_rfl) (by kernel_rfl) (fun _ _ _ h => h) (Or.inl ⟨by rfl, ?y10⟩) (by assumption) ?r10
  case y10 =>
    intro w' hSw
    try dsimp only at hSw
    go_simp
    try with_reducible rfl
  try simp only [Act.put, List.setIfInBounds_toArray, List.set_cons_zero, List.set_cons_succ]
  refine wpAnyH_ready (rs := [13]) (by kernel_rfl) (by simp) ?_
  refine AllReadyH.cons rfl (fun K hK => ?_) AllReadyH.nil
  go_simp
  refine (C2.out _).mono ?_
  rintro e w3 ⟨rfl, hb3⟩
  have hB3 : Hid (Below X.heap.size X w3) := hB2.out.trans (hb3.mono hB2.out.size)
  have hw3 : w3.cell? ⟨X.heap.size, 1, none⟩ = some (.string ⟨#[108, 111, 97, 100]⟩) := by rw [hb3.cell (p := ⟨X.heap.size, 1, none⟩) (Nat.lt_of_lt_of_le hlt.out (hB12.out))]; exact hHeld2.1
  refine hK.out _ _ ⟨hw3, HK.out w3 hB3.out⟩ (fun hHeld3 => ?_)
  clear hK K hHeld2 hb3 hw3
  refine wpAnyH_take (i := 14) (v := ?v14) rfl (by kernel_rfl) (by kernel_rfl) (by kernel_rfl) (fun _ _ _ h => h) (Or.inl ⟨by rfl, ?y14⟩) (by assumption) ?r14
  case y14 =>
    intro w' hSw
    try dsimp only at hSw
    go_simp
    try with_reducible rfl
  simp only [Act.put, List.getElem_toArray, List.getElem_cons_succ, List.getElem_cons_zero, List.setIfInBounds_toArray, List.set_cons_zero, List.set_cons_succ]
  refine wpAnyH_take (i := 15) (v := ?v15) rfl (by kernel_rfl) (by kernel_rfl) (by kernel_rfl) (fun _ _ _ h => h) (Or.inl ⟨by rfl, ?y15⟩) (by assumption) ?r15
  case y15 =>
    intro w' hSw
    try dsimp only at hSw
    go_simp
    try with_reducible rfl
  simp only [Act.put, List.getElem_toArray, List.getElem_cons_succ, List.getElem_cons_zero, List.setIfInBounds_toArray, List.set_cons_zero, List.set_cons_succ]
  refine wpAnyH_done (by kernel_rfl) ?_ _
  go_wp2
  go_ret
  refine ⟨ret_str ?_, hXb.out.trans (hB3.out.mono hXb.out.size)⟩
  apply str_eq
  simp only [list_append]
  rw [E1.out, E2.out, str_list, str_list]
  simp

set_option maxRecDepth 100000 in
set_option maxHeartbeats 4000000 in
theorem l2Text2 (a b n : Int) (fa : Fits a) (fb : Fits b) (w : World) :
    Calls Tryz.prog 25 #[.agg #[.int .i64 2, .int .i64 a, .int .i64 b, .int .i64 n]] w fun e w' => e = .returned (.string (str ([112, 117, 116] ++ (32 :: Lib.itoa a) ++ (32 :: Lib.itoa b)))) ∧ Below w.heap.size w w' := by
  obtain ⟨s1, e1⟩ : ∃ s, s = str (Lib.itoa a) := ⟨_, rfl⟩
  obtain ⟨s2, e2⟩ : ∃ s, s = str (Lib.itoa b) := ⟨_, rfl⟩
  have z1 : s1.size ≤ 21 := by rw [e1, str_size]; exact itoa_len a fa
  have z2 : s2.size ≤ 21 := by rw [e2, str_size]; exact itoa_len b fb
  have E1 : Hid (s1 = str (Lib.itoa a)) := e1
  have E2 : Hid (s2 = str (Lib.itoa b)) := e2
  clear e1 e2
  have C1 : Hid (∀ W : World, Calls Tryz.prog 48 #[.int .i64 a] W fun e w' => e = .returned (.string s1) ∧ Below W.heap.size W w') := by
    intro W; rw [E1.out]; exact l15Dec a W fa.1 fa.2
  have C2 : Hid (∀ W : World, Calls Tryz.prog 48 #[.int .i64 b] W fun e w' => e = .returned (.string s2) ∧ Below W.heap.size W w') := by
    intro W; rw [E2.out]; exact l15Dec b W fb.1 fb.2
  obtain ⟨X, hX⟩ : ∃ X, X = w.alloc (.cells #[.int .i64 2, .int .i64 a, .int .i64 b, .int .i64 n] 41) := ⟨_, rfl⟩
  have hX0 : Hid (X.heap[w.heap.size]? = some (.cells #[.int .i64 2, .int .i64 a, .int .i64 b, .int .i64 n] 41)) := by show _ = _; rw [hX]; exact heap_new _ _
  have hXs : Hid (w.heap.size < X.heap.size) := by show _ < _; rw [hX, size_new]; omega
  have hXb : Hid (Below w.heap.size w X) := by show Below _ _ _; rw [hX]; exact (Below.refl _ _).alloc (Nat.le_refl _) _
  have HX : Hid (X = w.alloc (.cells #[.int .i64 2, .int .i64 a, .int .i64 b, .int .i64 n] 41)) := hX
  have HK : Hid (∀ W : World, Below X.heap.size X W → W.cell? ⟨w.heap.size, 0, none⟩ = some (.int .i64 2) ∧ W.cell? ⟨w.heap.size, 1, none⟩ = some (.int .i64 a) ∧ W.cell? ⟨w.heap.size, 2, none⟩ = some (.int .i64 b)) := by
    intro W h
    have e : W.heap[w.heap.size]? = _ := (h.block _ hXs.out).trans hX0.out
    exact ⟨by rw [cell_heap e]; rfl, by rw [cell_heap e]; rfl, by rw [cell_heap e]; rfl⟩
  have L2 : Hid (∀ W : World, Below X.heap.size X W → W.heap.size = X.heap.size → Calls Tryz.prog 47 #[] W fun e w' => e = .returned (.slice (some ⟨X.heap.size, 0, none⟩) 8 8) ∧ Below X.heap.size X w' ∧ w'.cell? ⟨X.heap.size, 2, none⟩ = some (.string ⟨#[112, 117, 116]⟩) ∧ X.heap.size < w'.heap.size) := by
    intro W hW hs
    refine (l2WordsC W).mono ?_
    rintro e w' ⟨rfl, rfl⟩
    rw [← hs]
    exact ⟨rfl, by rw [hs]; exact hW.alloc hW.size _, by rw [cell_heap (heap_new _ _)]; rfl, by rw [size_new]; omega⟩
  clear hX
  have n1 : ¬ 9223372036854775807 < 4 + s1.size := by omega
  have n2 : ¬ 9223372036854775807 < 4 + s1.size + 1 := by omega
  have n3 : ¬ 9223372036854775807 < 4 + s1.size + 1 + s2.size := by omega
  go_enter Tryz.func25, Tryz.ntmps25
  go_wp2_with fail
  rw [← HX.out]
  refine wp_region_held_drew (S := (fun w' : World => w'.cell? ⟨w.heap.size, 0, none⟩ = some (.int .i64 2) ∧ w'.cell? ⟨w.heap.size, 1, none⟩ = some (.int .i64 a) ∧ w'.cell? ⟨w.heap.size, 2, none⟩ = some (.int .i64 b))) (by kernel_rfl) (HK.out X.drew (Below.drew (Below.refl _ _))) (fun hHeld => ?_)
  refine wpAnyH_take (i := 1) (v := ?v1) rfl (by kernel_rfl) (by kernel_rfl) (by kernel_rfl) (fun _ _ _ h => h) (Or.inl ⟨by rfl, ?y1⟩) (by assumption) ?r1
  case y1 =>
    intro w' hSw
    try dsimp only at hSw
    go_simp
    try with_reducible rfl
  try simp only [Act.put, List.setIfInBounds_toArray, List.set_cons_zero, List.set_cons_succ]
  refine wpAnyH_take (i := 2) (v := ?v2) rfl (by kernel_rfl) (by kernel_rfl) (by kernel_rfl) (fun _ _ _ h => h) (Or.inl ⟨by rfl, ?y2⟩) (by assumption) ?r2
  case y2 =>
    intro w' hSw
    try dsimp only at hSw
    go_simp
    try with_reducible rfl
  try simp only [Act.put, List.setIfInBounds_toArray, List.set_cons_zero, List.set_cons_succ]
  refine wpAnyH_take (i := 6) (v := ?v6) rfl (by kernel_rfl) (by kernel_rfl) (by kernel_rfl) (fun _ _ _ h => h) (Or.inl ⟨by rfl, ?y6⟩) (by assumption) ?r6
  case y6 =>
    intro w' hSw
    try dsimp only at hSw
    go_simp
    try with_reducible rfl
  try simp only [Act.put, List.setIfInBounds_toArray, List.set_cons_zero, List.set_cons_succ]
  refine wpAnyH_take (i := 7) (v := ?v7) rfl (by kernel_rfl) (by kernel_rfl) (by kernel_rfl) (fun _ _ _ h => h) (Or.inl ⟨by rfl, ?y7⟩) (by assumption) ?r7
  case y7 =>
    intro w' hSw
    try dsimp only at hSw
    go_simp
    try with_reducible rfl
  try simp only [Act.put, List.setIfInBounds_toArray, List.set_cons_zero, List.set_cons_succ]
  refine wpAnyH_take (i := 11) (v := ?v11) rfl (by kernel_rfl) (by kernel_rfl) (by kernel_rfl) (fun _ _ _ h => h) (Or.inl ⟨by rfl, ?y11⟩) (by assumption) ?r11
  case y11 =>
    intro w' hSw
    try dsimp only at hSw
    go_simp
    try with_reducible rfl
  try simp only [Act.put, List.setIfInBounds_toArray, List.set_cons_zero, List.set_cons_succ]
  refine wpAnyH_take (i := 12) (v := ?v12) rfl (by kernel_rfl) (by kernel_rfl) (by kernel_rfl) (fun _ _ _ h => h) (Or.inl ⟨by rfl, ?y12⟩) (by assumption) ?r12
  case y12 =>
    intro w' hSw
    try dsimp only at hSw
    go_simp
    try with_reducible rfl
  try simp only [Act.put, List.setIfInBounds_toArray, List.set_cons_zero, List.set_cons_succ]
  refine wpAnyH_ready (rs := [0]) (by kernel_rfl) (by simp) ?_
  refine AllReadyH.cons rfl (fun K hK => ?_) AllReadyH.nil
  go_simp
  refine (L2.out _ (Below.drew (Below.refl _ _)) rfl).mono ?_
  rintro e w1 ⟨rfl, hb1, hword, hlt1⟩
  have hB1 : Hid (Below X.heap.size X w1) := hb1
  have hlt : Hid (X.heap.size < w1.heap.size) := hlt1
  have hK1 := HK.out w1 hb1
  refine hK.out _ _ hK1 (fun hHeld1 => ?_)
  clear hK K hHeld hHeld1 hb1 hlt1
  refine wpAnyH_mono (S' := (fun w' : World => w'.cell? ⟨X.heap.size, 2, none⟩ = some (.string ⟨#[112, 117, 116]⟩) ∧ w'.cell? ⟨w.heap.size, 0, none⟩ = some (.int .i64 2) ∧ w'.cell? ⟨w.heap.size, 1, none⟩ = some (.int .i64 a) ∧ w'.cell? ⟨w.heap.size, 2, none⟩ = some (.int .i64 b))) (fun _ h => h.2) _ _ _ _ ?_
  have hHeld : (fun w' : World => w'.cell? ⟨X.heap.size, 2, none⟩ = some (.string ⟨#[112, 117, 116]⟩) ∧ w'.cell? ⟨w.heap.size, 0, none⟩ = some (.int .i64 2) ∧ w'.cell? ⟨w.heap.size, 1, none⟩ = some (.int .i64 a) ∧ w'.cell? ⟨w.heap.size, 2, none⟩ = some (.int .i64 b)) w1 := ⟨hword, hK1⟩
  clear hword hK1
  refine wpAnyH_take (i := 3) (v := ?v3) rfl (by kernel_rfl) (by kernel_rfl) (by kernel_rfl) (fun _ _ _ h => h) (Or.inl ⟨by rfl, ?y3⟩) (by assumption) ?r3
  case y3 =>
    intro w' hSw
    try dsimp only at hSw
    go_simp
    try with_reducible rfl
  try simp only [Act.put, List.setIfInBounds_toArray, List.set_cons_zero, List.set_cons_succ]
  refine wpAnyH_take (i := 4) (v := ?v4) rfl (by kernel_rfl) (by kernel_rfl) (by kernel_rfl) (fun _ _ _ h => h) (Or.inl ⟨by rfl, ?y4⟩) (by assumption) ?r4
  case y4 =>
    intro w' hSw
    try dsimp only at hSw
    go_simp
    try with_reducible rfl
  try simp only [Act.put, List.setIfInBounds_toArray, List.set_cons_zero, List.set_cons_succ]
  refine wpAnyH_take (i := 5) (v := ?v5) rfl (by kernel_rfl) (by kernel_rfl) (by kernel_rfl) (fun _ _ _ h => h) (Or.inl ⟨by rfl, ?y5⟩) (by assumption) ?r5
  case y5 =>
    intro w' hSw
    try dsimp only at hSw
    go_simp
    try with_reducible rfl
  try simp only [Act.put, List.setIfInBounds_toArray, List.set_cons_zero, List.set_cons_succ]
  refine wpAnyH_ready (rs := [8]) (by kernel_rfl) (by simp) ?_
  refine AllReadyH.cons rfl (fun K hK => ?_) AllReadyH.nil
  go_simp
  refine (C1.out _).mono ?_
  rintro e w2 ⟨rfl, hb2⟩
  have hB12 : Hid (w1.heap.size ≤ w2.heap.size) := hb2.size
  have hB2 : Hid (Below X.heap.size X w2) := hB1.out.trans (hb2.mono hB1.out.size)
  have hw2 : w2.cell? ⟨X.heap.size, 2, none⟩ = some (.string ⟨#[112, 117, 116]⟩) := by rw [hb2.cell (p := ⟨X.heap.size, 2, none⟩) hlt.out]; exact hHeld.1
  refine hK.out _ _ ⟨hw2, HK.out w2 hB2.out⟩ (fun hHeld2 => ?_)
  clear hK K hHeld hb2 hw2
  refine wpAnyH_take (i := 9) (v := ?v9) rfl (by kernel_rfl) (by kernel_rfl) (by kernel_rfl) (fun _ _ _ h => h) (Or.inl ⟨by rfl, ?y9⟩) (by assumption) ?r9
  case y9 =>
    intro w' hSw
    try dsimp only at hSw
    go_simp
    try with_reducible rfl
  try simp only [Act.put, List.setIfInBounds_toArray, List.set_cons_zero, List.set_cons_succ]
  refine wpAnyH_take (i := 10) (v := ?v10) rfl (by kernel_rfl) (by kernel_rfl) (by kernel_rfl) (fun _ _ _ h => h) (Or.inl ⟨by rfl, ?y10⟩) (by assumption) ?r10
  case y10 =>
    intro w' hSw
    try dsimp only at hSw
    go_simp
    try with_reducible rfl
  try simp only [Act.put, List.setIfInBounds_toArray, List.set_cons_zero, List.set_cons_succ]
  refine wpAnyH_ready (rs := [13]) (by kernel_rfl) (by simp) ?_
  refine AllReadyH.cons rfl (fun K hK => ?_) AllReadyH.nil
  go_simp
  refine (C2.out _).mono ?_
  rintro e w3 ⟨rfl, hb3⟩
  have hB3 : Hid (Below X.heap.size X w3) := hB2.out.trans (hb3.mono hB2.out.size)
  have hw3 : w3.cell? ⟨X.heap.size, 2, none⟩ = some (.string ⟨#[112, 117, 116]⟩) := by rw [hb3.cell (p := ⟨X.heap.size, 2, none⟩) (Nat.lt_of_lt_of_le hlt.out (hB12.out))]; exact hHeld2.1
  refine hK.out _ _ ⟨hw3, HK.out w3 hB3.out⟩ (fun hHeld3 => ?_)
  clear hK K hHeld2 hb3 hw3
  refine wpAnyH_take (i := 14) (v := ?v14) rfl (by kernel_rfl) (by kernel_rfl) (by kernel_rfl) (fun _ _ _ h => h) (Or.inl ⟨by rfl, ?y14⟩) (by assumption) ?r14
  case y14 =>
    intro w' hSw
    try dsimp only at hSw
    go_simp
    try with_reducible rfl
  simp only [Act.put, List.getElem_toArray, List.getElem_cons_succ, List.getElem_cons_zero, List.setIfInBounds_toArray, List.set_cons_zero, List.set_cons_succ]
  refine wpAnyH_take (i := 15) (v := ?v15) rfl (by kernel_rfl) (by kernel_rfl) (by kernel_rfl) (fun _ _ _ h => h) (Or.inl ⟨by rfl, ?y15⟩) (by assumption) ?r15
  case y15 =>
    intro w' hSw
    try dsimp only at hSw
    go_simp
    try with_reducible rfl
  simp only [Act.put, List.getElem_toArray, List.getElem_cons_succ, List.getElem_cons_zero, List.setIfInBounds_toArray, List.set_cons_zero, List.set_cons_succ]
  refine wpAnyH_done (by kernel_rfl) ?_ _
  go_wp2
  go_ret
  refine ⟨ret_str ?_, hXb.out.trans (hB3.out.mono hXb.out.size)⟩
  apply str_eq
  simp only [list_append]
  rw [E1.out, E2.out, str_list, str_list]
  simp

set_option maxRecDepth 100000 in
set_option maxHeartbeats 4000000 in
theorem l2Text4 (a b n : Int) (fa : Fits a) (fb : Fits b) (w : World) :
    Calls Tryz.prog 25 #[.agg #[.int .i64 4, .int .i64 a, .int .i64 b, .int .i64 n]] w fun e w' => e = .returned (.string (str ([97, 100, 100] ++ (32 :: Lib.itoa a) ++ (32 :: Lib.itoa b)))) ∧ Below w.heap.size w w' := by
  obtain ⟨s1, e1⟩ : ∃ s, s = str (Lib.itoa a) := ⟨_, rfl⟩
  obtain ⟨s2, e2⟩ : ∃ s, s = str (Lib.itoa b) := ⟨_, rfl⟩
  have z1 : s1.size ≤ 21 := by rw [e1, str_size]; exact itoa_len a fa
  have z2 : s2.size ≤ 21 := by rw [e2, str_size]; exact itoa_len b fb
  have E1 : Hid (s1 = str (Lib.itoa a)) := e1
  have E2 : Hid (s2 = str (Lib.itoa b)) := e2
  clear e1 e2
  have C1 : Hid (∀ W : World, Calls Tryz.prog 48 #[.int .i64 a] W fun e w' => e = .returned (.string s1) ∧ Below W.heap.size W w') := by
    intro W; rw [E1.out]; exact l15Dec a W fa.1 fa.2
  have C2 : Hid (∀ W : World, Calls Tryz.prog 48 #[.int .i64 b] W fun e w' => e = .returned (.string s2) ∧ Below W.heap.size W w') := by
    intro W; rw [E2.out]; exact l15Dec b W fb.1 fb.2
  obtain ⟨X, hX⟩ : ∃ X, X = w.alloc (.cells #[.int .i64 4, .int .i64 a, .int .i64 b, .int .i64 n] 41) := ⟨_, rfl⟩
  have hX0 : Hid (X.heap[w.heap.size]? = some (.cells #[.int .i64 4, .int .i64 a, .int .i64 b, .int .i64 n] 41)) := by show _ = _; rw [hX]; exact heap_new _ _
  have hXs : Hid (w.heap.size < X.heap.size) := by show _ < _; rw [hX, size_new]; omega
  have hXb : Hid (Below w.heap.size w X) := by show Below _ _ _; rw [hX]; exact (Below.refl _ _).alloc (Nat.le_refl _) _
  have HX : Hid (X = w.alloc (.cells #[.int .i64 4, .int .i64 a, .int .i64 b, .int .i64 n] 41)) := hX
  have HK : Hid (∀ W : World, Below X.heap.size X W → W.cell? ⟨w.heap.size, 0, none⟩ = some (.int .i64 4) ∧ W.cell? ⟨w.heap.size, 1, none⟩ = some (.int .i64 a) ∧ W.cell? ⟨w.heap.size, 2, none⟩ = some (.int .i64 b)) := by
    intro W h
    have e : W.heap[w.heap.size]? = _ := (h.block _ hXs.out).trans hX0.out
    exact ⟨by rw [cell_heap e]; rfl, by rw [cell_heap e]; rfl, by rw [cell_heap e]; rfl⟩
  have L2 : Hid (∀ W : World, Below X.heap.size X W → W.heap.size = X.heap.size → Calls Tryz.prog 47 #[] W fun e w' => e = .returned (.slice (some ⟨X.heap.size, 0, none⟩) 8 8) ∧ Below X.heap.size X w' ∧ w'.cell? ⟨X.heap.size, 4, none⟩ = some (.string ⟨#[97, 100, 100]⟩) ∧ X.heap.size < w'.heap.size) := by
    intro W hW hs
    refine (l2WordsC W).mono ?_
    rintro e w' ⟨rfl, rfl⟩
    rw [← hs]
    exact ⟨rfl, by rw [hs]; exact hW.alloc hW.size _, by rw [cell_heap (heap_new _ _)]; rfl, by rw [size_new]; omega⟩
  clear hX
  have n1 : ¬ 9223372036854775807 < 4 + s1.size := by omega
  have n2 : ¬ 9223372036854775807 < 4 + s1.size + 1 := by omega
  have n3 : ¬ 9223372036854775807 < 4 + s1.size + 1 + s2.size := by omega
  go_enter Tryz.func25, Tryz.ntmps25
  go_wp2_with fail
  rw [← HX.out]
  refine wp_region_held_drew (S := (fun w' : World => w'.cell? ⟨w.heap.size, 0, none⟩ = some (.int .i64 4) ∧ w'.cell? ⟨w.heap.size, 1, none⟩ = some (.int .i64 a) ∧ w'.cell? ⟨w.heap.size, 2, none⟩ = some (.int .i64 b))) (by kernel_rfl) (HK.out X.drew (Below.drew (Below.refl _ _))) (fun hHeld => ?_)
  refine wpAnyH_take (i := 1) (v := ?v1) rfl (by kernel_rfl) (by kernel_rfl) (by kernel_rfl) (fun _ _ _ h => h) (Or.inl ⟨by rfl, ?y1⟩) (by assumption) ?r1
  case y1 =>
    intro w' hSw
    try dsimp only at hSw
    go_simp
    try with_reducible rfl
  try simp only [Act.put, List.setIfInBounds_toArray, List.set_cons_zero, List.set_cons_succ]
  refine wpAnyH_take (i := 2) (v := ?v2) rfl (by kernel_rfl) (by kernel_rfl) (by kernel_rfl) (fun _ _ _ h => h) (Or.inl ⟨by rfl, ?y2⟩) (by assumption) ?r2
  case y2 =>
    intro w' hSw
    try dsimp only at hSw
    go_simp
    try with_reducible rfl
  try simp only [Act.put, List.setIfInBounds_toArray, List.set_cons_zero, List.set_cons_succ]
  refine wpAnyH_take (i := 6) (v := ?v6) rfl (by kernel_rfl) (by kernel_rfl) (by kernel_rfl) (fun _ _ _ h => h) (Or.inl ⟨by rfl, ?y6⟩) (by assumption) ?r6
  case y6 =>
    intro w' hSw
    try dsimp only at hSw
    go_simp
    try with_reducible rfl
  try simp only [Act.put, List.setIfInBounds_toArray, List.set_cons_zero, List.set_cons_succ]
  refine wpAnyH_take (i := 7) (v := ?v7) rfl (by kernel_rfl) (by kernel_rfl) (by kernel_rfl) (fun _ _ _ h => h) (Or.inl ⟨by rfl, ?y7⟩) (by assumption) ?r7
  case y7 =>
    intro w' hSw
    try dsimp only at hSw
    go_simp
    try with_reducible rfl
  try simp only [Act.put, List.setIfInBounds_toArray, List.set_cons_zero, List.set_cons_succ]
  refine wpAnyH_take (i := 11) (v := ?v11) rfl (by kernel_rfl) (by kernel_rfl) (by kernel_rfl) (fun _ _ _ h => h) (Or.inl ⟨by rfl, ?y11⟩) (by assumption) ?r11
  case y11 =>
    intro w' hSw
    try dsimp only at hSw
    go_simp
    try with_reducible rfl
  try simp only [Act.put, List.setIfInBounds_toArray, List.set_cons_zero, List.set_cons_succ]
  refine wpAnyH_take (i := 12) (v := ?v12) rfl (by kernel_rfl) (by kernel_rfl) (by kernel_rfl) (fun _ _ _ h => h) (Or.inl ⟨by rfl, ?y12⟩) (by assumption) ?r12
  case y12 =>
    intro w' hSw
    try dsimp only at hSw
    go_simp
    try with_reducible rfl
  try simp only [Act.put, List.setIfInBounds_toArray, List.set_cons_zero, List.set_cons_succ]
  refine wpAnyH_ready (rs := [0]) (by kernel_rfl) (by simp) ?_
  refine AllReadyH.cons rfl (fun K hK => ?_) AllReadyH.nil
  go_simp
  refine (L2.out _ (Below.drew (Below.refl _ _)) rfl).mono ?_
  rintro e w1 ⟨rfl, hb1, hword, hlt1⟩
  have hB1 : Hid (Below X.heap.size X w1) := hb1
  have hlt : Hid (X.heap.size < w1.heap.size) := hlt1
  have hK1 := HK.out w1 hb1
  refine hK.out _ _ hK1 (fun hHeld1 => ?_)
  clear hK K hHeld hHeld1 hb1 hlt1
  refine wpAnyH_mono (S' := (fun w' : World => w'.cell? ⟨X.heap.size, 4, none⟩ = some (.string ⟨#[97, 100, 100]⟩) ∧ w'.cell? ⟨w.heap.size, 0, none⟩ = some (.int .i64 4) ∧ w'.cell? ⟨w.heap.size, 1, none⟩ = some (.int .i64 a) ∧ w'.cell? ⟨w.heap.size, 2, none⟩ = some (.int .i64 b))) (fun _ h => h.2) _ _ _ _ ?_
  have hHeld : (fun w' : World => w'.cell? ⟨X.heap.size, 4, none⟩ = some (.string ⟨#[97, 100, 100]⟩) ∧ w'.cell? ⟨w.heap.size, 0, none⟩ = some (.int .i64 4) ∧ w'.cell? ⟨w.heap.size, 1, none⟩ = some (.int .i64 a) ∧ w'.cell? ⟨w.heap.size, 2, none⟩ = some (.int .i64 b)) w1 := ⟨hword, hK1⟩
  clear hword hK1
  refine wpAnyH_take (i := 3) (v := ?v3) rfl (by kernel_rfl) (by kernel_rfl) (by kernel_rfl) (fun _ _ _ h => h) (Or.inl ⟨by rfl, ?y3⟩) (by assumption) ?r3
  case y3 =>
    intro w' hSw
    try dsimp only at hSw
    go_simp
    try with_reducible rfl
  try simp only [Act.put, List.setIfInBounds_toArray, List.set_cons_zero, List.set_cons_succ]
  refine wpAnyH_take (i := 4) (v := ?v4) rfl (by kernel_rfl) (by kernel_rfl) (by kernel_rfl) (fun _ _ _ h => h) (Or.inl ⟨by rfl, ?y4⟩) (by assumption) ?r4
  case y4 =>
    intro w' hSw
    try dsimp only at hSw
    go_simp
    try with_reducible rfl
  try simp only [Act.put, List.setIfInBounds_toArray, List.set_cons_zero, List.set_cons_succ]
  refine wpAnyH_take (i := 5) (v := ?v5) rfl (by kernel_rfl) (by kernel_rfl) (by kernel_rfl) (fun _ _ _ h => h) (Or.inl ⟨by rfl, ?y5⟩) (by assumption) ?r5
  case y5 =>
    intro w' hSw
    try dsimp only at hSw
    go_simp
    try with_reducible rfl
  try simp only [Act.put, List.setIfInBounds_toArray, List.set_cons_zero, List.set_cons_succ]
  refine wpAnyH_ready (rs := [8]) (by kernel_rfl) (by simp) ?_
  refine AllReadyH.cons rfl (fun K hK => ?_) AllReadyH.nil
  go_simp
  refine (C1.out _).mono ?_
  rintro e w2 ⟨rfl, hb2⟩
  have hB12 : Hid (w1.heap.size ≤ w2.heap.size) := hb2.size
  have hB2 : Hid (Below X.heap.size X w2) := hB1.out.trans (hb2.mono hB1.out.size)
  have hw2 : w2.cell? ⟨X.heap.size, 4, none⟩ = some (.string ⟨#[97, 100, 100]⟩) := by rw [hb2.cell (p := ⟨X.heap.size, 4, none⟩) hlt.out]; exact hHeld.1
  refine hK.out _ _ ⟨hw2, HK.out w2 hB2.out⟩ (fun hHeld2 => ?_)
  clear hK K hHeld hb2 hw2
  refine wpAnyH_take (i := 9) (v := ?v9) rfl (by kernel_rfl) (by kernel_rfl) (by kernel_rfl) (fun _ _ _ h => h) (Or.inl ⟨by rfl, ?y9⟩) (by assumption) ?r9
  case y9 =>
    intro w' hSw
    try dsimp only at hSw
    go_simp
    try with_reducible rfl
  try simp only [Act.put, List.setIfInBounds_toArray, List.set_cons_zero, List.set_cons_succ]
  refine wpAnyH_take (i := 10) (v := ?v10) rfl (by kernel_rfl) (by kernel_rfl) (by kernel_rfl) (fun _ _ _ h => h) (Or.inl ⟨by rfl, ?y10⟩) (by assumption) ?r10
  case y10 =>
    intro w' hSw
    try dsimp only at hSw
    go_simp
    try with_reducible rfl
  try simp only [Act.put, List.setIfInBounds_toArray, List.set_cons_zero, List.set_cons_succ]
  refine wpAnyH_ready (rs := [13]) (by kernel_rfl) (by simp) ?_
  refine AllReadyH.cons rfl (fun K hK => ?_) AllReadyH.nil
  go_simp
  refine (C2.out _).mono ?_
  rintro e w3 ⟨rfl, hb3⟩
  have hB3 : Hid (Below X.heap.size X w3) := hB2.out.trans (hb3.mono hB2.out.size)
  have hw3 : w3.cell? ⟨X.heap.size, 4, none⟩ = some (.string ⟨#[97, 100, 100]⟩) := by rw [hb3.cell (p := ⟨X.heap.size, 4, none⟩) (Nat.lt_of_lt_of_le hlt.out (hB12.out))]; exact hHeld2.1
  refine hK.out _ _ ⟨hw3, HK.out w3 hB3.out⟩ (fun hHeld3 => ?_)
  clear hK K hHeld2 hb3 hw3
  refine wpAnyH_take (i := 14) (v := ?v14) rfl (by kernel_rfl) (by kernel_rfl) (by kernel_rfl) (fun _ _ _ h => h) (Or.inl ⟨by rfl, ?y14⟩) (by assumption) ?r14
  case y14 =>
    intro w' hSw
    try dsimp only at hSw
    go_simp
    try with_reducible rfl
  simp only [Act.put, List.getElem_toArray, List.getElem_cons_succ, List.getElem_cons_zero, List.setIfInBounds_toArray, List.set_cons_zero, List.set_cons_succ]
  refine wpAnyH_take (i := 15) (v := ?v15) rfl (by kernel_rfl) (by kernel_rfl) (by kernel_rfl) (fun _ _ _ h => h) (Or.inl ⟨by rfl, ?y15⟩) (by assumption) ?r15
  case y15 =>
    intro w' hSw
    try dsimp only at hSw
    go_simp
    try with_reducible rfl
  simp only [Act.put, List.getElem_toArray, List.getElem_cons_succ, List.getElem_cons_zero, List.setIfInBounds_toArray, List.set_cons_zero, List.set_cons_succ]
  refine wpAnyH_done (by kernel_rfl) ?_ _
  go_wp2
  go_ret
  refine ⟨ret_str ?_, hXb.out.trans (hB3.out.mono hXb.out.size)⟩
  apply str_eq
  simp only [list_append]
  rw [E1.out, E2.out, str_list, str_list]
  simp

set_option maxRecDepth 100000 in
set_option maxHeartbeats 4000000 in
theorem l2Text5 (a b n : Int) (fa : Fits a) (fb : Fits b) (w : World) :
    Calls Tryz.prog 25 #[.agg #[.int .i64 5, .int .i64 a, .int .i64 b, .int .i64 n]] w fun e w' => e = .returned (.string (str ([115, 117, 98] ++ (32 :: Lib.itoa a) ++ (32 :: Lib.itoa b)))) ∧ Below w.heap.size w w' := by
  obtain ⟨s1, e1⟩ : ∃ s, s = str (Lib.itoa a) := ⟨_, rfl⟩
  obtain ⟨s2, e2⟩ : ∃ s, s = str (Lib.itoa b) := ⟨_, rfl⟩
  have z1 : s1.size ≤ 21 := by rw [e1, str_size]; exact itoa_len a fa
  have z2 : s2.size ≤ 21 := by rw [e2, str_size]; exact itoa_len b fb
  have E1 : Hid (s1 = str (Lib.itoa a)) := e1
  have E2 : Hid (s2 = str (Lib.itoa b)) := e2
  clear e1 e2
  have C1 : Hid (∀ W : World, Calls Tryz.prog 48 #[.int .i64 a] W fun e w' => e = .returned (.string s1) ∧ Below W.heap.size W w') := by
    intro W; rw [E1.out]; exact l15Dec a W fa.1 fa.2
  have C2 : Hid (∀ W : World, Calls Tryz.prog 48 #[.int .i64 b] W fun e w' => e = .returned (.string s2) ∧ Below W.heap.size W w') := by
    intro W; rw [E2.out]; exact l15Dec b W fb.1 fb.2
  obtain ⟨X, hX⟩ : ∃ X, X = w.alloc (.cells #[.int .i64 5, .int .i64 a, .int .i64 b, .int .i64 n] 41) := ⟨_, rfl⟩
  have hX0 : Hid (X.heap[w.heap.size]? = some (.cells #[.int .i64 5, .int .i64 a, .int .i64 b, .int .i64 n] 41)) := by show _ = _; rw [hX]; exact heap_new _ _
  have hXs : Hid (w.heap.size < X.heap.size) := by show _ < _; rw [hX, size_new]; omega
  have hXb : Hid (Below w.heap.size w X) := by show Below _ _ _; rw [hX]; exact (Below.refl _ _).alloc (Nat.le_refl _) _
  have HX : Hid (X = w.alloc (.cells #[.int .i64 5, .int .i64 a, .int .i64 b, .int .i64 n] 41)) := hX
  have HK : Hid (∀ W : World, Below X.heap.size X W → W.cell? ⟨w.heap.size, 0, none⟩ = some (.int .i64 5) ∧ W.cell? ⟨w.heap.size, 1, none⟩ = some (.int .i64 a) ∧ W.cell? ⟨w.heap.size, 2, none⟩ = some (.int .i64 b)) := by
    intro W h
    have e : W.heap[w.heap.size]? = _ := (h.block _ hXs.out).trans hX0.out
    exact ⟨by rw [cell_heap e]; rfl, by rw [cell_heap e]; rfl, by rw [cell_heap e]; rfl⟩
  have L2 : Hid (∀ W : World, Below X.heap.size X W → W.heap.size = X.heap.size → Calls Tryz.prog 47 #[] W fun e w' => e = .returned (.slice (some ⟨X.heap.size, 0, none⟩) 8 8) ∧ Below X.heap.size X w' ∧ w'.cell? ⟨X.heap.size, 5, none⟩ = some (.string ⟨#[115, 117, 98]⟩) ∧ X.heap.size < w'.heap.size) := by
    intro W hW hs
    refine (l2WordsC W).mono ?_
    rintro e w' ⟨rfl, rfl⟩
    rw [← hs]
    exact ⟨rfl, by rw [hs]; exact hW.alloc hW.size _, by rw [cell_heap (heap_new _ _)]; rfl, by rw [size_new]; omega⟩
  clear hX
  have n1 : ¬ 9223372036854775807 < 4 + s1.size := by omega
  have n2 : ¬ 9223372036854775807 < 4 + s1.size + 1 := by omega
  have n3 : ¬ 9223372036854775807 < 4 + s1.size + 1 + s2.size := by omega
  go_enter Tryz.func25, Tryz.ntmps25
  go_wp2_with fail
  rw [← HX.out]
  refine wp_region_held_drew (S := (fun w' : World => w'.cell? ⟨w.heap.size, 0, none⟩ = some (.int .i64 5) ∧ w'.cell? ⟨w.heap.size, 1, none⟩ = some (.int .i64 a) ∧ w'.cell? ⟨w.heap.size, 2, none⟩ = some (.int .i64 b))) (by kernel_rfl) (HK.out X.drew (Below.drew (Below.refl _ _))) (fun hHeld => ?_)
  refine wpAnyH_take (i := 1) (v := ?v1) rfl (by kernel_rfl) (by kernel_rfl) (by kernel_rfl) (fun _ _ _ h => h) (Or.inl ⟨by rfl, ?y1⟩) (by assumption) ?r1
  case y1 =>
    intro w' hSw
    try dsimp only at hSw
    go_simp
    try with_reducible rfl
  try simp only [Act.put, List.setIfInBounds_toArray, List.set_cons_zero, List.set_cons_succ]
  refine wpAnyH_take (i := 2) (v := ?v2) rfl (by kernel_rfl) (by kernel_rfl) (by kernel_rfl) (fun _ _ _ h => h) (Or.inl ⟨by rfl, ?y2⟩) (by assumption) ?r2
  case y2 =>
    intro w' hSw
    try dsimp only at hSw
    go_simp
    try with_reducible rfl
  try simp only [Act.put, List.setIfInBounds_toArray, List.set_cons_zero, List.set_cons_succ]
  refine wpAnyH_take (i := 6) (v := ?v6) rfl (by kernel_rfl) (by kernel_rfl) (by kernel_rfl) (fun _ _ _ h => h) (Or.inl ⟨by rfl, ?y6⟩) (by assumption) ?r6
  case y6 =>
    intro w' hSw
    try dsimp only at hSw
    go_simp
    try with_reducible rfl
  try simp only [Act.put, List.setIfInBounds_toArray, List.set_cons_zero, List.set_cons_succ]
  refine wpAnyH_take (i := 7) (v := ?v7) rfl (by kernel_rfl) (by kernel_rfl) (by kernel_rfl) (fun _ _ _ h => h) (Or.inl ⟨by rfl, ?y7⟩) (by assumption) ?r7
  case y7 =>
    intro w' hSw
    try dsimp only at hSw
    go_simp
    try with_reducible rfl
  try simp only [Act.put, List.setIfInBounds_toArray, List.set_cons_zero, List.set_cons_succ]
  refine wpAnyH_take (i := 11) (v := ?v11) rfl (by kernel_rfl) (by kernel_rfl) (by kernel_rfl) (fun _ _ _ h => h) (Or.inl ⟨by rfl, ?y11⟩) (by assumption) ?r11
  case y11 =>
    intro w' hSw
    try dsimp only at hSw
    go_simp
    try with_reducible rfl
  try simp only [Act.put, List.setIfInBounds_toArray, List.set_cons_zero, List.set_cons_succ]
  refine wpAnyH_take (i := 12) (v := ?v12) rfl (by kernel_rfl) (by kernel_rfl) (by kernel_rfl) (fun _ _ _ h => h) (Or.inl ⟨by rfl, ?y12⟩) (by assumption) ?r12
  case y12 =>
    intro w' hSw
    try dsimp only at hSw
    go_simp
    try with_reducible rfl
  try simp only [Act.put, List.setIfInBounds_toArray, List.set_cons_zero, List.set_cons_succ]
  refine wpAnyH_ready (rs := [0]) (by kernel_rfl) (by simp) ?_
  refine AllReadyH.cons rfl (fun K hK => ?_) AllReadyH.nil
  go_simp
  refine (L2.out _ (Below.drew (Below.refl _ _)) rfl).mono ?_
  rintro e w1 ⟨rfl, hb1, hword, hlt1⟩
  have hB1 : Hid (Below X.heap.size X w1) := hb1
  have hlt : Hid (X.heap.size < w1.heap.size) := hlt1
  have hK1 := HK.out w1 hb1
  refine hK.out _ _ hK1 (fun hHeld1 => ?_)
  clear hK K hHeld hHeld1 hb1 hlt1
  refine wpAnyH_mono (S' := (fun w' : World => w'.cell? ⟨X.heap.size, 5, none⟩ = some (.string ⟨#[115, 117, 98]⟩) ∧ w'.cell? ⟨w.heap.size, 0, none⟩ = some (.int .i64 5) ∧ w'.cell? ⟨w.heap.size, 1, none⟩ = some (.int .i64 a) ∧ w'.cell? ⟨w.heap.size, 2, none⟩ = some (.int .i64 b))) (fun _ h => h.2) _ _ _ _ ?_
  have hHeld : (fun w' : World => w'.cell? ⟨X.heap.size, 5, none⟩ = some (.string ⟨#[115, 117, 98]⟩) ∧ w'.cell? ⟨w.heap.size, 0, none⟩ = some (.int .i64 5) ∧ w'.cell? ⟨w.heap.size, 1, none⟩ = some (.int .i64 a) ∧ w'.cell? ⟨w.heap.size, 2, none⟩ = some (.int .i64 b)) w1 := ⟨hword, hK1⟩
  clear hword hK1
  refine wpAnyH_take (i := 3) (v := ?v3) rfl (by kernel_rfl) (by kernel_rfl) (by kernel_rfl) (fun _ _ _ h => h) (Or.inl ⟨by rfl, ?y3⟩) (by assumption) ?r3
  case y3 =>
    intro w' hSw
    try dsimp only at hSw
    go_simp
    try with_reducible rfl
  try simp only [Act.put, List.setIfInBounds_toArray, List.set_cons_zero, List.set_cons_succ]
  refine wpAnyH_take (i := 4) (v := ?v4) rfl (by kernel_rfl) (by kernel_rfl) (by kernel_rfl) (fun _ _ _ h => h) (Or.inl ⟨by rfl, ?y4⟩) (by assumption) ?r4
  case y4 =>
    intro w' hSw
    try dsimp only at hSw
    go_simp
    try with_reducible rfl
  try simp only [Act.put, List.setIfInBounds_toArray, List.set_cons_zero, List.set_cons_succ]
  refine wpAnyH_take (i := 5) (v := ?v5) rfl (by kernel_rfl) (by kernel_rfl) (by kernel_rfl) (fun _ _ _ h => h) (Or.inl ⟨by rfl, ?y5⟩) (by assumption) ?r5
  case y5 =>
    intro w' hSw
    try dsimp only at hSw
    go_simp
    try with_reducible rfl
  try simp only [Act.put, List.setIfInBounds_toArray, List.set_cons_zero, List.set_cons_succ]
  refine wpAnyH_ready (rs := [8]) (by kernel_rfl) (by simp) ?_
  refine AllReadyH.cons rfl (fun K hK => ?_) AllReadyH.nil
  go_simp
  refine (C1.out _).mono ?_
  rintro e w2 ⟨rfl, hb2⟩
  have hB12 : Hid (w1.heap.size ≤ w2.heap.size) := hb2.size
  have hB2 : Hid (Below X.heap.size X w2) := hB1.out.trans (hb2.mono hB1.out.size)
  have hw2 : w2.cell? ⟨X.heap.size, 5, none⟩ = some (.string ⟨#[115, 117, 98]⟩) := by rw [hb2.cell (p := ⟨X.heap.size, 5, none⟩) hlt.out]; exact hHeld.1
  refine hK.out _ _ ⟨hw2, HK.out w2 hB2.out⟩ (fun hHeld2 => ?_)
  clear hK K hHeld hb2 hw2
  refine wpAnyH_take (i := 9) (v := ?v9) rfl (by kernel_rfl) (by kernel_rfl) (by kernel_rfl) (fun _ _ _ h => h) (Or.inl ⟨by rfl, ?y9⟩) (by assumption) ?r9
  case y9 =>
    intro w' hSw
    try dsimp only at hSw
    go_simp
    try with_reducible rfl
  try simp only [Act.put, List.setIfInBounds_toArray, List.set_cons_zero, List.set_cons_succ]
  refine wpAnyH_take (i := 10) (v := ?v10) rfl (by kernel_rfl) (by kernel_rfl) (by kernel_rfl) (fun _ _ _ h => h) (Or.inl ⟨by rfl, ?y10⟩) (by assumption) ?r10
  case y10 =>
    intro w' hSw
    try dsimp only at hSw
    go_simp
    try with_reducible rfl
  try simp only [Act.put, List.setIfInBounds_toArray, List.set_cons_zero, List.set_cons_succ]
  refine wpAnyH_ready (rs := [13]) (by kernel_rfl) (by simp) ?_
  refine AllReadyH.cons rfl (fun K hK => ?_) AllReadyH.nil
  go_simp
  refine (C2.out _).mono ?_
  rintro e w3 ⟨rfl, hb3⟩
  have hB3 : Hid (Below X.heap.size X w3) := hB2.out.trans (hb3.mono hB2.out.size)
  have hw3 : w3.cell? ⟨X.heap.size, 5, none⟩ = some (.string ⟨#[115, 117, 98]⟩) := by rw [hb3.cell (p := ⟨X.heap.size, 5, none⟩) (Nat.lt_of_lt_of_le hlt.out (hB12.out))]; exact hHeld2.1
  refine hK.out _ _ ⟨hw3, HK.out w3 hB3.out⟩ (fun hHeld3 => ?_)
  clear hK K hHeld2 hb3 hw3
  refine wpAnyH_take (i := 14) (v := ?v14) rfl (by kernel_rfl) (by kernel_rfl) (by kernel_rfl) (fun _ _ _ h => h) (Or.inl ⟨by rfl, ?y14⟩) (by assumption) ?r14
  case y14 =>
    intro w' hSw
    try dsimp only at hSw
    go_simp
    try with_reducible rfl
  simp only [Act.put, List.getElem_toArray, List.getElem_cons_succ, List.getElem_cons_zero, List.setIfInBounds_toArray, List.set_cons_zero, List.set_cons_succ]
  refine wpAnyH_take (i := 15) (v := ?v15) rfl (by kernel_rfl) (by kernel_rfl) (by kernel_rfl) (fun _ _ _ h => h) (Or.inl ⟨by rfl, ?y15⟩) (by assumption) ?r15
  case y15 =>
    intro w' hSw
    try dsimp only at hSw
    go_simp
    try with_reducible rfl
  simp only [Act.put, List.getElem_toArray, List.getElem_cons_succ, List.getElem_cons_zero, List.setIfInBounds_toArray, List.set_cons_zero, List.set_cons_succ]
  refine wpAnyH_done (by kernel_rfl) ?_ _
  go_wp2
  go_ret
  refine ⟨ret_str ?_, hXb.out.trans (hB3.out.mono hXb.out.size)⟩
  apply str_eq
  simp only [list_append]
  rw [E1.out, E2.out, str_list, str_list]
  simp

end Go.Proofs.YtbcnmmofccackaaGreatDoor.Own
