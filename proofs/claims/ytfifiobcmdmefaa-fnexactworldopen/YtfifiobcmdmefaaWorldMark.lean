/-
  Own text, by program (gen_worldmark.py): the three nodes of a new world, marked.
-/
import Derived.Test.YtfifiobcmdmefaaWorldMem
namespace Go.Proofs.Ytfifiobcmdmefaa.Own
open Go.RowKit
set_option linter.unusedVariables false
set_option linter.unusedSimpArgs false

/-- A node that was marked from k on. -/
def mN (k : Int) : List Value := [.int .i64 (k), .int .i64 (k + 1), .slice none 0 0, .slice none 0 0, .int .i64 (k + 1 + 1), .int .i64 (k + 1 + 1 + 1), .int .i64 (k + 1 + 1 + 1 + 1), .slice none 0 0, .slice none 0 0, .bool ((k + 1 + 1 + 1 + 1 + 1) % 3 == 0), .int .i64 (k + 1 + 1 + 1 + 1 + 1 + 1), .int .i64 (k + 1 + 1 + 1 + 1 + 1 + 1 + 1), .slice none 0 0, .slice none 0 0, .int .i64 (k + 1 + 1 + 1 + 1 + 1 + 1 + 1 + 1), .int .i64 (k + 1 + 1 + 1 + 1 + 1 + 1 + 1 + 1 + 1), .slice none 0 0, .bool ((k + 1 + 1 + 1 + 1 + 1 + 1 + 1 + 1 + 1 + 1) % 3 == 0), .slice none 0 0, .bool ((k + 1 + 1 + 1 + 1 + 1 + 1 + 1 + 1 + 1 + 1 + 1) % 3 == 0), .int .i64 (k + 1 + 1 + 1 + 1 + 1 + 1 + 1 + 1 + 1 + 1 + 1 + 1), .int .i64 (k + 1 + 1 + 1 + 1 + 1 + 1 + 1 + 1 + 1 + 1 + 1 + 1 + 1), .slice none 0 0, .slice none 0 0, .int .i64 (k + 1 + 1 + 1 + 1 + 1 + 1 + 1 + 1 + 1 + 1 + 1 + 1 + 1 + 1), .int .i64 (k + 1 + 1 + 1 + 1 + 1 + 1 + 1 + 1 + 1 + 1 + 1 + 1 + 1 + 1 + 1), .slice none 0 0]
/-- Marked nodes, the first n of three. -/
def MixN (n : Nat) (L : List (List Value)) : Prop := L.length = 3 ∧ ∀ j : Nat, j < 3 → L.getD j [] = if j < n then mN (1 + 16 * (j : Int)) else nZ (j : Int)
theorem mix0 : MixN 0 zL := ⟨rfl, fun j hj => by
  match j, hj with
  | 0, _ => rfl
  | 1, _ => rfl
  | 2, _ => rfl⟩

set_option maxRecDepth 100000 in
set_option maxHeartbeats 16000000 in
theorem markNodeS3 (g cap : Nat) (w : World) (h : NS w g zL) (hc : 3 ≤ cap) :
    Calls Try.prog 72 #[.slice (some ⟨g, 0, none⟩) 3 cap, .int .i64 1] w fun e w' => e = .returned (.int .i64 49) ∧ (∃ L, NS w' g L ∧ MixN 3 L) ∧ Only g w w' := by
  have H : Hid (NS w g zL) := h
  clear h
  go_enter Try.func72, Try.ntmps72
  go_wp2_with fail
  go_loopw [1, 5] (fun q i wr => ∃ (n : Nat) (k : Int) (L : List (List Value)), n ≤ 3 ∧ i = .int .i64 n ∧ q = .int .i64 k ∧ Hid (k = 1 + 16 * (n : Int)) ∧ Hid (NS wr g L ∧ MixN n L ∧ Only g w wr)) (fun _ i _ => 3 - (intOf i).toNat)
  case atStart => exact ⟨0, 1, zL, by omega, rfl, rfl, rfl, H.out, mix0, Only.refl _ _⟩
  case round =>
    obtain ⟨n, k, L0, hn, rfl, rfl, HK, HN⟩ := hrel
    by_cases hlt : n < 3
    · have hni : (n : Int) < 3 := by omega
      have kb : 1 ≤ k ∧ k ≤ 33 := by have := HK.out; omega
      obtain ⟨kb1, kb2⟩ := kb
      have A0 : Hid (NS wr g L0 ∧ L0.length = 3 ∧ L0.getD n [] = [.int .i64 n, .int .i64 0, .slice none 0 0, .slice none 0 0, .int .i64 0, .int .i64 0, .int .i64 0, .slice none 0 0, .slice none 0 0, .bool false, .int .i64 0, .int .i64 0, .slice none 0 0, .slice none 0 0, .int .i64 0, .int .i64 0, .slice none 0 0, .bool false, .slice none 0 0, .bool false, .int .i64 0, .int .i64 0, .slice none 0 0, .slice none 0 0, .int .i64 0, .int .i64 0, .slice none 0 0] ∧ ∀ j : Nat, j < 3 → j ≠ n → L0.getD j [] = if j < n then mN (1 + 16 * (j : Int)) else nZ (j : Int)) := by
        obtain ⟨a1, ⟨a2, a3⟩, _⟩ := HN.out
        refine ⟨a1, a2, ?_, fun j hj _ => a3 j hj⟩
        rw [a3 n hlt, if_neg (Nat.lt_irrefl _)]; rfl
      have OO : Hid (Only g w wr) := HN.out.2.2
      clear HN
      have c0 : wr.cell? ⟨g, n * 27, none⟩ = some (.int .i64 n) := by have := A0.out.1.cell n (by rw [A0.out.2.1]; exact hlt) 0 (by decide); rw [A0.out.2.2.1] at this; exact this
      have c1 : wr.cell? ⟨g, n * 27 + 1, none⟩ = some (.int .i64 0) := by have := A0.out.1.cell n (by rw [A0.out.2.1]; exact hlt) 1 (by decide); rw [A0.out.2.2.1] at this; exact this
      have c2 : wr.cell? ⟨g, n * 27 + 2, none⟩ = some (.slice none 0 0) := by have := A0.out.1.cell n (by rw [A0.out.2.1]; exact hlt) 2 (by decide); rw [A0.out.2.2.1] at this; exact this
      have c3 : wr.cell? ⟨g, n * 27 + 3, none⟩ = some (.slice none 0 0) := by have := A0.out.1.cell n (by rw [A0.out.2.1]; exact hlt) 3 (by decide); rw [A0.out.2.2.1] at this; exact this
      have fr : ∀ o, wr.frozen? ⟨g, o, none⟩ = false := A0.out.1.fr
      go_wp2_with fail
      refine Calls.mono (markVoteS0w (k + 1 + 1) _) ?_
      rintro e _ ⟨rfl, rfl⟩
      go_wp2_with fail
      refine Calls.mono (markEntryS0w (k + 1 + 1) _) ?_
      rintro e _ ⟨rfl, rfl⟩
      have SE : Hid (put wr g (n * 27) [(0, .int .i64 (k)), (1, .int .i64 (k + 1))] = ((wr.setCell ⟨g, n * 27, none⟩ (.int .i64 (k))).setCell ⟨g, n * 27 + 1, none⟩ (.int .i64 (k + 1)))) := rfl
      obtain ⟨u1, hU⟩ : ∃ u, u = put wr g (n * 27) [(0, .int .i64 (k)), (1, .int .i64 (k + 1))] := ⟨_, rfl⟩
      obtain ⟨L1, hL⟩ : ∃ l, l = L0.set n (putL (L0.getD n []) [(0, .int .i64 (k)), (1, .int .i64 (k + 1))]) := ⟨_, rfl⟩
      have hL0 : n < L0.length := by rw [A0.out.2.1]; exact hlt
      have A1 : Hid (NS u1 g L1 ∧ L1.length = 3 ∧ L1.getD n [] = [.int .i64 (k), .int .i64 (k + 1), .slice none 0 0, .slice none 0 0, .int .i64 0, .int .i64 0, .int .i64 0, .slice none 0 0, .slice none 0 0, .bool false, .int .i64 0, .int .i64 0, .slice none 0 0, .slice none 0 0, .int .i64 0, .int .i64 0, .slice none 0 0, .bool false, .slice none 0 0, .bool false, .int .i64 0, .int .i64 0, .slice none 0 0, .slice none 0 0, .int .i64 0, .int .i64 0, .slice none 0 0] ∧ ∀ j : Nat, j < 3 → j ≠ n → L1.getD j [] = if j < n then mN (1 + 16 * (j : Int)) else nZ (j : Int)) := by
        refine ⟨by rw [hU, hL]; exact A0.out.1.put n hL0 _ (by simp), by rw [hL, List.length_set]; exact A0.out.2.1, by rw [hL, getD_setL _ _ _ _ hL0, if_pos rfl, A0.out.2.2.1]; rfl, fun j hj hjn => by rw [hL, getD_setL _ _ _ _ hL0, if_neg (fun h => hjn h.symm)]; exact A0.out.2.2.2 j hj hjn⟩
      have OO : Hid (Only g w u1) := by show Only _ _ _; rw [hU]; exact put_only _ _ _ _ _ OO.out
      rw [← SE.out, ← hU]
      clear SE hU hL hL0 A0 fr c0 c1 c2 c3
      obtain ⟨k1, hk⟩ : ∃ x, x = k + 1 + 1 := ⟨_, rfl⟩
      have Hk1 : Hid (k1 = k + 1 + 1) := hk
      rw [← hk]
      have bk1 : 1 ≤ k1 ∧ k1 ≤ 38 := by omega
      obtain ⟨bk1l, bk1h⟩ := bk1
      clear hk
      have c4 : u1.cell? ⟨g, n * 27 + 4, none⟩ = some (.int .i64 0) := by have := A1.out.1.cell n (by rw [A1.out.2.1]; exact hlt) 4 (by decide); rw [A1.out.2.2.1] at this; exact this
      have c5 : u1.cell? ⟨g, n * 27 + 5, none⟩ = some (.int .i64 0) := by have := A1.out.1.cell n (by rw [A1.out.2.1]; exact hlt) 5 (by decide); rw [A1.out.2.2.1] at this; exact this
      have c6 : u1.cell? ⟨g, n * 27 + 6, none⟩ = some (.int .i64 0) := by have := A1.out.1.cell n (by rw [A1.out.2.1]; exact hlt) 6 (by decide); rw [A1.out.2.2.1] at this; exact this
      have c7 : u1.cell? ⟨g, n * 27 + 7, none⟩ = some (.slice none 0 0) := by have := A1.out.1.cell n (by rw [A1.out.2.1]; exact hlt) 7 (by decide); rw [A1.out.2.2.1] at this; exact this
      have c8 : u1.cell? ⟨g, n * 27 + 8, none⟩ = some (.slice none 0 0) := by have := A1.out.1.cell n (by rw [A1.out.2.1]; exact hlt) 8 (by decide); rw [A1.out.2.2.1] at this; exact this
      have fr : ∀ o, u1.frozen? ⟨g, o, none⟩ = false := A1.out.1.fr
      go_wp2_with fail
      refine Calls.mono (markBoolS0w (k1 + 1 + 1 + 1) _) ?_
      rintro e _ ⟨rfl, rfl⟩
      go_wp2_with fail
      refine Calls.mono (markVoteS0w (k1 + 1 + 1 + 1) _) ?_
      rintro e _ ⟨rfl, rfl⟩
      have SE : Hid (put u1 g (n * 27) [(4, .int .i64 (k1)), (5, .int .i64 (k1 + 1)), (6, .int .i64 (k1 + 1 + 1))] = (((u1.setCell ⟨g, n * 27 + 4, none⟩ (.int .i64 (k1))).setCell ⟨g, n * 27 + 5, none⟩ (.int .i64 (k1 + 1))).setCell ⟨g, n * 27 + 6, none⟩ (.int .i64 (k1 + 1 + 1)))) := rfl
      obtain ⟨u2, hU⟩ : ∃ u, u = put u1 g (n * 27) [(4, .int .i64 (k1)), (5, .int .i64 (k1 + 1)), (6, .int .i64 (k1 + 1 + 1))] := ⟨_, rfl⟩
      obtain ⟨L2, hL⟩ : ∃ l, l = L1.set n (putL (L1.getD n []) [(4, .int .i64 (k1)), (5, .int .i64 (k1 + 1)), (6, .int .i64 (k1 + 1 + 1))]) := ⟨_, rfl⟩
      have hL0 : n < L1.length := by rw [A1.out.2.1]; exact hlt
      have A2 : Hid (NS u2 g L2 ∧ L2.length = 3 ∧ L2.getD n [] = [.int .i64 (k), .int .i64 (k + 1), .slice none 0 0, .slice none 0 0, .int .i64 (k1), .int .i64 (k1 + 1), .int .i64 (k1 + 1 + 1), .slice none 0 0, .slice none 0 0, .bool false, .int .i64 0, .int .i64 0, .slice none 0 0, .slice none 0 0, .int .i64 0, .int .i64 0, .slice none 0 0, .bool false, .slice none 0 0, .bool false, .int .i64 0, .int .i64 0, .slice none 0 0, .slice none 0 0, .int .i64 0, .int .i64 0, .slice none 0 0] ∧ ∀ j : Nat, j < 3 → j ≠ n → L2.getD j [] = if j < n then mN (1 + 16 * (j : Int)) else nZ (j : Int)) := by
        refine ⟨by rw [hU, hL]; exact A1.out.1.put n hL0 _ (by simp), by rw [hL, List.length_set]; exact A1.out.2.1, by rw [hL, getD_setL _ _ _ _ hL0, if_pos rfl, A1.out.2.2.1]; rfl, fun j hj hjn => by rw [hL, getD_setL _ _ _ _ hL0, if_neg (fun h => hjn h.symm)]; exact A1.out.2.2.2 j hj hjn⟩
      have OO : Hid (Only g w u2) := by show Only _ _ _; rw [hU]; exact put_only _ _ _ _ _ OO.out
      rw [← SE.out, ← hU]
      clear SE hU hL hL0 A1 fr c4 c5 c6 c7 c8
      obtain ⟨k2, hk⟩ : ∃ x, x = k1 + 1 + 1 + 1 := ⟨_, rfl⟩
      have Hk2 : Hid (k2 = k1 + 1 + 1 + 1) := hk
      rw [← hk]
      have bk2 : 1 ≤ k2 ∧ k2 ≤ 42 := by omega
      obtain ⟨bk2l, bk2h⟩ := bk2
      clear hk
      have c9 : u2.cell? ⟨g, n * 27 + 9, none⟩ = some (.bool false) := by have := A2.out.1.cell n (by rw [A2.out.2.1]; exact hlt) 9 (by decide); rw [A2.out.2.2.1] at this; exact this
      have c10 : u2.cell? ⟨g, n * 27 + 10, none⟩ = some (.int .i64 0) := by have := A2.out.1.cell n (by rw [A2.out.2.1]; exact hlt) 10 (by decide); rw [A2.out.2.2.1] at this; exact this
      have c11 : u2.cell? ⟨g, n * 27 + 11, none⟩ = some (.int .i64 0) := by have := A2.out.1.cell n (by rw [A2.out.2.1]; exact hlt) 11 (by decide); rw [A2.out.2.2.1] at this; exact this
      have c12 : u2.cell? ⟨g, n * 27 + 12, none⟩ = some (.slice none 0 0) := by have := A2.out.1.cell n (by rw [A2.out.2.1]; exact hlt) 12 (by decide); rw [A2.out.2.2.1] at this; exact this
      have c13 : u2.cell? ⟨g, n * 27 + 13, none⟩ = some (.slice none 0 0) := by have := A2.out.1.cell n (by rw [A2.out.2.1]; exact hlt) 13 (by decide); rw [A2.out.2.2.1] at this; exact this
      have fr : ∀ o, u2.frozen? ⟨g, o, none⟩ = false := A2.out.1.fr
      go_wp2_with fail
      refine Calls.mono (markReadS0w (k2 + 1 + 1 + 1) _) ?_
      rintro e _ ⟨rfl, rfl⟩
      go_wp2_with fail
      refine Calls.mono (markPutS0w (k2 + 1 + 1 + 1) _) ?_
      rintro e _ ⟨rfl, rfl⟩
      have SE : Hid (put u2 g (n * 27) [(9, .bool ((k2) % 3 == 0)), (10, .int .i64 (k2 + 1)), (11, .int .i64 (k2 + 1 + 1))] = (((u2.setCell ⟨g, n * 27 + 9, none⟩ (.bool ((k2) % 3 == 0))).setCell ⟨g, n * 27 + 10, none⟩ (.int .i64 (k2 + 1))).setCell ⟨g, n * 27 + 11, none⟩ (.int .i64 (k2 + 1 + 1)))) := rfl
      obtain ⟨u3, hU⟩ : ∃ u, u = put u2 g (n * 27) [(9, .bool ((k2) % 3 == 0)), (10, .int .i64 (k2 + 1)), (11, .int .i64 (k2 + 1 + 1))] := ⟨_, rfl⟩
      obtain ⟨L3, hL⟩ : ∃ l, l = L2.set n (putL (L2.getD n []) [(9, .bool ((k2) % 3 == 0)), (10, .int .i64 (k2 + 1)), (11, .int .i64 (k2 + 1 + 1))]) := ⟨_, rfl⟩
      have hL0 : n < L2.length := by rw [A2.out.2.1]; exact hlt
      have A3 : Hid (NS u3 g L3 ∧ L3.length = 3 ∧ L3.getD n [] = [.int .i64 (k), .int .i64 (k + 1), .slice none 0 0, .slice none 0 0, .int .i64 (k1), .int .i64 (k1 + 1), .int .i64 (k1 + 1 + 1), .slice none 0 0, .slice none 0 0, .bool ((k2) % 3 == 0), .int .i64 (k2 + 1), .int .i64 (k2 + 1 + 1), .slice none 0 0, .slice none 0 0, .int .i64 0, .int .i64 0, .slice none 0 0, .bool false, .slice none 0 0, .bool false, .int .i64 0, .int .i64 0, .slice none 0 0, .slice none 0 0, .int .i64 0, .int .i64 0, .slice none 0 0] ∧ ∀ j : Nat, j < 3 → j ≠ n → L3.getD j [] = if j < n then mN (1 + 16 * (j : Int)) else nZ (j : Int)) := by
        refine ⟨by rw [hU, hL]; exact A2.out.1.put n hL0 _ (by simp), by rw [hL, List.length_set]; exact A2.out.2.1, by rw [hL, getD_setL _ _ _ _ hL0, if_pos rfl, A2.out.2.2.1]; rfl, fun j hj hjn => by rw [hL, getD_setL _ _ _ _ hL0, if_neg (fun h => hjn h.symm)]; exact A2.out.2.2.2 j hj hjn⟩
      have OO : Hid (Only g w u3) := by show Only _ _ _; rw [hU]; exact put_only _ _ _ _ _ OO.out
      rw [← SE.out, ← hU]
      clear SE hU hL hL0 A2 fr c9 c10 c11 c12 c13
      obtain ⟨k3, hk⟩ : ∃ x, x = k2 + 1 + 1 + 1 := ⟨_, rfl⟩
      have Hk3 : Hid (k3 = k2 + 1 + 1 + 1) := hk
      rw [← hk]
      have bk3 : 1 ≤ k3 ∧ k3 ≤ 46 := by omega
      obtain ⟨bk3l, bk3h⟩ := bk3
      clear hk
      have c14 : u3.cell? ⟨g, n * 27 + 14, none⟩ = some (.int .i64 0) := by have := A3.out.1.cell n (by rw [A3.out.2.1]; exact hlt) 14 (by decide); rw [A3.out.2.2.1] at this; exact this
      have c15 : u3.cell? ⟨g, n * 27 + 15, none⟩ = some (.int .i64 0) := by have := A3.out.1.cell n (by rw [A3.out.2.1]; exact hlt) 15 (by decide); rw [A3.out.2.2.1] at this; exact this
      have c16 : u3.cell? ⟨g, n * 27 + 16, none⟩ = some (.slice none 0 0) := by have := A3.out.1.cell n (by rw [A3.out.2.1]; exact hlt) 16 (by decide); rw [A3.out.2.2.1] at this; exact this
      have fr : ∀ o, u3.frozen? ⟨g, o, none⟩ = false := A3.out.1.fr
      go_wp2_with fail
      refine Calls.mono (markBoolS0w (k3 + 1 + 1) _) ?_
      rintro e _ ⟨rfl, rfl⟩
      have SE : Hid (put u3 g (n * 27) [(14, .int .i64 (k3)), (15, .int .i64 (k3 + 1))] = ((u3.setCell ⟨g, n * 27 + 14, none⟩ (.int .i64 (k3))).setCell ⟨g, n * 27 + 15, none⟩ (.int .i64 (k3 + 1)))) := rfl
      obtain ⟨u4, hU⟩ : ∃ u, u = put u3 g (n * 27) [(14, .int .i64 (k3)), (15, .int .i64 (k3 + 1))] := ⟨_, rfl⟩
      obtain ⟨L4, hL⟩ : ∃ l, l = L3.set n (putL (L3.getD n []) [(14, .int .i64 (k3)), (15, .int .i64 (k3 + 1))]) := ⟨_, rfl⟩
      have hL0 : n < L3.length := by rw [A3.out.2.1]; exact hlt
      have A4 : Hid (NS u4 g L4 ∧ L4.length = 3 ∧ L4.getD n [] = [.int .i64 (k), .int .i64 (k + 1), .slice none 0 0, .slice none 0 0, .int .i64 (k1), .int .i64 (k1 + 1), .int .i64 (k1 + 1 + 1), .slice none 0 0, .slice none 0 0, .bool ((k2) % 3 == 0), .int .i64 (k2 + 1), .int .i64 (k2 + 1 + 1), .slice none 0 0, .slice none 0 0, .int .i64 (k3), .int .i64 (k3 + 1), .slice none 0 0, .bool false, .slice none 0 0, .bool false, .int .i64 0, .int .i64 0, .slice none 0 0, .slice none 0 0, .int .i64 0, .int .i64 0, .slice none 0 0] ∧ ∀ j : Nat, j < 3 → j ≠ n → L4.getD j [] = if j < n then mN (1 + 16 * (j : Int)) else nZ (j : Int)) := by
        refine ⟨by rw [hU, hL]; exact A3.out.1.put n hL0 _ (by simp), by rw [hL, List.length_set]; exact A3.out.2.1, by rw [hL, getD_setL _ _ _ _ hL0, if_pos rfl, A3.out.2.2.1]; rfl, fun j hj hjn => by rw [hL, getD_setL _ _ _ _ hL0, if_neg (fun h => hjn h.symm)]; exact A3.out.2.2.2 j hj hjn⟩
      have OO : Hid (Only g w u4) := by show Only _ _ _; rw [hU]; exact put_only _ _ _ _ _ OO.out
      rw [← SE.out, ← hU]
      clear SE hU hL hL0 A3 fr c14 c15 c16
      obtain ⟨k4, hk⟩ : ∃ x, x = k3 + 1 + 1 := ⟨_, rfl⟩
      have Hk4 : Hid (k4 = k3 + 1 + 1) := hk
      rw [← hk]
      have bk4 : 1 ≤ k4 ∧ k4 ≤ 50 := by omega
      obtain ⟨bk4l, bk4h⟩ := bk4
      clear hk
      have c17 : u4.cell? ⟨g, n * 27 + 17, none⟩ = some (.bool false) := by have := A4.out.1.cell n (by rw [A4.out.2.1]; exact hlt) 17 (by decide); rw [A4.out.2.2.1] at this; exact this
      have c18 : u4.cell? ⟨g, n * 27 + 18, none⟩ = some (.slice none 0 0) := by have := A4.out.1.cell n (by rw [A4.out.2.1]; exact hlt) 18 (by decide); rw [A4.out.2.2.1] at this; exact this
      have fr : ∀ o, u4.frozen? ⟨g, o, none⟩ = false := A4.out.1.fr
      go_wp2_with fail
      refine Calls.mono (markInsS0w (k4 + 1) _) ?_
      rintro e _ ⟨rfl, rfl⟩
      have SE : Hid (put u4 g (n * 27) [(17, .bool ((k4) % 3 == 0))] = (u4.setCell ⟨g, n * 27 + 17, none⟩ (.bool ((k4) % 3 == 0)))) := rfl
      obtain ⟨u5, hU⟩ : ∃ u, u = put u4 g (n * 27) [(17, .bool ((k4) % 3 == 0))] := ⟨_, rfl⟩
      obtain ⟨L5, hL⟩ : ∃ l, l = L4.set n (putL (L4.getD n []) [(17, .bool ((k4) % 3 == 0))]) := ⟨_, rfl⟩
      have hL0 : n < L4.length := by rw [A4.out.2.1]; exact hlt
      have A5 : Hid (NS u5 g L5 ∧ L5.length = 3 ∧ L5.getD n [] = [.int .i64 (k), .int .i64 (k + 1), .slice none 0 0, .slice none 0 0, .int .i64 (k1), .int .i64 (k1 + 1), .int .i64 (k1 + 1 + 1), .slice none 0 0, .slice none 0 0, .bool ((k2) % 3 == 0), .int .i64 (k2 + 1), .int .i64 (k2 + 1 + 1), .slice none 0 0, .slice none 0 0, .int .i64 (k3), .int .i64 (k3 + 1), .slice none 0 0, .bool ((k4) % 3 == 0), .slice none 0 0, .bool false, .int .i64 0, .int .i64 0, .slice none 0 0, .slice none 0 0, .int .i64 0, .int .i64 0, .slice none 0 0] ∧ ∀ j : Nat, j < 3 → j ≠ n → L5.getD j [] = if j < n then mN (1 + 16 * (j : Int)) else nZ (j : Int)) := by
        refine ⟨by rw [hU, hL]; exact A4.out.1.put n hL0 _ (by simp), by rw [hL, List.length_set]; exact A4.out.2.1, by rw [hL, getD_setL _ _ _ _ hL0, if_pos rfl, A4.out.2.2.1]; rfl, fun j hj hjn => by rw [hL, getD_setL _ _ _ _ hL0, if_neg (fun h => hjn h.symm)]; exact A4.out.2.2.2 j hj hjn⟩
      have OO : Hid (Only g w u5) := by show Only _ _ _; rw [hU]; exact put_only _ _ _ _ _ OO.out
      rw [← SE.out, ← hU]
      clear SE hU hL hL0 A4 fr c17 c18
      obtain ⟨k5, hk⟩ : ∃ x, x = k4 + 1 := ⟨_, rfl⟩
      have Hk5 : Hid (k5 = k4 + 1) := hk
      rw [← hk]
      have bk5 : 1 ≤ k5 ∧ k5 ≤ 54 := by omega
      obtain ⟨bk5l, bk5h⟩ := bk5
      clear hk
      have c19 : u5.cell? ⟨g, n * 27 + 19, none⟩ = some (.bool false) := by have := A5.out.1.cell n (by rw [A5.out.2.1]; exact hlt) 19 (by decide); rw [A5.out.2.2.1] at this; exact this
      have c20 : u5.cell? ⟨g, n * 27 + 20, none⟩ = some (.int .i64 0) := by have := A5.out.1.cell n (by rw [A5.out.2.1]; exact hlt) 20 (by decide); rw [A5.out.2.2.1] at this; exact this
      have c21 : u5.cell? ⟨g, n * 27 + 21, none⟩ = some (.int .i64 0) := by have := A5.out.1.cell n (by rw [A5.out.2.1]; exact hlt) 21 (by decide); rw [A5.out.2.2.1] at this; exact this
      have c22 : u5.cell? ⟨g, n * 27 + 22, none⟩ = some (.slice none 0 0) := by have := A5.out.1.cell n (by rw [A5.out.2.1]; exact hlt) 22 (by decide); rw [A5.out.2.2.1] at this; exact this
      have c23 : u5.cell? ⟨g, n * 27 + 23, none⟩ = some (.slice none 0 0) := by have := A5.out.1.cell n (by rw [A5.out.2.1]; exact hlt) 23 (by decide); rw [A5.out.2.2.1] at this; exact this
      have fr : ∀ o, u5.frozen? ⟨g, o, none⟩ = false := A5.out.1.fr
      go_wp2_with fail
      refine Calls.mono (markReadS0w (k5 + 1 + 1 + 1) _) ?_
      rintro e _ ⟨rfl, rfl⟩
      go_wp2_with fail
      refine Calls.mono (markPutS0w (k5 + 1 + 1 + 1) _) ?_
      rintro e _ ⟨rfl, rfl⟩
      have SE : Hid (put u5 g (n * 27) [(19, .bool ((k5) % 3 == 0)), (20, .int .i64 (k5 + 1)), (21, .int .i64 (k5 + 1 + 1))] = (((u5.setCell ⟨g, n * 27 + 19, none⟩ (.bool ((k5) % 3 == 0))).setCell ⟨g, n * 27 + 20, none⟩ (.int .i64 (k5 + 1))).setCell ⟨g, n * 27 + 21, none⟩ (.int .i64 (k5 + 1 + 1)))) := rfl
      obtain ⟨u6, hU⟩ : ∃ u, u = put u5 g (n * 27) [(19, .bool ((k5) % 3 == 0)), (20, .int .i64 (k5 + 1)), (21, .int .i64 (k5 + 1 + 1))] := ⟨_, rfl⟩
      obtain ⟨L6, hL⟩ : ∃ l, l = L5.set n (putL (L5.getD n []) [(19, .bool ((k5) % 3 == 0)), (20, .int .i64 (k5 + 1)), (21, .int .i64 (k5 + 1 + 1))]) := ⟨_, rfl⟩
      have hL0 : n < L5.length := by rw [A5.out.2.1]; exact hlt
      have A6 : Hid (NS u6 g L6 ∧ L6.length = 3 ∧ L6.getD n [] = [.int .i64 (k), .int .i64 (k + 1), .slice none 0 0, .slice none 0 0, .int .i64 (k1), .int .i64 (k1 + 1), .int .i64 (k1 + 1 + 1), .slice none 0 0, .slice none 0 0, .bool ((k2) % 3 == 0), .int .i64 (k2 + 1), .int .i64 (k2 + 1 + 1), .slice none 0 0, .slice none 0 0, .int .i64 (k3), .int .i64 (k3 + 1), .slice none 0 0, .bool ((k4) % 3 == 0), .slice none 0 0, .bool ((k5) % 3 == 0), .int .i64 (k5 + 1), .int .i64 (k5 + 1 + 1), .slice none 0 0, .slice none 0 0, .int .i64 0, .int .i64 0, .slice none 0 0] ∧ ∀ j : Nat, j < 3 → j ≠ n → L6.getD j [] = if j < n then mN (1 + 16 * (j : Int)) else nZ (j : Int)) := by
        refine ⟨by rw [hU, hL]; exact A5.out.1.put n hL0 _ (by simp), by rw [hL, List.length_set]; exact A5.out.2.1, by rw [hL, getD_setL _ _ _ _ hL0, if_pos rfl, A5.out.2.2.1]; rfl, fun j hj hjn => by rw [hL, getD_setL _ _ _ _ hL0, if_neg (fun h => hjn h.symm)]; exact A5.out.2.2.2 j hj hjn⟩
      have OO : Hid (Only g w u6) := by show Only _ _ _; rw [hU]; exact put_only _ _ _ _ _ OO.out
      rw [← SE.out, ← hU]
      clear SE hU hL hL0 A5 fr c19 c20 c21 c22 c23
      obtain ⟨k6, hk⟩ : ∃ x, x = k5 + 1 + 1 + 1 := ⟨_, rfl⟩
      have Hk6 : Hid (k6 = k5 + 1 + 1 + 1) := hk
      rw [← hk]
      have bk6 : 1 ≤ k6 ∧ k6 ≤ 58 := by omega
      obtain ⟨bk6l, bk6h⟩ := bk6
      clear hk
      have c24 : u6.cell? ⟨g, n * 27 + 24, none⟩ = some (.int .i64 0) := by have := A6.out.1.cell n (by rw [A6.out.2.1]; exact hlt) 24 (by decide); rw [A6.out.2.2.1] at this; exact this
      have c25 : u6.cell? ⟨g, n * 27 + 25, none⟩ = some (.int .i64 0) := by have := A6.out.1.cell n (by rw [A6.out.2.1]; exact hlt) 25 (by decide); rw [A6.out.2.2.1] at this; exact this
      have c26 : u6.cell? ⟨g, n * 27 + 26, none⟩ = some (.slice none 0 0) := by have := A6.out.1.cell n (by rw [A6.out.2.1]; exact hlt) 26 (by decide); rw [A6.out.2.2.1] at this; exact this
      have fr : ∀ o, u6.frozen? ⟨g, o, none⟩ = false := A6.out.1.fr
      go_wp2_with fail
      refine Calls.mono (markEntryS0w (k6 + 1 + 1) _) ?_
      rintro e _ ⟨rfl, rfl⟩
      have SE : Hid (put u6 g (n * 27) [(24, .int .i64 (k6)), (25, .int .i64 (k6 + 1))] = ((u6.setCell ⟨g, n * 27 + 24, none⟩ (.int .i64 (k6))).setCell ⟨g, n * 27 + 25, none⟩ (.int .i64 (k6 + 1)))) := rfl
      obtain ⟨u7, hU⟩ : ∃ u, u = put u6 g (n * 27) [(24, .int .i64 (k6)), (25, .int .i64 (k6 + 1))] := ⟨_, rfl⟩
      obtain ⟨L7, hL⟩ : ∃ l, l = L6.set n (putL (L6.getD n []) [(24, .int .i64 (k6)), (25, .int .i64 (k6 + 1))]) := ⟨_, rfl⟩
      have hL0 : n < L6.length := by rw [A6.out.2.1]; exact hlt
      have A7 : Hid (NS u7 g L7 ∧ L7.length = 3 ∧ L7.getD n [] = [.int .i64 (k), .int .i64 (k + 1), .slice none 0 0, .slice none 0 0, .int .i64 (k1), .int .i64 (k1 + 1), .int .i64 (k1 + 1 + 1), .slice none 0 0, .slice none 0 0, .bool ((k2) % 3 == 0), .int .i64 (k2 + 1), .int .i64 (k2 + 1 + 1), .slice none 0 0, .slice none 0 0, .int .i64 (k3), .int .i64 (k3 + 1), .slice none 0 0, .bool ((k4) % 3 == 0), .slice none 0 0, .bool ((k5) % 3 == 0), .int .i64 (k5 + 1), .int .i64 (k5 + 1 + 1), .slice none 0 0, .slice none 0 0, .int .i64 (k6), .int .i64 (k6 + 1), .slice none 0 0] ∧ ∀ j : Nat, j < 3 → j ≠ n → L7.getD j [] = if j < n then mN (1 + 16 * (j : Int)) else nZ (j : Int)) := by
        refine ⟨by rw [hU, hL]; exact A6.out.1.put n hL0 _ (by simp), by rw [hL, List.length_set]; exact A6.out.2.1, by rw [hL, getD_setL _ _ _ _ hL0, if_pos rfl, A6.out.2.2.1]; rfl, fun j hj hjn => by rw [hL, getD_setL _ _ _ _ hL0, if_neg (fun h => hjn h.symm)]; exact A6.out.2.2.2 j hj hjn⟩
      have OO : Hid (Only g w u7) := by show Only _ _ _; rw [hU]; exact put_only _ _ _ _ _ OO.out
      rw [← SE.out, ← hU]
      clear SE hU hL hL0 A6 fr c24 c25 c26
      have NK : Hid (MixN (n + 1) L7 ∧ k6 + 1 + 1 = 1 + 16 * ((n + 1 : Nat) : Int)) := by
        refine ⟨⟨A7.out.2.1, fun j hj => ?_⟩, ?_⟩
        · by_cases e : j = n
          · subst e
            rw [A7.out.2.2.1, if_pos (Nat.lt_succ_self _), ← HK.out, Hk6.out, Hk5.out, Hk4.out, Hk3.out, Hk2.out, Hk1.out]
            rfl
          · rw [A7.out.2.2.2 j hj e]
            by_cases e2 : j < n
            · rw [if_pos e2, if_pos (by omega)]
            · rw [if_neg e2, if_neg (by omega)]
        · have := HK.out
          have := Hk1.out; have := Hk2.out; have := Hk3.out; have := Hk4.out; have := Hk5.out; have := Hk6.out
          omega
      go_wp2_with fail
      go_roundw
      case rel => exact ⟨n + 1, _, L7, by omega, by go_num, rfl, NK.out.2, A7.out.1, NK.out.1, OO.out⟩
      case measure => simp [intOf]; omega
    · have hni : ¬ (n : Int) < 3 := by omega
      have HE : Hid (k = 49 ∧ (∃ L, NS wr g L ∧ MixN 3 L) ∧ Only g w wr) := by
        obtain ⟨a1, a2, a3⟩ := HN.out
        have e : n = 3 := by omega
        subst e
        exact ⟨by rw [HK.out]; rfl, ⟨L0, a1, a2⟩, a3⟩
      obtain rfl := HE.out.1
      go_wp2_with fail
      go_ret
      exact ⟨rfl, HE.out.2.1, HE.out.2.2⟩
end Go.Proofs.Ytfifiobcmdmefaa.Own
