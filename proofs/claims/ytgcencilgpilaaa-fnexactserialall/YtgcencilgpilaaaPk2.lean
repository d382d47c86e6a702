/-
  Own texts, bundled: DrawBent, Mark, Ok, ProgOk2, ExecMath, InsOkS, ExecOkS, RunMath, OwnBox, Own2, Grow.
-/
import Derived.Test.YtgcencilgpilaaaPk1
import Derived.BigQuiet
import Derived.Deep.QuietTactic
import Derived.OwnWalk
import Derived.Maps.AppendAt
namespace Go.Proofs.Ytgcencilgpilaaa.Own
open Go.RowKit
set_option linter.unusedVariables false
set_option linter.unusedSimpArgs false

theorem OwnQ.cells {w : World} {B g cap : Nat} {xs : List Q4} (h : OwnQ w B (.slice (some ⟨g, 0, none⟩) xs.length cap) xs) : B ≤ g ∧ At4 w g 0 xs ∧ (∀ o, w.frozen? ⟨g, o, none⟩ = false) ∧ xs.length ≤ cap := by
  obtain ⟨h1, h2⟩ := h
  rcases h2 with ⟨hv, _⟩ | ⟨g', cap', cur, hv, hg, hh, hmc, hml, hsz, htk⟩
  · cases hv
  injection hv with e1 e2 e3
  injection e1 with e1
  injection e1 with e1
  subst e1 e3
  refine ⟨hg, ⟨(Array.getElem?_eq_some_iff.1 hh).1, fun i hi => ?_⟩, fun o => frozen_heap hh o, hmc⟩
  have e := flat4_get xs i hi
  rw [← htk, List.getElem?_take_of_lt (by omega), List.getElem?_take_of_lt (by omega), List.getElem?_take_of_lt (by omega), List.getElem?_take_of_lt (by omega)] at e
  rw [cell_heap hh, cell_heap hh, cell_heap hh, cell_heap hh, Nat.zero_add]
  simpa using e

def sLen : Value → Nat
  | .slice _ n _ => n
  | _ => 0

/-- A drawn program, in memory of its own. -/
def DrawnQ (w w' : World) (rb B p : Nat) (e : Ending) : Prop := ∃ g cap xs, e = .returned (.slice (some ⟨g, 0, none⟩) xs.length cap) ∧ OwnQ w' w.heap.size (.slice (some ⟨g, 0, none⟩) xs.length cap) xs ∧ xs.length ≤ 11 ∧ Sm4 xs ∧ (∃ p', p' ≤ p + 110 ∧ Rd w' rb B p') ∧ Bar rb w w'

set_option maxRecDepth 100000 in
set_option maxHeartbeats 4000000 in
theorem l2Bent (rb B p : Nat) (w : World) (h : Rd w rb B p) (hp : p ≤ 2 ^ 28) :
    Calls Try.prog 81 #[.pointer (some ⟨rb, 0, none⟩)] w fun e w' => DrawnQ w w' rb B p e := by
  have HR : Hid (Rd w rb B p) := h
  have hrb : rb < w.heap.size := Nat.lt_of_lt_of_le h.1 h.2.1
  have HBs : Hid (B ≤ w.heap.size) := h.2.1
  clear h
  go_enter Try.func81, Try.ntmps81
  go_wp2_with fail
  refine (l2Prog rb B p w HR.out (by omega)).mono ?_
  rintro e w1 ⟨g, cap, xs, rfl, hown, hl, hsm, ⟨p1, hp1, hrd⟩, hbar⟩
  have OW : Hid (OwnQ w1 w.heap.size (.slice (some ⟨g, 0, none⟩) xs.length cap) xs) := hown
  have SM : Hid (Sm4 xs) := hsm
  have D1 : Hid (Rd w1 rb B p1) := hrd
  have B1 : Hid (Bar rb w w1) := hbar
  clear hown hsm hrd hbar
  by_cases hz : xs.length = 0
  · have hz' : ((xs.length : Int) == 0) = true := by simp [hz]
    have HZ : Hid (xs.length = 0) := hz
    clear hz
    go_wp2
    go_ret
    exact ⟨g, cap, xs, rfl, OW.out, by omega, SM.out, ⟨_, by omega, D1.out⟩, B1.out⟩
  have hz' : ((xs.length : Int) == 0) = false := by rw [beq_eq_false_iff_ne]; omega
  go_wp2_with fail
  refine (pick rb B p1 xs.length w1 D1.out (by omega) (by omega) (by omega)).mono ?_
  rintro e w2 ⟨⟨k, rfl, k0, k1⟩, hR, hO⟩
  obtain ⟨k, rfl⟩ := Int.eq_ofNat_of_zero_le k0
  have hk : k < xs.length := by omega
  have OW2 : Hid (OwnQ w2 w.heap.size (.slice (some ⟨g, 0, none⟩) xs.length cap) xs) := OW.out.bar2 (Bar.ofOnly hO) hrb
  have D2 : Hid (Rd w2 rb B (p1 + 1)) := hR
  have B2 : Hid (Bar rb w w2) := B1.out.trans (Bar.ofOnly hO)
  clear hR hO k0
  go_wp2_with fail
  refine (pick rb B (p1 + 1) 40 w2 D2.out (by omega) (by omega) (by omega)).mono ?_
  rintro e w3 ⟨⟨c, rfl, c0, c1⟩, hR, hO⟩
  have OW3 : Hid (OwnQ w3 w.heap.size (.slice (some ⟨g, 0, none⟩) xs.length cap) xs) := OW2.out.bar2 (Bar.ofOnly hO) hrb
  have D3 : Hid (Rd w3 rb B (p1 + 1 + 1)) := hR
  have B3 : Hid (Bar rb w w3) := B2.out.trans (Bar.ofOnly hO)
  clear hR hO
  have hgw : w.heap.size ≤ g := OW3.out.cells.1
  have hki : (k : Int) < (xs.length : Int) := by omega
  have hbs := HBs.out
  have EN : Hid (∀ (W : World) (f : Nat) (n : Int), f < 4 → -2000000 ≤ n ∧ n ≤ 2000000 → OwnQ W w.heap.size (.slice (some ⟨g, 0, none⟩) xs.length cap) xs → (∃ p', p' ≤ p + 110 ∧ Rd W rb B p') → Bar rb w W → DrawnQ w (W.setCell ⟨g, k * 4 + f, none⟩ (.int .i64 n)) rb B p (.returned (.slice (some ⟨g, 0, none⟩) xs.length cap))) := by
    intro W f n hf hn ho hr hb
    obtain ⟨p', hp', hr⟩ := hr
    have hs := ho.set k f hk hf n _ rfl
    refine ⟨g, cap, xs.set k (if f = 0 then n else (xs.getD k q0).1, if f = 1 then n else (xs.getD k q0).2.1, if f = 2 then n else (xs.getD k q0).2.2.1, if f = 3 then n else (xs.getD k q0).2.2.2), by rw [List.length_set], by rw [List.length_set]; exact hs, by rw [List.length_set]; omega, SM.out.set k hk ?_, ⟨p', hp', hr.setCell (q := ⟨g, k * 4 + f, none⟩) (Nat.le_trans hbs hgw) _⟩, hb.setCell (p := ⟨g, k * 4 + f, none⟩) hgw _⟩
    have hq := SM.out k hk
    refine ⟨?_, ?_, ?_, ?_⟩
    · show (-2000000 : Int) ≤ (if f = 0 then n else _) ∧ (if f = 0 then n else _) ≤ (2000000 : Int)
      split
      · exact hn
      · exact hq.1
    · show (-2000000 : Int) ≤ (if f = 1 then n else _) ∧ (if f = 1 then n else _) ≤ (2000000 : Int)
      split
      · exact hn
      · exact hq.2.1
    · show (-2000000 : Int) ≤ (if f = 2 then n else _) ∧ (if f = 2 then n else _) ≤ (2000000 : Int)
      split
      · exact hn
      · exact hq.2.2.1
    · show (-2000000 : Int) ≤ (if f = 3 then n else _) ∧ (if f = 3 then n else _) ≤ (2000000 : Int)
      split
      · exact hn
      · exact hq.2.2.2
  cases t0 : (c == 0) with
  | true =>
    go_wp2_with fail
    refine (num rb B (p1 + 1 + 1) w3.heap.size 2 2 [0, 8] _ (D3.out.alloc _) (by omega) (nums_newQ _ _ _ _ rfl) rfl (by omega) (by omega) (by have := B3.out.size; omega)).mono ?_
    rintro e w4 ⟨⟨n, rfl, hn⟩, hR, hO⟩
    have OW4 : Hid (OwnQ w4 w.heap.size (.slice (some ⟨g, 0, none⟩) xs.length cap) xs) := (OW3.out.keep (below_new _ _)).bar2 (Bar.ofOnly hO) hrb
    have D4 : Hid (Rd w4 rb B (p1 + 1 + 1 + 1)) := hR
    have B4 : Hid (Bar rb w w4) := (B3.out.alloc _).trans (Bar.ofOnly hO)
    have HN : Hid (-2000000 ≤ n ∧ n ≤ 2000000) := by show _ ∧ _; simp at hn; omega
    obtain ⟨_, at4, fr4, _⟩ := OW4.out.cells
    have cc := (at4.2 k hk).1
    have ff := fr4 (k * 4)
    rw [Nat.zero_add] at cc
    clear hR hO hn at4 fr4
    go_wp2
    go_ret
    exact EN.out w4 0 n (by omega) HN.out OW4.out ⟨_, by omega, D4.out⟩ B4.out
  | false =>
    cases t1 : (c == 1) with
    | true =>
      go_wp2_with fail
      refine (num rb B (p1 + 1 + 1) w3.heap.size 2 2 [-1, 4] _ (D3.out.alloc _) (by omega) (nums_newQ _ _ _ _ rfl) rfl (by omega) (by omega) (by have := B3.out.size; omega)).mono ?_
      rintro e w4 ⟨⟨n, rfl, hn⟩, hR, hO⟩
      have OW4 : Hid (OwnQ w4 w.heap.size (.slice (some ⟨g, 0, none⟩) xs.length cap) xs) := (OW3.out.keep (below_new _ _)).bar2 (Bar.ofOnly hO) hrb
      have D4 : Hid (Rd w4 rb B (p1 + 1 + 1 + 1)) := hR
      have B4 : Hid (Bar rb w w4) := (B3.out.alloc _).trans (Bar.ofOnly hO)
      have HN : Hid (-2000000 ≤ n ∧ n ≤ 2000000) := by show _ ∧ _; simp at hn; omega
      obtain ⟨_, at4, fr4, _⟩ := OW4.out.cells
      have cc := (at4.2 k hk).2.1
      have ff := fr4 (k * 4 + 1)
      rw [Nat.zero_add] at cc
      clear hR hO hn at4 fr4
      go_wp2
      go_ret
      exact EN.out w4 1 n (by omega) HN.out OW4.out ⟨_, by omega, D4.out⟩ B4.out
    | false =>
      cases t2 : (c == 2) with
      | true =>
        go_wp2_with fail
        refine (num rb B (p1 + 1 + 1) w3.heap.size 3 3 [-1, 11, 2000000] _ (D3.out.alloc _) (by omega) (nums_newQ _ _ _ _ rfl) rfl (by omega) (by omega) (by have := B3.out.size; omega)).mono ?_
        rintro e w4 ⟨⟨n, rfl, hn⟩, hR, hO⟩
        have OW4 : Hid (OwnQ w4 w.heap.size (.slice (some ⟨g, 0, none⟩) xs.length cap) xs) := (OW3.out.keep (below_new _ _)).bar2 (Bar.ofOnly hO) hrb
        have D4 : Hid (Rd w4 rb B (p1 + 1 + 1 + 1)) := hR
        have B4 : Hid (Bar rb w w4) := (B3.out.alloc _).trans (Bar.ofOnly hO)
        have HN : Hid (-2000000 ≤ n ∧ n ≤ 2000000) := by show _ ∧ _; simp at hn; omega
        obtain ⟨_, at4, fr4, _⟩ := OW4.out.cells
        have cc := (at4.2 k hk).2.2.2
        have ff := fr4 (k * 4 + 3)
        rw [Nat.zero_add] at cc
        clear hR hO hn at4 fr4
        go_wp2
        go_ret
        exact EN.out w4 3 n (by omega) HN.out OW4.out ⟨_, by omega, D4.out⟩ B4.out
      | false =>
        cases t3 : (c == 3) with
        | false =>
          go_wp2
          go_ret
          exact ⟨g, cap, xs, rfl, OW3.out, by omega, SM.out, ⟨_, by omega, D3.out⟩, B3.out⟩
        | true =>
          clear EN
          go_wp2_with fail
          go_loopw [3] (fun v wr => ∃ g cap zs, v = .slice (some ⟨g, 0, none⟩) zs.length cap ∧ OwnQ wr w.heap.size (.slice (some ⟨g, 0, none⟩) zs.length cap) zs ∧ k < zs.length ∧ zs.length ≤ 11 ∧ Sm4 zs ∧ Rd wr rb B (p1 + 1 + 1) ∧ Bar rb w wr) (fun v _ => 11 - sLen v)
          case atStart => exact ⟨g, cap, xs, rfl, OW3.out, hk, by omega, SM.out, D3.out, B3.out⟩
          case round =>
            clear OW OW2 OW3 D1 D2 D3 B1 B2 B3 SM hgw hki hk k1 hz hz' hl
            obtain ⟨g, cap, zs, rfl, hown, hk, hl, hsm, hrd, hbar⟩ := hrel
            have OW3 : Hid (OwnQ wr w.heap.size (.slice (some ⟨g, 0, none⟩) zs.length cap) zs) := hown
            have SM : Hid (Sm4 zs) := hsm
            have D3 : Hid (Rd wr rb B (p1 + 1 + 1)) := hrd
            have B3 : Hid (Bar rb w wr) := hbar
            have hki : (k : Int) < (zs.length : Int) := by omega
            clear hown hsm hrd hbar
            by_cases hlt : zs.length < 11
            · obtain ⟨i0, hi, hz0, hz1, hz2⟩ := info_parts infoInsD
              have I0 : Hid (Try.prog.info? 156 = some i0 ∧ i0.zero = some (.agg #[.int .i64 0, .int .i64 0, .int .i64 0, .int .i64 0]) ∧ i0.size = 4 ∧ i0.bytes = 32) := ⟨hi, hz0, hz1, hz2⟩
              clear hi hz0 hz1 hz2
              obtain ⟨hgw, at4, fr4, _⟩ := OW3.out.cells
              obtain ⟨ca, cb, cc, cd⟩ := at4.2 k hk
              have HQ : Hid (SmQ (zs.getD k q0)) := SM.out k hk
              obtain ⟨q, hq⟩ : ∃ q, q = zs.getD k q0 := ⟨_, rfl⟩
              rw [← hq] at ca cb cc cd HQ
              rw [Nat.zero_add] at ca cb cc cd
              obtain ⟨q1, q2, q3, q4⟩ := q
              clear hq at4 fr4
              go_wp2_with (at_builtin; refine wpList_append_lies _ rfl (.tmp 49) (.tmp 54) 51 rfl w.heap.size 156 i0 (.agg #[.int .i64 0, .int .i64 0, .int .i64 0, .int .i64 0]) 4 32 Try.underlying51 I0.out.1 I0.out.2.1 I0.out.2.2.1 I0.out.2.2.2 rfl (by decide) (.slice (some ⟨g, 0, none⟩) zs.length cap) zs.length (flat4 zs) rfl (OwnQ.keep OW3.out (below_new _ _)) ⟨wr.heap.size, 0, none⟩ 1 1 [.int .i64 q1, .int .i64 q2, .int .i64 q3, .int .i64 q4] rfl rfl (four_new _ _ _ _ _) (by simp [Value.oneCell']) (by decide) (by unfold maxLen; omega) (by omega) (by have := B3.out.size; rw [size_new]; omega) (wr.heap.size + 1) (size_new _ _) ?_)
              intro g4 cap4 w4 hown4 hgr hloc hg4
              have OW4 : Hid (OwnQ w4 w.heap.size (.slice (some ⟨g4, 0, none⟩) (zs ++ [(q1, q2, q3, q4)]).length cap4) (zs ++ [(q1, q2, q3, q4)])) := by
                show OwnQ _ _ _ _
                unfold OwnQ
                rw [List.length_append, flat4_snoc]
                exact hown4
              have D4 : Hid (Rd w4 rb B (p1 + 1 + 1)) := (D3.out.alloc _).grown hgr (fun k hk => by simp only [Value.ownBlock] at hk; injection hk with hk; omega)
              have B4 : Hid (Bar rb w w4) := (B3.out.alloc _).grown hgr (fun k hk => by simp only [Value.ownBlock] at hk; injection hk with hk; omega)
              clear hown4 hgr hloc hg4 ca cb cc cd
              go_wp2
              go_roundw
              case rel => exact ⟨g4, cap4, zs ++ [(q1, q2, q3, q4)], by simp, OW4.out, by simp; omega, by simp; omega, SM.out.snoc HQ.out, D4.out, B4.out⟩
              case measure => simp [sLen]; omega
            · go_wp2
              go_ret
              exact ⟨g, cap, zs, rfl, OW3.out, hl, SM.out, ⟨_, by omega, D3.out⟩, B3.out⟩
end Go.Proofs.Ytgcencilgpilaaa.Own

namespace Go.Proofs.Ytgcencilgpilaaa.Own
open Go.RowKit

set_option maxHeartbeats 1000000 in
theorem markBoxS (b off n c : Nat) (k : Int) (w : World) (hn : n ≤ 2 ^ 40) (hk0 : 0 ≤ k) (hk : k ≤ 2 ^ 40) (hfr : ∀ o, w.frozen? ⟨b, o, none⟩ = false) (hcell : ∀ i, i < 2 * n → ∃ v, w.cell? ⟨b, off + i, none⟩ = some v ∧ v.oneCell' = true) (hb : b < w.heap.size) :
    Calls Try.prog 39 #[.slice (some ⟨b, off, none⟩) n c, .int .i64 k] w fun e w' => e = .returned (.int .i64 (k + 2 * n)) ∧ BoxAt w' b off (marks k n) ∧ Only b w w' := by
  have HC : Hid (∀ i, i < 2 * n → ∃ v, w.cell? ⟨b, off + i, none⟩ = some v ∧ v.oneCell' = true) := hcell
  have HF : Hid (∀ o, w.frozen? ⟨b, o, none⟩ = false) := hfr
  clear hcell hfr
  go_enter Try.func39, Try.ntmps39
  go_wp2
  go_loopw [1, 5] (fun q i wr => ∃ j : Nat, j ≤ n ∧ i = .int .i64 j ∧ q = .int .i64 (k + 2 * j) ∧ BoxAt wr b off (marks k j) ∧ (∀ i, 2 * j ≤ i → wr.cell? ⟨b, off + i, none⟩ = w.cell? ⟨b, off + i, none⟩) ∧ Only b w wr) (fun _ i _ => n - (intOf i).toNat)
  case atStart => exact ⟨0, Nat.zero_le _, rfl, by simp, ⟨hb, by simp [marks]⟩, fun _ _ => rfl, Only.refl _ _⟩
  case round =>
    obtain ⟨j, hj, rfl, rfl, hat, hrest, ho⟩ := hrel
    by_cases hlt : j < n
    · obtain ⟨v1, hv1, hv1'⟩ := HC.out (2 * j) (by omega)
      obtain ⟨v2, hv2, hv2'⟩ := HC.out (2 * j + 1) (by omega)
      have c1 : wr.cell? ⟨b, off + j * 2, none⟩ = some v1 := by rw [show off + j * 2 = off + 2 * j by omega, hrest _ (by omega)]; exact hv1
      have c2 : wr.cell? ⟨b, off + j * 2 + 1, none⟩ = some v2 := by rw [show off + j * 2 + 1 = off + (2 * j + 1) by omega, hrest _ (by omega)]; exact hv2
      have f1 : wr.frozen? ⟨b, off + j * 2, none⟩ = false := by rw [ho.frozen]; exact HF.out _
      have f2 : wr.frozen? ⟨b, off + j * 2 + 1, none⟩ = false := by rw [ho.frozen]; exact HF.out _
      have Hrest := hrest
      have HR : Hid (∀ i, 2 * j ≤ i → wr.cell? ⟨b, off + i, none⟩ = w.cell? ⟨b, off + i, none⟩) := Hrest
      have HA : Hid (BoxAt wr b off (marks k j)) := hat
      clear hrest Hrest hat hv1 hv2
      go_wp2
      go_roundw
      case rel =>
        refine ⟨j + 1, by omega, by go_num, ?_, ?_, ?_, (ho.setCell _).setCell _⟩
        · go_num
        · refine ⟨by simpa [World.setCell] using HA.out.1, fun i hi => ?_⟩
          rw [marks_length] at hi
          rw [marks_getD _ _ _ hi]
          by_cases e : i = j
          · subst e
            exact ⟨by rw [setCell_cell_other _ _ _ _ _ (by omega)]; exact setCell_cell_same _ _ _ _ _ c1, setCell_cell_same _ _ _ _ v2 (by rw [setCell_cell_other _ _ _ _ _ (by omega)]; exact c2)⟩
          · have := HA.out.2 i (by rw [marks_length]; omega)
            rw [marks_getD _ _ _ (by omega)] at this
            rw [setCell_cell_other _ _ _ _ _ (by omega), setCell_cell_other _ _ _ _ _ (by omega), setCell_cell_other _ _ _ _ _ (by omega), setCell_cell_other _ _ _ _ _ (by omega)]
            exact this
        · intro i hi
          rw [setCell_cell_other _ _ _ _ _ (by omega), setCell_cell_other _ _ _ _ _ (by omega)]
          exact HR.out i (by omega)
      case measure => simp [intOf]; omega
    · go_wp2
      go_ret
      have : j = n := by omega
      subst this
      exact ⟨rfl, hat, ho⟩

set_option maxHeartbeats 1000000 in
theorem heldBoxS (b off n c : Nat) (k : Int) (w : World) (hn : n ≤ 2 ^ 40) (hk0 : 0 ≤ k) (hk : k ≤ 2 ^ 40) (hat : BoxAt w b off (marks k n)) :
    Calls Try.prog 42 #[.slice (some ⟨b, off, none⟩) n c, .int .i64 k] w fun e w' => e = .returned (.int .i64 (k + 2 * n)) ∧ w' = w := by
  have HA : Hid (BoxAt w b off (marks k n)) := hat
  clear hat
  go_enter Try.func42, Try.ntmps42
  go_wp2
  go_loop [1, 5] (fun q i => ∃ j : Nat, j ≤ n ∧ i = .int .i64 j ∧ q = .int .i64 (k + 2 * j)) (fun _ i => n - (intOf i).toNat)
  case atStart => exact ⟨0, Nat.zero_le _, rfl, by simp⟩
  case round =>
    obtain ⟨j, hj, rfl, rfl⟩ := hrel
    by_cases hlt : j < n
    · obtain ⟨c1, c2⟩ := HA.out.2 j (by rw [marks_length]; exact hlt)
      rw [marks_getD _ _ _ hlt] at c1 c2
      go_wp2
      go_round
      case rel => exact ⟨j + 1, by omega, by go_num, by go_num⟩
      case measure => simp [intOf]; omega
    · go_wp2
      go_ret
      have : j = n := by omega
      subst this
      exact ⟨rfl, rfl⟩
end Go.Proofs.Ytgcencilgpilaaa.Own

namespace Go.Proofs.Ytgcencilgpilaaa.Own
open Go.RowKit

def numOk (n : Int) : Bool := decide (-1000000 ≤ n) && decide (n ≤ 1000000)
def boxOk1 (p : Int × Int) : Bool := decide (0 ≤ p.1) && decide (p.1 ≤ 1000000) && numOk p.2
def boxOk (xs : List (Int × Int)) : Bool := xs.length == 4 && xs.all boxOk1

set_option maxHeartbeats 400000 in
theorem l1Num (n : Int) (w : World) : Calls Try.prog 71 #[.int .i64 n] w fun e w' => e = .returned (.bool (numOk n)) ∧ w' = w := by
  have e : Hid (numOk n = (decide (-1000000 ≤ n) && decide (n ≤ 1000000))) := rfl
  by_cases h1 : -1000000 ≤ n
  · by_cases h2 : n ≤ 1000000
    all_goals
      go_enter Try.func71, Try.ntmps71
      go_wp2
      go_ret
      exact ⟨ret_bool (by rw [e.out]; simp [h1, h2]), rfl⟩
  · have h1' : n < -1000000 := by omega
    go_enter Try.func71, Try.ntmps71
    go_wp2
    go_ret
    exact ⟨ret_bool (by rw [e.out]; simp; omega), rfl⟩

set_option maxRecDepth 100000 in
set_option maxHeartbeats 1000000 in
theorem specOk (a : Option Addr) (c : Nat) (xs : List (Int × Int)) (w : World) (h : Sl w a xs) (hn : xs.length ≤ 2 ^ 40) :
    Calls Try.prog 20 #[.slice a xs.length c] w fun e w' => e = .returned (.bool (boxOk xs)) ∧ w' = w := by
  have e : Hid (boxOk xs = (xs.length == 4 && xs.all boxOk1)) := rfl
  have H1 : Hid (Sl w a xs) := h
  clear h
  by_cases hl : xs.length = 4
  · have hl' : ((xs.length : Int) != 4) = false := by simp [hl]
    have HL : Hid (xs.length = 4) := hl
    clear hl
    go_enter Try.func20, Try.ntmps20
    go_wp2
    go_loop [3] (fun i => ∃ k : Nat, k ≤ xs.length ∧ i = .int .i64 k ∧ Hid ((xs.take k).all boxOk1 = true)) (fun i => xs.length - (intOf i).toNat)
    case atStart => exact ⟨0, Nat.zero_le _, rfl, rfl⟩
    case round =>
      obtain ⟨k, hk, rfl, hA⟩ := hrel
      by_cases hlt : k < xs.length
      · rcases H1.out with h | ⟨b1, o1, rfl, h1⟩
        · subst h; simp at hlt
        obtain ⟨p, hp⟩ : ∃ p, p = xs.getD k (0, 0) := ⟨_, rfl⟩
        have ca := (h1.2 k hlt).1
        have cb := (h1.2 k hlt).2
        rw [← hp] at ca cb
        have HP : Hid (p = xs.getD k (0, 0)) := hp
        clear hp h1
        obtain ⟨p1, p2⟩ := p
        have fin : boxOk1 (p1, p2) = false → Hid (boxOk xs = false) := by
          intro h
          show boxOk xs = false
          rw [e.out, all_false (0, 0) hlt (by rw [← HP.out]; exact h)]; simp
        by_cases t1 : p1 < 0
        · have F := fin (by simp [boxOk1, show ¬ 0 ≤ p1 by omega])
          clear fin
          go_wp2
          go_ret
          exact ⟨ret_bool F.out.symm, rfl⟩
        · by_cases t2 : 1000000 < p1
          · have F := fin (by simp [boxOk1, show ¬ p1 ≤ 1000000 by omega])
            clear fin
            go_wp2
            go_ret
            exact ⟨ret_bool F.out.symm, rfl⟩
          · by_cases t3 : numOk p2 = true
            · have N : Hid ((xs.take (k + 1)).all boxOk1 = true) := by
                show _ = true
                rw [all_take_succ (0, 0) hlt, hA.out, ← HP.out]
                simp [boxOk1, t3]; omega
              clear fin
              go_wp2_with (go_at_call 71; refine (l1Num _ _).mono ?_; rintro e w' ⟨rfl, rfl⟩)
              go_round
              case rel => exact ⟨k + 1, by omega, by go_num, N⟩
              case measure => simp [intOf]; omega
            · have t3' : numOk p2 = false := by simpa using t3
              have F := fin (by simp [boxOk1, t3'])
              clear fin t3
              go_wp2_with (go_at_call 71; refine (l1Num _ _).mono ?_; rintro e w' ⟨rfl, rfl⟩)
              go_ret
              exact ⟨ret_bool F.out.symm, rfl⟩
      · go_wp2
        go_ret
        have : k = xs.length := by omega
        subst this
        refine ⟨ret_bool ?_, rfl⟩
        have h := hA.out
        rw [List.take_length] at h
        rw [e.out, h, HL.out]; rfl
  · have hl' : ((xs.length : Int) != 4) = true := by simp; omega
    go_enter Try.func20, Try.ntmps20
    go_wp2
    go_ret
    refine ⟨ret_bool ?_, rfl⟩
    rw [e.out]; simp [hl]

set_option maxRecDepth 100000 in
set_option maxHeartbeats 1000000 in
theorem implBoxOk1 (p1 p2 : Int) (w : World) : Calls Try.prog 120 #[.agg #[.int .i64 p1, .int .i64 p2]] w fun e w' => e = .returned (.bool (boxOk1 (p1, p2))) ∧ Below w.heap.size w w' := by
  have fin : ∀ b, boxOk1 (p1, p2) = b → Hid (boxOk1 (p1, p2) = b) := fun _ h => h
  by_cases t1 : 0 ≤ p1
  · by_cases t2 : p1 ≤ 1000000
    · by_cases t3 : -1000000 ≤ p2
      · by_cases t4 : p2 ≤ 1000000
        · have F := fin true (by simp [boxOk1, numOk, t1, t2, t3, t4])
          clear fin
          go_enter Try.func120, Try.ntmps120
          go_wp2
          go_ret
          exact ⟨ret_bool F.out.symm, (Below.refl _ _).alloc (Nat.le_refl _) _⟩
        · have F := fin false (by simp [boxOk1, numOk, t4])
          have t4' : 1000000 < p2 := by omega
          clear fin t4
          go_enter Try.func120, Try.ntmps120
          go_wp2
          go_ret
          exact ⟨ret_bool (by rw [F.out]; simp; omega), (Below.refl _ _).alloc (Nat.le_refl _) _⟩
      · have F := fin false (by simp [boxOk1, numOk, t3])
        have t3' : p2 < -1000000 := by omega
        clear fin t3
        go_enter Try.func120, Try.ntmps120
        go_wp2
        go_ret
        exact ⟨ret_bool F.out.symm, (Below.refl _ _).alloc (Nat.le_refl _) _⟩
    · have F := fin false (by simp [boxOk1, t2])
      have t2' : 1000000 < p1 := by omega
      clear fin t2
      go_enter Try.func120, Try.ntmps120
      go_wp2
      go_ret
      exact ⟨ret_bool F.out.symm, (Below.refl _ _).alloc (Nat.le_refl _) _⟩
  · have F := fin false (by simp [boxOk1, t1])
    have t1' : p1 < 0 := by omega
    clear fin t1
    go_enter Try.func120, Try.ntmps120
    go_wp2
    go_ret
    exact ⟨ret_bool F.out.symm, (Below.refl _ _).alloc (Nat.le_refl _) _⟩

def arrV (x0 x1 x2 x3 x4 x5 x6 x7 : Int) : Value := .agg #[.int .i64 x0, .int .i64 x1, .int .i64 x2, .int .i64 x3, .int .i64 x4, .int .i64 x5, .int .i64 x6, .int .i64 x7]

theorem idx0 (x0 x1 x2 x3 x4 x5 x6 x7 : Int) (w : World) : (Instr.index 104 (.agg #[.int .i64 x0, .int .i64 x1, .int .i64 x2, .int .i64 x3, .int .i64 x4, .int .i64 x5, .int .i64 x6, .int .i64 x7]) (.int .i64 0)).run Try.prog w = .ok (.agg #[.int .i64 x0, .int .i64 x1]) w := by kernel_rfl
theorem idx1 (x0 x1 x2 x3 x4 x5 x6 x7 : Int) (w : World) : (Instr.index 104 (.agg #[.int .i64 x0, .int .i64 x1, .int .i64 x2, .int .i64 x3, .int .i64 x4, .int .i64 x5, .int .i64 x6, .int .i64 x7]) (.int .i64 1)).run Try.prog w = .ok (.agg #[.int .i64 x2, .int .i64 x3]) w := by kernel_rfl
theorem idx2 (x0 x1 x2 x3 x4 x5 x6 x7 : Int) (w : World) : (Instr.index 104 (.agg #[.int .i64 x0, .int .i64 x1, .int .i64 x2, .int .i64 x3, .int .i64 x4, .int .i64 x5, .int .i64 x6, .int .i64 x7]) (.int .i64 2)).run Try.prog w = .ok (.agg #[.int .i64 x4, .int .i64 x5]) w := by kernel_rfl
theorem idx3 (x0 x1 x2 x3 x4 x5 x6 x7 : Int) (w : World) : (Instr.index 104 (.agg #[.int .i64 x0, .int .i64 x1, .int .i64 x2, .int .i64 x3, .int .i64 x4, .int .i64 x5, .int .i64 x6, .int .i64 x7]) (.int .i64 3)).run Try.prog w = .ok (.agg #[.int .i64 x6, .int .i64 x7]) w := by kernel_rfl

theorem idxAny (x0 x1 x2 x3 x4 x5 x6 x7 : Int) (k : Nat) (h : k < 4) (w : World) : ∃ p q, (Instr.index 104 (.agg #[.int .i64 x0, .int .i64 x1, .int .i64 x2, .int .i64 x3, .int .i64 x4, .int .i64 x5, .int .i64 x6, .int .i64 x7]) (.int .i64 k)).run Try.prog w = .ok (.agg #[.int .i64 p, .int .i64 q]) w ∧ (p, q) = [(x0, x1), (x2, x3), (x4, x5), (x6, x7)].getD k (0, 0) := by
  match k, h with
  | 0, _ => exact ⟨_, _, idx0 .., rfl⟩
  | 1, _ => exact ⟨_, _, idx1 .., rfl⟩
  | 2, _ => exact ⟨_, _, idx2 .., rfl⟩
  | 3, _ => exact ⟨_, _, idx3 .., rfl⟩

set_option maxRecDepth 100000 in
set_option maxHeartbeats 1000000 in
theorem arrOk (x0 x1 x2 x3 x4 x5 x6 x7 : Int) (w : World) : Calls Try.prog 75 #[.agg #[.int .i64 x0, .int .i64 x1, .int .i64 x2, .int .i64 x3, .int .i64 x4, .int .i64 x5, .int .i64 x6, .int .i64 x7]] w
    fun e w' => e = .returned (.bool ([(x0, x1), (x2, x3), (x4, x5), (x6, x7)].all boxOk1)) ∧ Below w.heap.size w w' := by
  obtain ⟨xs, hxs⟩ : ∃ xs, xs = [(x0, x1), (x2, x3), (x4, x5), (x6, x7)] := ⟨_, rfl⟩
  rw [← hxs]
  have HX : Hid (xs = [(x0, x1), (x2, x3), (x4, x5), (x6, x7)]) := hxs
  have HL : Hid (xs.length = 4) := by show xs.length = 4; rw [hxs]; rfl
  clear hxs
  go_enter Try.func75, Try.ntmps75
  go_wp2
  go_loopw [6] (fun i wr => ∃ k : Nat, k ≤ 4 ∧ i = .int .i64 k ∧ Hid ((xs.take k).all boxOk1 = true) ∧ Below w.heap.size w wr) (fun i _ => 4 - (intOf i).toNat)
  case atStart => exact ⟨0, Nat.zero_le _, rfl, rfl, (Below.refl _ _).alloc (Nat.le_refl _) _⟩
  case round =>
    obtain ⟨k, hk, rfl, hA, hB⟩ := hrel
    by_cases hlt : k < 4
    · obtain ⟨p, q, hidx, hpq⟩ := idxAny x0 x1 x2 x3 x4 x5 x6 x7 k hlt wr
      have HP : Hid ((p, q) = xs.getD k (0, 0)) := by show _ = _; rw [HX.out]; exact hpq
      clear hpq
      by_cases t : boxOk1 (p, q) = true
      · have N : Hid ((xs.take (k + 1)).all boxOk1 = true) := by
          show _ = true
          rw [all_take_succ (0, 0) (by rw [HL.out]; exact hlt), hA.out, ← HP.out, t]; rfl
        go_wp2_with fail
        refine (implBoxOk1 p q _).mono ?_
        rintro e w1 ⟨rfl, hb1⟩
        have B1 : Hid (Below w.heap.size w w1) := (hB.alloc hB.size _).trans (hb1.mono (by rw [size_new]; have := hB.size; omega))
        clear hb1 hidx
        go_wp2
        go_roundw
        case rel => exact ⟨k + 1, by omega, by go_num, N, B1.out⟩
        case measure => simp [intOf]; omega
      · have t' : boxOk1 (p, q) = false := by simpa using t
        have N : Hid (xs.all boxOk1 = false) := all_false (k := k) (0, 0) (by rw [HL.out]; exact hlt) (by rw [← HP.out]; exact t')
        clear t
        go_wp2_with fail
        refine (implBoxOk1 p q _).mono ?_
        rintro e w1 ⟨rfl, hb1⟩
        have B1 : Hid (Below w.heap.size w w1) := (hB.alloc hB.size _).trans (hb1.mono (by rw [size_new]; have := hB.size; omega))
        clear hb1 hidx
        go_wp2
        go_ret
        exact ⟨ret_bool N.out.symm, B1.out⟩
    · go_wp2
      go_ret
      have : k = 4 := by omega
      subst this
      refine ⟨ret_bool ?_, hB⟩
      have h := hA.out
      rw [List.take_of_length_le (by rw [HL.out]; omega)] at h
      exact h.symm

/-- The box at a place of a list; nothing behind its end. -/
def fromD (xs : List (Int × Int)) (at_ i : Nat) : Int × Int := xs.getD (at_ + i) (0, 0)

def flat (xs : List (Int × Int)) : List Value := xs.flatMap fun p => [.int .i64 p.1, .int .i64 p.2]
theorem flat_length (xs : List (Int × Int)) : (flat xs).length = xs.length * 2 := by
  induction xs with
  | nil => rfl
  | cons p r ih => simp [flat] at ih ⊢; omega
theorem flat_one (xs : List (Int × Int)) : ∀ v ∈ flat xs, v.oneCell' = true := by
  intro v hv
  simp [flat] at hv
  obtain ⟨a, b, _, h⟩ := hv
  rcases h with rfl | rfl <;> rfl
theorem flat_even (xs : List (Int × Int)) (i : Nat) (h : i < xs.length) : (flat xs)[i * 2]? = some (.int .i64 (xs.getD i (0, 0)).1) ∧ (flat xs)[i * 2 + 1]? = some (.int .i64 (xs.getD i (0, 0)).2) := by
  induction xs generalizing i with
  | nil => simp at h
  | cons p r ih =>
    cases i with
    | zero => simp [flat]
    | succ i =>
      have := ih i (by simpa using h)
      simp only [flat, List.flatMap_cons] at this ⊢
      rw [show (i + 1) * 2 = i * 2 + 2 by omega, show i * 2 + 2 + 1 = i * 2 + 1 + 2 by omega]
      simpa using this

theorem flat_at {w : World} {b off k : Nat} {xs : List (Int × Int)} (h : BoxAt w b off xs) (j : Nat) (v : Value) (hv : (flat ((xs.drop k).take 4))[j]? = some v) : w.cell? ⟨b, off + k * 2 + j, none⟩ = some v := by
  have hl : j < (flat ((xs.drop k).take 4)).length := (List.getElem?_eq_some_iff.1 hv).1
  rw [flat_length] at hl
  have hk : j / 2 < ((xs.drop k).take 4).length := by omega
  have e := flat_even _ (j / 2) hk
  have g : ((xs.drop k).take 4).getD (j / 2) (0, 0) = xs.getD (k + j / 2) (0, 0) := by
    simp at hk
    simp [List.getD, show j / 2 < 4 by omega]
  have hx := h.2 (k + j / 2) (by simp at hk; omega)
  rw [g] at e
  rcases Nat.mod_two_eq_zero_or_one j with m | m
  · rw [show off + k * 2 + j = off + (k + j / 2) * 2 by omega, hx.1, ← hv, ← e.1]
    congr 1; omega
  · rw [show off + k * 2 + j = off + (k + j / 2) * 2 + 1 by omega, hx.2, ← hv, ← e.2]
    congr 1; omega

theorem splice_get (xs : List (Int × Int)) (k i : Nat) (hi : i < 4) : (splice zeros8.toList 0 (flat ((xs.drop k).take 4)))[i * 2]? = some (.int .i64 (fromD xs k i).1) ∧ (splice zeros8.toList 0 (flat ((xs.drop k).take 4)))[i * 2 + 1]? = some (.int .i64 (fromD xs k i).2) := by
  have hl := flat_length ((xs.drop k).take 4)
  simp only [splice, List.take_zero, List.nil_append, Nat.zero_add]
  by_cases h : i < ((xs.drop k).take 4).length
  · have e := flat_even _ i h
    have g : ((xs.drop k).take 4).getD i (0, 0) = fromD xs k i := by
      simp at h
      simp [fromD, List.getD, hi]
    rw [g] at e
    rw [List.getElem?_append_left (by omega), List.getElem?_append_left (by omega)]
    exact e
  · have g : fromD xs k i = (0, 0) := by
      simp at h
      simp [fromD, List.getD, show xs.length ≤ k + i by omega]
    rw [List.getElem?_append_right (by omega), List.getElem?_append_right (by omega), g]
    simp only [List.getElem?_drop]
    rw [show (flat ((xs.drop k).take 4)).length + (i * 2 - (flat ((xs.drop k).take 4)).length) = i * 2 by omega, show (flat ((xs.drop k).take 4)).length + (i * 2 + 1 - (flat ((xs.drop k).take 4)).length) = i * 2 + 1 by omega]
    match i, hi with
    | 0, _ | 1, _ | 2, _ | 3, _ => exact ⟨rfl, rfl⟩

theorem zeros_list : zeros8.toList.toArray = zeros8 := by simp

set_option maxRecDepth 100000 in
set_option maxHeartbeats 1000000 in
theorem boxesFrom (a : Option Addr) (c : Nat) (xs : List (Int × Int)) (k : Nat) (w : World) (h : Sl w a xs) (hc : xs.length ≤ c) (hk : k ≤ xs.length) :
    Calls Try.prog 64 #[.slice a xs.length c, .int .i64 k] w
    fun e w' => e = .returned (.agg #[.int .i64 (fromD xs k 0).1, .int .i64 (fromD xs k 0).2, .int .i64 (fromD xs k 1).1, .int .i64 (fromD xs k 1).2, .int .i64 (fromD xs k 2).1, .int .i64 (fromD xs k 2).2, .int .i64 (fromD xs k 3).1, .int .i64 (fromD xs k 3).2]) ∧ Below w.heap.size w w' := by
  have H1 : Hid (Sl w a xs) := h
  clear h
  obtain ⟨cs, hcs⟩ : ∃ cs, cs = flat ((xs.drop k).take 4) := ⟨_, rfl⟩
  have HCS : Hid (cs = flat ((xs.drop k).take 4)) := hcs
  have hn : Hid (cs.length = Nat.min (xs.length - k) 4 * 2) := by
    show _ = _
    rw [hcs, flat_length, List.length_take, List.length_drop, Nat.min_comm]
  have h1c : Hid (∀ v ∈ cs, v.oneCell' = true) := by show ∀ v ∈ cs, _; rw [hcs]; exact flat_one _
  clear hcs
  obtain ⟨W, hW⟩ : ∃ W, W = (w.alloc (.cells #[.int .i64 0, .int .i64 0, .int .i64 0, .int .i64 0, .int .i64 0, .int .i64 0, .int .i64 0, .int .i64 0] 104)).alloc (.cells #[.int .i64 0, .int .i64 0, .int .i64 0, .int .i64 0, .int .i64 0, .int .i64 0, .int .i64 0, .int .i64 0] 104) := ⟨_, rfl⟩
  have hbW : Hid (Below w.heap.size w W) := by
    show Below _ _ _
    rw [hW]; exact ((Below.refl _ _).alloc (Nat.le_refl _) _).alloc (by simp) _
  have hgW : Hid (W.drew.heap[w.heap.size + 1]? = some (.cells zeros8.toList.toArray 104 (0, 0))) := by
    show W.heap[w.heap.size + 1]? = _
    rw [hW]; exact heap_new2 _ _ _
  have hg0 : Hid (W.heap[w.heap.size]? = some (.cells #[.int .i64 0, .int .i64 0, .int .i64 0, .int .i64 0, .int .i64 0, .int .i64 0, .int .i64 0, .int .i64 0] 104 (0, 0))) := by
    show _ = _
    rw [hW]; exact heap_new1 _ _ _
  have HW : Hid (W = _) := hW
  clear hW
  have hfit : Hid (0 + cs.length ≤ zeros8.toList.length) := by
    show _ ≤ 8
    have := hn.out
    have : Nat.min (xs.length - k) 4 ≤ 4 := Nat.min_le_right _ _
    omega
  have after : ∀ w4 : World, Hid (w4.heap[w.heap.size + 1]? = some (.cells (splice zeros8.toList 0 cs).toArray 104 (0, 0))) → Below (w.heap.size + 1) W.drew w4 →
      (∀ i, i < 4 → w4.cell? ⟨w.heap.size + 1, i * 2, none⟩ = some (.int .i64 (fromD xs k i).1) ∧ w4.cell? ⟨w.heap.size + 1, i * 2 + 1, none⟩ = some (.int .i64 (fromD xs k i).2)) ∧
      (∀ o, w4.cell? ⟨w.heap.size, o, none⟩ = (#[.int .i64 0, .int .i64 0, .int .i64 0, .int .i64 0, .int .i64 0, .int .i64 0, .int .i64 0, .int .i64 0] : Array Value)[o]?) ∧ (∀ o, w4.frozen? ⟨w.heap.size, o, none⟩ = false) := by
    intro w4 hg4 hb4
    refine ⟨fun i hi => ?_, ?_, ?_⟩
    · have := splice_get xs k i hi
      rw [← HCS.out] at this
      rw [cell_heap hg4.out, cell_heap hg4.out]
      simpa using this
    · have e : w4.heap[w.heap.size]? = _ := (hb4.block _ (by omega)).trans hg0.out
      exact fun o => cell_heap e o
    · have e : w4.heap[w.heap.size]? = _ := (hb4.block _ (by omega)).trans hg0.out
      exact fun o => frozen_heap e o
  have HAF := after
  have AF : Hid (∀ w4 : World, _) := HAF
  clear after HAF
  by_cases hkc : k < c
  · have hkc' : ¬ c = k := by omega
    have hpos : Hid (Nat.min (xs.length - k) 4 = 0 ∨ ∃ ad, (a.map fun x => x.add (k * 2)) = some ad ∧ ∀ j v, cs[j]? = some v → W.drew.cell? (ad.add j) = some v) := by
      show _ ∨ _
      rcases H1.out with h | ⟨b, off, rfl, h⟩
      · left; rw [h]; simp
      · right
        refine ⟨⟨b, off + k * 2, none⟩, by simp [Addr.add], fun j v hv => ?_⟩
        have e : (⟨b, off + k * 2, none⟩ : Addr).add j = ⟨b, off + k * 2 + j, none⟩ := by simp [Addr.add]
        rw [e]
        show W.cell? _ = _
        rw [hbW.out.cell (p := ⟨b, off + k * 2 + j, none⟩) h.1]
        rw [HCS.out] at hv
        exact flat_at h j v hv
    go_enter Try.func64, Try.ntmps64
    go_wp2
    rw [← HW.out]
    go_region_law (refine step_copy_fat rfl (.tmp 6) (.tmp 9) 23 23 rfl 38 2 Try.underlying23 szBox (w.heap.size + 1) 0 4 4 (a.map fun x => x.add (k * 2)) (xs.length - k) (c - k) (by simp [Act.eval, Act.put]) (by simp [Act.eval, Act.put]) zeros8.toList 104 hgW.out cs hn.out hpos.out hfit.out h1c.out (w.heap.size + 1) W.drew (Below.refl _ _) (Nat.le_refl _) ?_; intro w4 hg4 hb4)
    all_goals
      obtain ⟨q1, q2, q3⟩ := AF.out w4 hg4 hb4
      have ⟨e0, e1⟩ := q1 0 (by omega)
      have ⟨e2, e3⟩ := q1 1 (by omega)
      have ⟨e4, e5⟩ := q1 2 (by omega)
      have ⟨e6, e7⟩ := q1 3 (by omega)
      have HB4 : Hid (Below w.heap.size w w4) := hbW.out.trans (Below.trans ((Below.refl _ _).drew) (hb4.mono (by omega)))
      clear q1 hg4 hb4
      simp only [Nat.zero_mul, Nat.zero_add, Nat.one_mul, Nat.reduceMul, Nat.reduceAdd] at e0 e1 e2 e3 e4 e5 e6 e7
      go_wp2
      refine bodyPost_ret (v := .agg #[.int .i64 (fromD xs k 0).1, .int .i64 (fromD xs k 0).2, .int .i64 (fromD xs k 1).1, .int .i64 (fromD xs k 1).2, .int .i64 (fromD xs k 2).1, .int .i64 (fromD xs k 2).2, .int .i64 (fromD xs k 3).1, .int .i64 (fromD xs k 3).2]) (by simp [results, Try.results64, go_sem, q2]) rfl ⟨rfl, ?_⟩
      exact ((((((((HB4.out.setCell (Nat.le_refl _) _).setCell (Nat.le_refl _) _).setCell (Nat.le_refl _) _).setCell (Nat.le_refl _) _).setCell (Nat.le_refl _) _).setCell (Nat.le_refl _) _).setCell (Nat.le_refl _) _).setCell (Nat.le_refl _) _)
  · obtain rfl : k = c := by omega
    have hz : Hid (xs.length - k = 0) := by show _ = _; omega
    have hn0 : Hid (cs.length = Nat.min 0 4 * 2) := by have := hn.out; rw [hz.out] at this; exact this
    have hpos : Hid (Nat.min 0 4 = 0 ∨ ∃ ad, a = some ad ∧ ∀ j v, cs[j]? = some v → W.drew.cell? (ad.add j) = some v) := by
      left; rfl
    go_enter Try.func64, Try.ntmps64
    go_wp2
    rw [← HW.out]
    go_region_law (refine step_copy_fat rfl (.tmp 6) (.tmp 9) 23 23 rfl 38 2 Try.underlying23 szBox (w.heap.size + 1) 0 4 4 a 0 0 (by simp [Act.eval, Act.put]) (by simp [Act.eval, Act.put]) zeros8.toList 104 hgW.out cs hn0.out hpos.out hfit.out h1c.out (w.heap.size + 1) W.drew (Below.refl _ _) (Nat.le_refl _) ?_; intro w4 hg4 hb4)
    all_goals
      obtain ⟨q1, q2, q3⟩ := AF.out w4 hg4 hb4
      have ⟨e0, e1⟩ := q1 0 (by omega)
      have ⟨e2, e3⟩ := q1 1 (by omega)
      have ⟨e4, e5⟩ := q1 2 (by omega)
      have ⟨e6, e7⟩ := q1 3 (by omega)
      have HB4 : Hid (Below w.heap.size w w4) := hbW.out.trans (Below.trans ((Below.refl _ _).drew) (hb4.mono (by omega)))
      clear q1 hg4 hb4
      simp only [Nat.zero_mul, Nat.zero_add, Nat.one_mul, Nat.reduceMul, Nat.reduceAdd] at e0 e1 e2 e3 e4 e5 e6 e7
      go_wp2
      refine bodyPost_ret (v := .agg #[.int .i64 (fromD xs k 0).1, .int .i64 (fromD xs k 0).2, .int .i64 (fromD xs k 1).1, .int .i64 (fromD xs k 1).2, .int .i64 (fromD xs k 2).1, .int .i64 (fromD xs k 2).2, .int .i64 (fromD xs k 3).1, .int .i64 (fromD xs k 3).2]) (by simp [results, Try.results64, go_sem, q2]) rfl ⟨rfl, ?_⟩
      exact ((((((((HB4.out.setCell (Nat.le_refl _) _).setCell (Nat.le_refl _) _).setCell (Nat.le_refl _) _).setCell (Nat.le_refl _) _).setCell (Nat.le_refl _) _).setCell (Nat.le_refl _) _).setCell (Nat.le_refl _) _).setCell (Nat.le_refl _) _)
end Go.Proofs.Ytgcencilgpilaaa.Own

namespace Go.Proofs.Ytgcencilgpilaaa.Own
open Go.RowKit

def numOk2 (n : Int) : Bool := decide (-1000000 ≤ n) && decide (n ≤ 1000000)
def regOk (n : Int) : Bool := decide (0 ≤ n) && decide (n ≤ 3)
def lessOk (n : Int) : Bool := decide (1 ≤ n) && decide (n ≤ 10)
/-- An instruction is right. -/
def insOk (p : Q4) : Bool :=
  if p.1 = 1 ∨ p.1 = 2 ∨ p.1 = 4 ∨ p.1 = 5 then regOk p.2.1 && regOk p.2.2.1 && p.2.2.2 == 0
  else if p.1 = 3 then regOk p.2.1 && p.2.2.1 == 0 && numOk2 p.2.2.2
  else if p.1 = 6 then regOk p.2.1 && regOk p.2.2.1 && lessOk p.2.2.2
  else if p.1 = 7 then p.2.1 == 0 && p.2.2.1 == 0 && p.2.2.2 == 0
  else false
/-- A program is ok. -/
def progOk (xs : List Q4) : Bool := decide (xs.length ≤ 10) && xs.all insOk

theorem insOk_1 (a b n : Int) : insOk (1, a, b, n) = (regOk a && regOk b && n == 0) := rfl
theorem insOk_2 (a b n : Int) : insOk (2, a, b, n) = (regOk a && regOk b && n == 0) := rfl
theorem insOk_3 (a b n : Int) : insOk (3, a, b, n) = (regOk a && b == 0 && numOk2 n) := rfl
theorem insOk_4 (a b n : Int) : insOk (4, a, b, n) = (regOk a && regOk b && n == 0) := rfl
theorem insOk_5 (a b n : Int) : insOk (5, a, b, n) = (regOk a && regOk b && n == 0) := rfl
theorem insOk_6 (a b n : Int) : insOk (6, a, b, n) = (regOk a && regOk b && lessOk n) := rfl
theorem insOk_7 (a b n : Int) : insOk (7, a, b, n) = (a == 0 && b == 0 && n == 0) := rfl
theorem insOk_no {k : Int} (a b n : Int) (h : k ≠ 1 ∧ k ≠ 2 ∧ k ≠ 3 ∧ k ≠ 4 ∧ k ≠ 5 ∧ k ≠ 6 ∧ k ≠ 7) : insOk (k, a, b, n) = false := by
  obtain ⟨h1, h2, h3, h4, h5, h6, h7⟩ := h
  simp [insOk, h1, h2, h3, h4, h5, h6, h7]
end Go.Proofs.Ytgcencilgpilaaa.Own

namespace Go.Proofs.Ytgcencilgpilaaa.Own
open Go.RowKit
set_option linter.unusedVariables false

abbrev P2 := Int × Int
def z2 : P2 := (0, 0)

/-- What stands at a place is of a box, right, and its box has not come ahead of it. -/
def okAt (f : Int → Bool) (xs : List P2) (i : Nat) : Bool := regOk (xs.getD i (0, 0)).1 && f (xs.getD i (0, 0)).2 && !((xs.take i).any fun p => p.1 == (xs.getD i (0, 0)).1)
def okAll (f : Int → Bool) (xs : List P2) : Bool := (List.range xs.length).all (okAt f xs)
theorem okAll_iff {f : Int → Bool} {xs : List P2} : okAll f xs = true ↔ ∀ i, i < xs.length → okAt f xs i = true := by
  simp [okAll, List.all_eq_true]
theorem okAll_false {f : Int → Bool} {xs : List P2} {i : Nat} (hi : i < xs.length) (h : okAt f xs i = false) : okAll f xs = false := by
  rw [Bool.eq_false_iff]
  intro e
  rw [okAll_iff.1 e i hi] at h
  cases h

def verOk (n : Int) : Bool := decide (0 ≤ n) && decide (n ≤ 1000000)
def endOk (k v : Int) (nr np : Nat) : Bool :=
  if k = 0 then numOk v else if k = 1 ∨ k = 2 then v == 0 && decide (np = 0) else if k = 3 then v == 0 && decide (np = 0) && decide (nr = 0) else false
/-- A run is right. -/
def execOk (xs ys : List P2) (v k : Int) : Bool := endOk k v xs.length ys.length && okAll verOk xs && okAll numOk ys

theorem endOk_0 (v : Int) (nr np : Nat) : endOk 0 v nr np = numOk v := rfl
theorem endOk_1 (v : Int) (nr np : Nat) : endOk 1 v nr np = (v == 0 && decide (np = 0)) := rfl
theorem endOk_2 (v : Int) (nr np : Nat) : endOk 2 v nr np = (v == 0 && decide (np = 0)) := rfl
theorem endOk_3 (v : Int) (nr np : Nat) : endOk 3 v nr np = (v == 0 && decide (np = 0) && decide (nr = 0)) := rfl
theorem endOk_no {k : Int} (v : Int) (nr np : Nat) (h : k ≠ 0 ∧ k ≠ 1 ∧ k ≠ 2 ∧ k ≠ 3) : endOk k v nr np = false := by
  obtain ⟨h0, h1, h2, h3⟩ := h
  simp [endOk, h0, h1, h2, h3]

/-- The boxes that have come, as marks. -/
def seen (xs : List P2) (k : Nat) (j : Nat) : Bool := (xs.take k).any fun p => p.1 == (j : Int)
theorem seen_zero (xs : List P2) (j : Nat) : seen xs 0 j = false := by simp [seen]
theorem seen_succ (xs : List P2) (k j : Nat) (h : k < xs.length) : seen xs (k + 1) j = (seen xs k j || (xs.getD k (0, 0)).1 == (j : Int)) := by
  unfold seen
  rw [List.take_succ_eq_append_getElem h, List.any_append]
  simp [List.getD, h]
theorem okAt_seen (f : Int → Bool) (xs : List P2) (k : Nat) (j : Nat) (hj : (xs.getD k (0, 0)).1 = (j : Int)) : okAt f xs k = (regOk (j : Int) && f (xs.getD k (0, 0)).2 && !seen xs k j) := by
  simp only [okAt, seen, hj]
end Go.Proofs.Ytgcencilgpilaaa.Own

namespace Go.Proofs.Ytgcencilgpilaaa.Own
open Go.RowKit
set_option linter.unusedVariables false
set_option linter.unusedSimpArgs false

set_option maxHeartbeats 400000 in
theorem l2Reg (n : Int) (w : World) : Calls Try.prog 153 #[.int .i64 n] w fun e w' => e = .returned (.bool (regOk n)) ∧ w' = w := by
  have e : Hid (regOk n = (decide (0 ≤ n) && decide (n ≤ 3))) := rfl
  generalize regOk n = r at e ⊢
  by_cases h1 : 0 ≤ n
  · by_cases h2 : n < 4
    all_goals
      go_enter Try.func153, Try.ntmps153
      go_wp2
      go_ret
      exact ⟨ret_bool (by rw [e.out]; simp [h1]; omega), rfl⟩
  · have h1' : n < 0 := by omega
    go_enter Try.func153, Try.ntmps153
    go_wp2
    go_ret
    exact ⟨ret_bool (by rw [e.out]; simp; omega), rfl⟩

set_option maxHeartbeats 400000 in
theorem l2Box (n : Int) (w : World) : Calls Try.prog 72 #[.int .i64 n] w fun e w' => e = .returned (.bool (regOk n)) ∧ w' = w := by
  have e : Hid (regOk n = (decide (0 ≤ n) && decide (n ≤ 3))) := rfl
  generalize regOk n = r at e ⊢
  by_cases h1 : 0 ≤ n
  · by_cases h2 : n < 4
    all_goals
      go_enter Try.func72, Try.ntmps72
      go_wp2
      go_ret
      exact ⟨ret_bool (by rw [e.out]; simp [h1]; omega), rfl⟩
  · have h1' : n < 0 := by omega
    go_enter Try.func72, Try.ntmps72
    go_wp2
    go_ret
    exact ⟨ret_bool (by rw [e.out]; simp; omega), rfl⟩

set_option maxHeartbeats 400000 in
theorem l1Num2 (n : Int) (w : World) : Calls Try.prog 71 #[.int .i64 n] w fun e w' => e = .returned (.bool (numOk2 n)) ∧ w' = w := by
  have e : Hid (numOk2 n = (decide (-1000000 ≤ n) && decide (n ≤ 1000000))) := rfl
  generalize numOk2 n = r at e ⊢
  by_cases h1 : -1000000 ≤ n
  · by_cases h2 : n ≤ 1000000
    all_goals
      go_enter Try.func71, Try.ntmps71
      go_wp2
      go_ret
      exact ⟨ret_bool (by rw [e.out]; simp [h1, h2]), rfl⟩
  · have h1' : n < -1000000 := by omega
    go_enter Try.func71, Try.ntmps71
    go_wp2
    go_ret
    exact ⟨ret_bool (by rw [e.out]; simp; omega), rfl⟩

set_option maxRecDepth 100000 in
set_option maxHeartbeats 2000000 in
theorem l2Ins1 (a b n : Int) (w : World) : Calls Try.prog 129 #[.agg #[.int .i64 1, .int .i64 a, .int .i64 b, .int .i64 n]] w fun e w' => e = .returned (.bool (regOk a && regOk b && (n == 0))) ∧ Below w.heap.size w w' := by
  cases ha : regOk a with
  | false =>
    go_enter Try.func129, Try.ntmps129
    go_wp2_with (first | (go_at_call 153; refine (l2Reg _ _).mono ?_; rintro e w' ⟨rfl, rfl⟩) | (go_at_call 72; refine (l2Box _ _).mono ?_; rintro e w' ⟨rfl, rfl⟩) | (go_at_call 71; refine (l1Num2 _ _).mono ?_; rintro e w' ⟨rfl, rfl⟩))
    go_ret
    exact ⟨ret_bool (by simp), (Below.refl _ _).alloc (Nat.le_refl _) _⟩
  | true =>
    cases hb : regOk b with
    | false =>
      go_enter Try.func129, Try.ntmps129
      go_wp2_with (first | (go_at_call 153; refine (l2Reg _ _).mono ?_; rintro e w' ⟨rfl, rfl⟩) | (go_at_call 72; refine (l2Box _ _).mono ?_; rintro e w' ⟨rfl, rfl⟩) | (go_at_call 71; refine (l1Num2 _ _).mono ?_; rintro e w' ⟨rfl, rfl⟩))
      go_ret
      exact ⟨ret_bool (by simp), (Below.refl _ _).alloc (Nat.le_refl _) _⟩
    | true =>
      cases hn : (n == 0) with
      | false =>
        go_enter Try.func129, Try.ntmps129
        go_wp2_with (first | (go_at_call 153; refine (l2Reg _ _).mono ?_; rintro e w' ⟨rfl, rfl⟩) | (go_at_call 72; refine (l2Box _ _).mono ?_; rintro e w' ⟨rfl, rfl⟩) | (go_at_call 71; refine (l1Num2 _ _).mono ?_; rintro e w' ⟨rfl, rfl⟩))
        go_ret
        exact ⟨ret_bool (by simp), (Below.refl _ _).alloc (Nat.le_refl _) _⟩
      | true =>
        go_enter Try.func129, Try.ntmps129
        go_wp2_with (first | (go_at_call 153; refine (l2Reg _ _).mono ?_; rintro e w' ⟨rfl, rfl⟩) | (go_at_call 72; refine (l2Box _ _).mono ?_; rintro e w' ⟨rfl, rfl⟩) | (go_at_call 71; refine (l1Num2 _ _).mono ?_; rintro e w' ⟨rfl, rfl⟩))
        go_ret
        exact ⟨ret_bool (by simp), (Below.refl _ _).alloc (Nat.le_refl _) _⟩

set_option maxRecDepth 100000 in
set_option maxHeartbeats 2000000 in
theorem l2Ins2 (a b n : Int) (w : World) : Calls Try.prog 129 #[.agg #[.int .i64 2, .int .i64 a, .int .i64 b, .int .i64 n]] w fun e w' => e = .returned (.bool (regOk a && regOk b && (n == 0))) ∧ Below w.heap.size w w' := by
  cases ha : regOk a with
  | false =>
    go_enter Try.func129, Try.ntmps129
    go_wp2_with (first | (go_at_call 153; refine (l2Reg _ _).mono ?_; rintro e w' ⟨rfl, rfl⟩) | (go_at_call 72; refine (l2Box _ _).mono ?_; rintro e w' ⟨rfl, rfl⟩) | (go_at_call 71; refine (l1Num2 _ _).mono ?_; rintro e w' ⟨rfl, rfl⟩))
    go_ret
    exact ⟨ret_bool (by simp), (Below.refl _ _).alloc (Nat.le_refl _) _⟩
  | true =>
    cases hb : regOk b with
    | false =>
      go_enter Try.func129, Try.ntmps129
      go_wp2_with (first | (go_at_call 153; refine (l2Reg _ _).mono ?_; rintro e w' ⟨rfl, rfl⟩) | (go_at_call 72; refine (l2Box _ _).mono ?_; rintro e w' ⟨rfl, rfl⟩) | (go_at_call 71; refine (l1Num2 _ _).mono ?_; rintro e w' ⟨rfl, rfl⟩))
      go_ret
      exact ⟨ret_bool (by simp), (Below.refl _ _).alloc (Nat.le_refl _) _⟩
    | true =>
      cases hn : (n == 0) with
      | false =>
        go_enter Try.func129, Try.ntmps129
        go_wp2_with (first | (go_at_call 153; refine (l2Reg _ _).mono ?_; rintro e w' ⟨rfl, rfl⟩) | (go_at_call 72; refine (l2Box _ _).mono ?_; rintro e w' ⟨rfl, rfl⟩) | (go_at_call 71; refine (l1Num2 _ _).mono ?_; rintro e w' ⟨rfl, rfl⟩))
        go_ret
        exact ⟨ret_bool (by simp), (Below.refl _ _).alloc (Nat.le_refl _) _⟩
      | true =>
        go_enter Try.func129, Try.ntmps129
        go_wp2_with (first | (go_at_call 153; refine (l2Reg _ _).mono ?_; rintro e w' ⟨rfl, rfl⟩) | (go_at_call 72; refine (l2Box _ _).mono ?_; rintro e w' ⟨rfl, rfl⟩) | (go_at_call 71; refine (l1Num2 _ _).mono ?_; rintro e w' ⟨rfl, rfl⟩))
        go_ret
        exact ⟨ret_bool (by simp), (Below.refl _ _).alloc (Nat.le_refl _) _⟩

set_option maxRecDepth 100000 in
set_option maxHeartbeats 2000000 in
theorem l2Ins3 (a b n : Int) (w : World) : Calls Try.prog 129 #[.agg #[.int .i64 3, .int .i64 a, .int .i64 b, .int .i64 n]] w fun e w' => e = .returned (.bool (regOk a && (b == 0) && numOk2 n)) ∧ Below w.heap.size w w' := by
  cases ha : regOk a with
  | false =>
    go_enter Try.func129, Try.ntmps129
    go_wp2_with (first | (go_at_call 153; refine (l2Reg _ _).mono ?_; rintro e w' ⟨rfl, rfl⟩) | (go_at_call 72; refine (l2Box _ _).mono ?_; rintro e w' ⟨rfl, rfl⟩) | (go_at_call 71; refine (l1Num2 _ _).mono ?_; rintro e w' ⟨rfl, rfl⟩))
    go_ret
    exact ⟨ret_bool (by simp), (Below.refl _ _).alloc (Nat.le_refl _) _⟩
  | true =>
    cases hb : (b == 0) with
    | false =>
      go_enter Try.func129, Try.ntmps129
      go_wp2_with (first | (go_at_call 153; refine (l2Reg _ _).mono ?_; rintro e w' ⟨rfl, rfl⟩) | (go_at_call 72; refine (l2Box _ _).mono ?_; rintro e w' ⟨rfl, rfl⟩) | (go_at_call 71; refine (l1Num2 _ _).mono ?_; rintro e w' ⟨rfl, rfl⟩))
      go_ret
      exact ⟨ret_bool (by simp), (Below.refl _ _).alloc (Nat.le_refl _) _⟩
    | true =>
      cases hn : numOk2 n with
      | false =>
        go_enter Try.func129, Try.ntmps129
        go_wp2_with (first | (go_at_call 153; refine (l2Reg _ _).mono ?_; rintro e w' ⟨rfl, rfl⟩) | (go_at_call 72; refine (l2Box _ _).mono ?_; rintro e w' ⟨rfl, rfl⟩) | (go_at_call 71; refine (l1Num2 _ _).mono ?_; rintro e w' ⟨rfl, rfl⟩))
        go_ret
        exact ⟨ret_bool (by simp), (Below.refl _ _).alloc (Nat.le_refl _) _⟩
      | true =>
        go_enter Try.func129, Try.ntmps129
        go_wp2_with (first | (go_at_call 153; refine (l2Reg _ _).mono ?_; rintro e w' ⟨rfl, rfl⟩) | (go_at_call 72; refine (l2Box _ _).mono ?_; rintro e w' ⟨rfl, rfl⟩) | (go_at_call 71; refine (l1Num2 _ _).mono ?_; rintro e w' ⟨rfl, rfl⟩))
        go_ret
        exact ⟨ret_bool (by simp), (Below.refl _ _).alloc (Nat.le_refl _) _⟩

set_option maxRecDepth 100000 in
set_option maxHeartbeats 2000000 in
theorem l2Ins4 (a b n : Int) (w : World) : Calls Try.prog 129 #[.agg #[.int .i64 4, .int .i64 a, .int .i64 b, .int .i64 n]] w fun e w' => e = .returned (.bool (regOk a && regOk b && (n == 0))) ∧ Below w.heap.size w w' := by
  cases ha : regOk a with
  | false =>
    go_enter Try.func129, Try.ntmps129
    go_wp2_with (first | (go_at_call 153; refine (l2Reg _ _).mono ?_; rintro e w' ⟨rfl, rfl⟩) | (go_at_call 72; refine (l2Box _ _).mono ?_; rintro e w' ⟨rfl, rfl⟩) | (go_at_call 71; refine (l1Num2 _ _).mono ?_; rintro e w' ⟨rfl, rfl⟩))
    go_ret
    exact ⟨ret_bool (by simp), (Below.refl _ _).alloc (Nat.le_refl _) _⟩
  | true =>
    cases hb : regOk b with
    | false =>
      go_enter Try.func129, Try.ntmps129
      go_wp2_with (first | (go_at_call 153; refine (l2Reg _ _).mono ?_; rintro e w' ⟨rfl, rfl⟩) | (go_at_call 72; refine (l2Box _ _).mono ?_; rintro e w' ⟨rfl, rfl⟩) | (go_at_call 71; refine (l1Num2 _ _).mono ?_; rintro e w' ⟨rfl, rfl⟩))
      go_ret
      exact ⟨ret_bool (by simp), (Below.refl _ _).alloc (Nat.le_refl _) _⟩
    | true =>
      cases hn : (n == 0) with
      | false =>
        go_enter Try.func129, Try.ntmps129
        go_wp2_with (first | (go_at_call 153; refine (l2Reg _ _).mono ?_; rintro e w' ⟨rfl, rfl⟩) | (go_at_call 72; refine (l2Box _ _).mono ?_; rintro e w' ⟨rfl, rfl⟩) | (go_at_call 71; refine (l1Num2 _ _).mono ?_; rintro e w' ⟨rfl, rfl⟩))
        go_ret
        exact ⟨ret_bool (by simp), (Below.refl _ _).alloc (Nat.le_refl _) _⟩
      | true =>
        go_enter Try.func129, Try.ntmps129
        go_wp2_with (first | (go_at_call 153; refine (l2Reg _ _).mono ?_; rintro e w' ⟨rfl, rfl⟩) | (go_at_call 72; refine (l2Box _ _).mono ?_; rintro e w' ⟨rfl, rfl⟩) | (go_at_call 71; refine (l1Num2 _ _).mono ?_; rintro e w' ⟨rfl, rfl⟩))
        go_ret
        exact ⟨ret_bool (by simp), (Below.refl _ _).alloc (Nat.le_refl _) _⟩

set_option maxRecDepth 100000 in
set_option maxHeartbeats 2000000 in
theorem l2Ins5 (a b n : Int) (w : World) : Calls Try.prog 129 #[.agg #[.int .i64 5, .int .i64 a, .int .i64 b, .int .i64 n]] w fun e w' => e = .returned (.bool (regOk a && regOk b && (n == 0))) ∧ Below w.heap.size w w' := by
  cases ha : regOk a with
  | false =>
    go_enter Try.func129, Try.ntmps129
    go_wp2_with (first | (go_at_call 153; refine (l2Reg _ _).mono ?_; rintro e w' ⟨rfl, rfl⟩) | (go_at_call 72; refine (l2Box _ _).mono ?_; rintro e w' ⟨rfl, rfl⟩) | (go_at_call 71; refine (l1Num2 _ _).mono ?_; rintro e w' ⟨rfl, rfl⟩))
    go_ret
    exact ⟨ret_bool (by simp), (Below.refl _ _).alloc (Nat.le_refl _) _⟩
  | true =>
    cases hb : regOk b with
    | false =>
      go_enter Try.func129, Try.ntmps129
      go_wp2_with (first | (go_at_call 153; refine (l2Reg _ _).mono ?_; rintro e w' ⟨rfl, rfl⟩) | (go_at_call 72; refine (l2Box _ _).mono ?_; rintro e w' ⟨rfl, rfl⟩) | (go_at_call 71; refine (l1Num2 _ _).mono ?_; rintro e w' ⟨rfl, rfl⟩))
      go_ret
      exact ⟨ret_bool (by simp), (Below.refl _ _).alloc (Nat.le_refl _) _⟩
    | true =>
      cases hn : (n == 0) with
      | false =>
        go_enter Try.func129, Try.ntmps129
        go_wp2_with (first | (go_at_call 153; refine (l2Reg _ _).mono ?_; rintro e w' ⟨rfl, rfl⟩) | (go_at_call 72; refine (l2Box _ _).mono ?_; rintro e w' ⟨rfl, rfl⟩) | (go_at_call 71; refine (l1Num2 _ _).mono ?_; rintro e w' ⟨rfl, rfl⟩))
        go_ret
        exact ⟨ret_bool (by simp), (Below.refl _ _).alloc (Nat.le_refl _) _⟩
      | true =>
        go_enter Try.func129, Try.ntmps129
        go_wp2_with (first | (go_at_call 153; refine (l2Reg _ _).mono ?_; rintro e w' ⟨rfl, rfl⟩) | (go_at_call 72; refine (l2Box _ _).mono ?_; rintro e w' ⟨rfl, rfl⟩) | (go_at_call 71; refine (l1Num2 _ _).mono ?_; rintro e w' ⟨rfl, rfl⟩))
        go_ret
        exact ⟨ret_bool (by simp), (Below.refl _ _).alloc (Nat.le_refl _) _⟩

set_option maxRecDepth 100000 in
set_option maxHeartbeats 2000000 in
theorem l2Ins7 (a b n : Int) (w : World) : Calls Try.prog 129 #[.agg #[.int .i64 7, .int .i64 a, .int .i64 b, .int .i64 n]] w fun e w' => e = .returned (.bool ((a == 0) && (b == 0) && (n == 0))) ∧ Below w.heap.size w w' := by
  cases ha : (a == 0) with
  | false =>
    go_enter Try.func129, Try.ntmps129
    go_wp2_with (first | (go_at_call 153; refine (l2Reg _ _).mono ?_; rintro e w' ⟨rfl, rfl⟩) | (go_at_call 72; refine (l2Box _ _).mono ?_; rintro e w' ⟨rfl, rfl⟩) | (go_at_call 71; refine (l1Num2 _ _).mono ?_; rintro e w' ⟨rfl, rfl⟩))
    go_ret
    exact ⟨ret_bool (by simp), (Below.refl _ _).alloc (Nat.le_refl _) _⟩
  | true =>
    cases hb : (b == 0) with
    | false =>
      go_enter Try.func129, Try.ntmps129
      go_wp2_with (first | (go_at_call 153; refine (l2Reg _ _).mono ?_; rintro e w' ⟨rfl, rfl⟩) | (go_at_call 72; refine (l2Box _ _).mono ?_; rintro e w' ⟨rfl, rfl⟩) | (go_at_call 71; refine (l1Num2 _ _).mono ?_; rintro e w' ⟨rfl, rfl⟩))
      go_ret
      exact ⟨ret_bool (by simp), (Below.refl _ _).alloc (Nat.le_refl _) _⟩
    | true =>
      cases hn : (n == 0) with
      | false =>
        go_enter Try.func129, Try.ntmps129
        go_wp2_with (first | (go_at_call 153; refine (l2Reg _ _).mono ?_; rintro e w' ⟨rfl, rfl⟩) | (go_at_call 72; refine (l2Box _ _).mono ?_; rintro e w' ⟨rfl, rfl⟩) | (go_at_call 71; refine (l1Num2 _ _).mono ?_; rintro e w' ⟨rfl, rfl⟩))
        go_ret
        exact ⟨ret_bool (by simp), (Below.refl _ _).alloc (Nat.le_refl _) _⟩
      | true =>
        go_enter Try.func129, Try.ntmps129
        go_wp2_with (first | (go_at_call 153; refine (l2Reg _ _).mono ?_; rintro e w' ⟨rfl, rfl⟩) | (go_at_call 72; refine (l2Box _ _).mono ?_; rintro e w' ⟨rfl, rfl⟩) | (go_at_call 71; refine (l1Num2 _ _).mono ?_; rintro e w' ⟨rfl, rfl⟩))
        go_ret
        exact ⟨ret_bool (by simp), (Below.refl _ _).alloc (Nat.le_refl _) _⟩

set_option maxRecDepth 100000 in
set_option maxHeartbeats 2000000 in
theorem l2Ins6 (a b n : Int) (w : World) : Calls Try.prog 129 #[.agg #[.int .i64 6, .int .i64 a, .int .i64 b, .int .i64 n]] w fun e w' => e = .returned (.bool (regOk a && regOk b && lessOk n)) ∧ Below w.heap.size w w' := by
  cases ha : regOk a with
  | false =>
    go_enter Try.func129, Try.ntmps129
    go_wp2_with (first | (go_at_call 153; refine (l2Reg _ _).mono ?_; rintro e w' ⟨rfl, rfl⟩) | (go_at_call 72; refine (l2Box _ _).mono ?_; rintro e w' ⟨rfl, rfl⟩) | (go_at_call 71; refine (l1Num2 _ _).mono ?_; rintro e w' ⟨rfl, rfl⟩))
    go_ret
    exact ⟨ret_bool (by simp), (Below.refl _ _).alloc (Nat.le_refl _) _⟩
  | true =>
    cases hb : regOk b with
    | false =>
      go_enter Try.func129, Try.ntmps129
      go_wp2_with (first | (go_at_call 153; refine (l2Reg _ _).mono ?_; rintro e w' ⟨rfl, rfl⟩) | (go_at_call 72; refine (l2Box _ _).mono ?_; rintro e w' ⟨rfl, rfl⟩) | (go_at_call 71; refine (l1Num2 _ _).mono ?_; rintro e w' ⟨rfl, rfl⟩))
      go_ret
      exact ⟨ret_bool (by simp), (Below.refl _ _).alloc (Nat.le_refl _) _⟩
    | true =>
      have e : Hid (lessOk n = (decide (1 ≤ n) && decide (n ≤ 10))) := rfl
      generalize lessOk n = r at e ⊢
      by_cases h1 : 1 ≤ n
      · by_cases h2 : n ≤ 10
        all_goals
          go_enter Try.func129, Try.ntmps129
          go_wp2_with (first | (go_at_call 153; refine (l2Reg _ _).mono ?_; rintro e w' ⟨rfl, rfl⟩) | (go_at_call 72; refine (l2Box _ _).mono ?_; rintro e w' ⟨rfl, rfl⟩) | (go_at_call 71; refine (l1Num2 _ _).mono ?_; rintro e w' ⟨rfl, rfl⟩))
          go_ret
          exact ⟨ret_bool (by rw [e.out]; simp [h1, h2]), (Below.refl _ _).alloc (Nat.le_refl _) _⟩
      · have h1' : n < 1 := by omega
        have h1'' : decide (1 ≤ n) = false := by simpa using h1
        go_enter Try.func129, Try.ntmps129
        go_wp2_with (first | (go_at_call 153; refine (l2Reg _ _).mono ?_; rintro e w' ⟨rfl, rfl⟩) | (go_at_call 72; refine (l2Box _ _).mono ?_; rintro e w' ⟨rfl, rfl⟩) | (go_at_call 71; refine (l1Num2 _ _).mono ?_; rintro e w' ⟨rfl, rfl⟩))
        go_ret
        exact ⟨ret_bool (by rw [e.out, h1'']; rfl), (Below.refl _ _).alloc (Nat.le_refl _) _⟩

/-- A kind that there is not. -/
def NoKindS (k : Int) : Prop := (k == 1) = false ∧ (k == 2) = false ∧ (k == 3) = false ∧ (k == 4) = false ∧ (k == 5) = false ∧ (k == 6) = false ∧ (k == 7) = false
theorem noKindS_of {k : Int} (h1 : k ≠ 1) (h2 : k ≠ 2) (h3 : k ≠ 3) (h4 : k ≠ 4) (h5 : k ≠ 5) (h6 : k ≠ 6) (h7 : k ≠ 7) : NoKindS k := by
  simp [NoKindS, h1, h2, h3, h4, h5, h6, h7]

set_option maxRecDepth 100000 in
set_option maxHeartbeats 2000000 in
theorem l2InsNo (k a b n : Int) (w : World) (h : NoKindS k) : Calls Try.prog 129 #[.agg #[.int .i64 k, .int .i64 a, .int .i64 b, .int .i64 n]] w fun e w' => e = .returned (.bool false) ∧ Below w.heap.size w w' := by
  obtain ⟨h1, h2, h3, h4, h5, h6, h7⟩ := h
  go_enter Try.func129, Try.ntmps129
  go_wp2
  go_ret
  exact ⟨rfl, (Below.refl _ _).alloc (Nat.le_refl _) _⟩

theorem l2Ins (p : Q4) (w : World) : Calls Try.prog 129 #[.agg #[.int .i64 p.1, .int .i64 p.2.1, .int .i64 p.2.2.1, .int .i64 p.2.2.2]] w fun e w' => e = .returned (.bool (insOk p)) ∧ Below w.heap.size w w' := by
  obtain ⟨k, a, b, n⟩ := p
  by_cases h1 : k = 1
  · subst h1; rw [insOk_1]; exact l2Ins1 a b n w
  by_cases h2 : k = 2
  · subst h2; rw [insOk_2]; exact l2Ins2 a b n w
  by_cases h3 : k = 3
  · subst h3; rw [insOk_3]; exact l2Ins3 a b n w
  by_cases h4 : k = 4
  · subst h4; rw [insOk_4]; exact l2Ins4 a b n w
  by_cases h5 : k = 5
  · subst h5; rw [insOk_5]; exact l2Ins5 a b n w
  by_cases h6 : k = 6
  · subst h6; rw [insOk_6]; exact l2Ins6 a b n w
  by_cases h7 : k = 7
  · subst h7; rw [insOk_7]; exact l2Ins7 a b n w
  · rw [insOk_no a b n ⟨h1, h2, h3, h4, h5, h6, h7⟩]
    exact l2InsNo k a b n w (noKindS_of h1 h2 h3 h4 h5 h6 h7)
end Go.Proofs.Ytgcencilgpilaaa.Own

namespace Go.Proofs.Ytgcencilgpilaaa.Own
open Go.RowKit
set_option linter.unusedVariables false
set_option linter.unusedSimpArgs false

theorem any_take_succP {xs : List P2} {k : Nat} (n : Int) (h : k < xs.length) : ((xs.take (k + 1)).any fun p => p.1 == n) = (((xs.take k).any fun p => p.1 == n) || (xs.getD k (0, 0)).1 == n) := by
  rw [List.take_succ_eq_append_getElem h, List.any_append]
  simp [List.getD, h]
theorem any_at {xs : List P2} {k : Nat} {n : Int} (h : k < xs.length) (e : ((xs.getD k (0, 0)).1 == n) = true) : (xs.any fun p => p.1 == n) = true := by
  rw [List.any_eq_true]
  exact ⟨xs.getD k (0, 0), by simp [List.getD, h], e⟩

set_option maxRecDepth 100000 in
set_option maxHeartbeats 1000000 in
theorem l3Saw (a : Option Addr) (c n : Nat) (xs : List P2) (z : Int) (w : World) (h : Sl w a xs) (hl : xs.length = n) (hn : n ≤ 2 ^ 40) :
    Calls Try.prog 73 #[.slice a n c, .int .i64 z] w fun e w' => e = .returned (.bool (xs.any fun p => p.1 == z)) ∧ w' = w := by
  subst hl
  have H1 : Hid (Sl w a xs) := h
  clear h
  go_enter Try.func73, Try.ntmps73
  go_wp2
  go_loop [5] (fun i => ∃ k : Nat, k ≤ xs.length ∧ i = .int .i64 k ∧ Hid (((xs.take k).any fun p => p.1 == z) = false)) (fun i => xs.length - (intOf i).toNat)
  case atStart => exact ⟨0, Nat.zero_le _, rfl, rfl⟩
  case round =>
    obtain ⟨k, hk, rfl, hA⟩ := hrel
    by_cases hlt : k < xs.length
    · rcases H1.out with h | ⟨b1, o1, rfl, h1⟩
      · subst h; simp at hlt
      obtain ⟨ca, cb⟩ := h1.2 k hlt
      have HT : Hid (((xs.take (k + 1)).any fun p => p.1 == z) = (((xs.take k).any fun p => p.1 == z) || (xs.getD k (0, 0)).1 == z)) := any_take_succP z hlt
      have HY : Hid (((xs.getD k (0, 0)).1 == z) = true → (xs.any fun p => p.1 == z) = true) := any_at hlt
      obtain ⟨p, hp⟩ : ∃ p, p = (xs.getD k (0, 0)).1 := ⟨_, rfl⟩
      rw [← hp] at ca
      have HP : Hid (p = (xs.getD k (0, 0)).1) := hp
      clear hp h1 cb
      cases t : (p == z) with
      | true =>
        have Y : Hid ((xs.any fun p => p.1 == z) = true) := HY.out (by rw [← HP.out]; exact t)
        clear HY HT
        go_wp2
        go_ret
        exact ⟨ret_bool Y.out.symm, rfl⟩
      | false =>
        have N : Hid (((xs.take (k + 1)).any fun p => p.1 == z) = false) := by show _ = _; rw [HT.out, hA.out, ← HP.out, t]; rfl
        clear HY HT
        go_wp2
        go_round
        case rel => exact ⟨k + 1, by omega, by go_num, N⟩
        case measure => simp [intOf]; omega
    · go_wp2
      go_ret
      have : k = xs.length := by omega
      subst this
      have h := hA.out
      rw [List.take_length] at h
      exact ⟨ret_bool h.symm, rfl⟩

/-- The place of a box among what is put, or -1. -/
def placeOf (xs : List P2) (z : Int) : Int := if (xs.any fun p => p.1 == z) then ((xs.findIdx fun p => p.1 == z) : Nat) else -1

theorem placeOf_at {xs : List P2} {k : Nat} {z : Int} (h : k < xs.length) (e : ((xs.getD k (0, 0)).1 == z) = true) (h0 : ((xs.take k).any fun p => p.1 == z) = false) : placeOf xs z = k := by
  unfold placeOf
  rw [if_pos (any_at h e)]
  have : xs.findIdx (fun p => p.1 == z) = k := by
    rw [List.findIdx_eq h]
    refine ⟨by simpa [List.getD, h] using e, fun j hj => ?_⟩
    rw [List.any_eq_false] at h0
    have := h0 (xs[j]'(by omega)) (by rw [List.mem_take_iff_getElem]; exact ⟨j, by omega, rfl⟩)
    simpa using this
  rw [this]
theorem placeOf_none {xs : List P2} {z : Int} (h : (xs.any fun p => p.1 == z) = false) : placeOf xs z = -1 := by
  simp [placeOf, h]
theorem placeOf_neg (xs : List P2) (z : Int) : decide (placeOf xs z ≥ 0) = (xs.any fun p => p.1 == z) := by
  unfold placeOf
  cases h : (xs.any fun p => p.1 == z) with
  | true => simp
  | false => simp

set_option maxRecDepth 100000 in
set_option maxHeartbeats 1000000 in
theorem l3At (a : Option Addr) (c n : Nat) (xs : List P2) (z : Int) (w : World) (h : Sl w a xs) (hl : xs.length = n) (hn : n ≤ 2 ^ 40) :
    Calls Try.prog 74 #[.slice a n c, .int .i64 z] w fun e w' => e = .returned (.int .i64 (placeOf xs z)) ∧ w' = w := by
  subst hl
  have H1 : Hid (Sl w a xs) := h
  clear h
  go_enter Try.func74, Try.ntmps74
  go_wp2
  go_loop [5] (fun i => ∃ k : Nat, k ≤ xs.length ∧ i = .int .i64 k ∧ Hid (((xs.take k).any fun p => p.1 == z) = false)) (fun i => xs.length - (intOf i).toNat)
  case atStart => exact ⟨0, Nat.zero_le _, rfl, rfl⟩
  case round =>
    obtain ⟨k, hk, rfl, hA⟩ := hrel
    by_cases hlt : k < xs.length
    · rcases H1.out with h | ⟨b1, o1, rfl, h1⟩
      · subst h; simp at hlt
      obtain ⟨ca, cb⟩ := h1.2 k hlt
      have HT : Hid (((xs.take (k + 1)).any fun p => p.1 == z) = (((xs.take k).any fun p => p.1 == z) || (xs.getD k (0, 0)).1 == z)) := any_take_succP z hlt
      have HY : Hid (((xs.getD k (0, 0)).1 == z) = true → placeOf xs z = k) := fun e => placeOf_at hlt e hA.out
      obtain ⟨p, hp⟩ : ∃ p, p = (xs.getD k (0, 0)).1 := ⟨_, rfl⟩
      rw [← hp] at ca
      have HP : Hid (p = (xs.getD k (0, 0)).1) := hp
      clear hp h1 cb
      cases t : (p == z) with
      | true =>
        have Y : Hid (placeOf xs z = k) := HY.out (by rw [← HP.out]; exact t)
        clear HY HT
        go_wp2
        go_ret
        exact ⟨ret_int Y.out.symm, rfl⟩
      | false =>
        have N : Hid (((xs.take (k + 1)).any fun p => p.1 == z) = false) := by show _ = _; rw [HT.out, hA.out, ← HP.out, t]; rfl
        clear HY HT
        go_wp2
        go_round
        case rel => exact ⟨k + 1, by omega, by go_num, N⟩
        case measure => simp [intOf]; omega
    · go_wp2
      go_ret
      have : k = xs.length := by omega
      subst this
      have h := hA.out
      rw [List.take_length] at h
      exact ⟨ret_int (placeOf_none h).symm, rfl⟩
end Go.Proofs.Ytgcencilgpilaaa.Own

namespace Go.Proofs.Ytgcencilgpilaaa.Own
open Go.RowKit

/-- A run under way: the registers, what it looked into, what it would put, its code. -/
structure RunSt where
  regs : List Int
  reads : List P2
  puts : List P2
  code : Int

def hasBox (ys : List P2) (j : Nat) : Bool := ys.any fun p => p.1 == (j : Int)
def idxBox (ys : List P2) (j : Nat) : Nat := ys.findIdx fun p => p.1 == (j : Int)
/-- What is in a box for a run. -/
def inBox (bs ys : List P2) (j : Nat) : Int := if hasBox ys j then (ys.getD (idxBox ys j) (0, 0)).2 else (bs.getD j (0, 0)).2
/-- What it has looked into, when it has looked there. -/
def lookR (bs xs ys : List P2) (j : Nat) : List P2 := if hasBox ys j then xs else if hasBox xs j then xs else xs ++ [((j : Int), (bs.getD j (0, 0)).1)]
/-- What it would put, when n is put there. -/
def putP (ys : List P2) (j : Nat) (n : Int) : List P2 := if hasBox ys j then ys.set (idxBox ys j) ((ys.getD (idxBox ys j) (0, 0)).1, n) else ys ++ [((j : Int), n)]

def setReg (s : RunSt) (a : Nat) (n : Int) : RunSt := { s with regs := s.regs.set a n, code := if numOk n then s.code else 2 }
/-- An instruction that is no ProgLess. -/
def stepR (bs : List P2) (s : RunSt) (p : Q4) : RunSt :=
  if p.1 = 1 then setReg { s with reads := lookR bs s.reads s.puts p.2.2.1.toNat } p.2.1.toNat (inBox bs s.puts p.2.2.1.toNat)
  else if p.1 = 2 then { s with puts := putP s.puts p.2.1.toNat (s.regs.getD p.2.2.1.toNat 0) }
  else if p.1 = 3 then setReg s p.2.1.toNat p.2.2.2
  else if p.1 = 4 then setReg s p.2.1.toNat (s.regs.getD p.2.1.toNat 0 + s.regs.getD p.2.2.1.toNat 0)
  else if p.1 = 5 then setReg s p.2.1.toNat (s.regs.getD p.2.1.toNat 0 - s.regs.getD p.2.2.1.toNat 0)
  else { s with code := 1 }
/-- A run from instruction k on. -/
def runR (bs : List P2) (xs : List Q4) (k : Nat) (s : RunSt) : RunSt :=
  if h : k < xs.length then
    if s.code = 0 then
      if (xs.getD k q0).1 = 6 then
        if s.regs.getD (xs.getD k q0).2.1.toNat 0 < s.regs.getD (xs.getD k q0).2.2.1.toNat 0 then runR bs xs (k + (xs.getD k q0).2.2.2.toNat + 1) s else runR bs xs (k + 1) s
      else runR bs xs (k + 1) (stepR bs s (xs.getD k q0))
    else s
  else s
termination_by xs.length - k

structure RunOut where
  reads : List P2
  puts : List P2
  val : Int
  code : Int
def outR (s : RunSt) : RunOut := if s.code = 0 then ⟨s.reads, s.puts, s.regs.getD 0 0, 0⟩ else ⟨s.reads, [], 0, s.code⟩
def initR : RunSt := ⟨[0, 0, 0, 0], [], [], 0⟩
/-- What a run says. -/
def execRun (bs : List P2) (xs : List Q4) : RunOut := if boxOk bs && progOk xs then outR (runR bs xs 0 initR) else ⟨[], [], 0, 3⟩

theorem place_idx (ys : List P2) (j : Nat) (h : hasBox ys j = true) : placeOf ys (j : Int) = ((idxBox ys j : Nat) : Int) ∧ idxBox ys j < ys.length := by
  refine ⟨if_pos h, ?_⟩
  unfold hasBox at h
  rw [List.any_eq_true] at h
  obtain ⟨x, hx, hp⟩ := h
  exact List.findIdx_lt_length_of_exists ⟨x, hx, hp⟩
theorem place_no (ys : List P2) (j : Nat) (h : hasBox ys j = false) : placeOf ys (j : Int) = -1 := placeOf_none h
end Go.Proofs.Ytgcencilgpilaaa.Own

namespace Go.Proofs.Ytgcencilgpilaaa.Own
open Go.RowKit

theorem owned_box {w : World} {base m : Nat} {v : Value} {xs : List (Int × Int)} (h : w.ownsRow base 38 2 v m (flat xs)) (hm : 0 < m) :
    ∃ g cap, v = .slice (some ⟨g, 0, none⟩) m cap ∧ base ≤ g ∧ m ≤ cap ∧ BoxAt w g 0 xs ∧ (∀ o, w.frozen? ⟨g, o, none⟩ = false) := by
  obtain ⟨hl, h⟩ := h
  rcases h with ⟨_, h0⟩ | ⟨g, cap, cur, hv, hb, hh, hmc, _, hsz, htk⟩
  · omega
  refine ⟨g, cap, hv, hb, hmc, ⟨(Array.getElem?_eq_some_iff.1 hh).1, fun i hi => ?_⟩, fun o => frozen_heap hh o⟩
  have e := flat_even xs i hi
  rw [flat_length] at hl
  rw [← htk] at e
  rw [cell_heap hh, cell_heap hh, Nat.zero_add]
  rw [List.getElem?_take_of_lt (by omega), List.getElem?_take_of_lt (by omega)] at e
  simpa using e

theorem flat_at0 {w : World} {b : Nat} {xs : List (Int × Int)} (h : BoxAt w b 0 xs) (j : Nat) (v : Value) (hv : (flat xs)[j]? = some v) : w.cell? ((⟨b, 0, none⟩ : Addr).add j) = some v := by
  have e : (⟨b, 0, none⟩ : Addr).add j = ⟨b, j, none⟩ := by unfold Addr.add; split <;> simp_all
  have hl : j < (flat xs).length := (List.getElem?_eq_some_iff.1 hv).1
  rw [flat_length] at hl
  have hk : j / 2 < xs.length := by omega
  have f := flat_even _ (j / 2) hk
  have hx := h.2 (j / 2) hk
  rw [Nat.zero_add] at hx
  rw [e]
  rcases Nat.mod_two_eq_zero_or_one j with m | m
  · rw [show j / 2 * 2 = j by omega] at f hx
    rw [hx.1, ← f.1, hv]
  · rw [show j / 2 * 2 + 1 = j by omega] at f hx
    rw [hx.2, ← f.2, hv]

theorem own_empty (w : World) (N : Nat) (hN : w.heap.size = N) : (w.alloc (.cells #[] 38)).ownsRow N 38 2 (.slice (some ⟨N, 0, none⟩) 0 0) 0 [] := by
  subst hN
  exact ⟨rfl, .inr ⟨w.heap.size, 0, #[], rfl, Nat.le_refl _, heap_new _ _, Nat.le_refl _, by unfold maxLen; omega, rfl, rfl⟩⟩

theorem small_max {n : Nat} (h : n ≤ 4) : 0 + n ≤ maxLen := by unfold maxLen; omega

/-- What an append onto an empty row of one's own leaves. -/
theorem grown_box {w w' : World} {v' : Value} {xs : List (Int × Int)} {N : Nat} (hN : w.heap.size = N) (hl : 0 < xs.length) (h : w'.ownsRow N 38 2 v' xs.length (flat xs)) (hg : (w.alloc (.cells #[] 38)).grownBy w' (Value.slice (some ⟨N, 0, none⟩) 0 0).ownBlock) :
    ∃ g cap, v' = .slice (some ⟨g, 0, none⟩) xs.length cap ∧ N ≤ g ∧ xs.length ≤ cap ∧ BoxAt w' g 0 xs ∧ (∀ o, w'.frozen? ⟨g, o, none⟩ = false) ∧ Below N w w' := by
  subst hN
  obtain ⟨g, cap, h1, h2, h3, h4, h5⟩ := owned_box h hl
  refine ⟨g, cap, h1, h2, h3, h4, h5, ?_⟩
  refine Below.grown ((Below.refl _ _).alloc (Nat.le_refl _) _) hg (by rw [size_new]; omega) ?_
  intro k hk
  simp only [Value.ownBlock] at hk
  injection hk with hk
  omega

theorem flat_atO {w : World} {b off : Nat} {xs : List (Int × Int)} (h : BoxAt w b off xs) (j : Nat) (v : Value) (hv : (flat xs)[j]? = some v) : w.cell? ((⟨b, off, none⟩ : Addr).add j) = some v := by
  have e : (⟨b, off, none⟩ : Addr).add j = ⟨b, off + j, none⟩ := by unfold Addr.add; split <;> simp_all
  have hl : j < (flat xs).length := (List.getElem?_eq_some_iff.1 hv).1
  rw [flat_length] at hl
  have hk : j / 2 < xs.length := by omega
  have f := flat_even _ (j / 2) hk
  have hx := h.2 (j / 2) hk
  rw [e]
  rcases Nat.mod_two_eq_zero_or_one j with m | m
  · rw [show j / 2 * 2 = j by omega] at f hx
    rw [hx.1, ← f.1, hv]
  · rw [show off + j / 2 * 2 + 1 = off + j by omega] at hx
    rw [show j / 2 * 2 + 1 = j by omega] at f
    rw [hx.2, ← f.2, hv]

theorem infoBoxO : (Try.prog.info? 38).map (fun i => (i.zero, i.size, i.bytes)) = some (some (.agg #[.int .i64 0, .int .i64 0]), 2, 16) := by kernel_rfl
end Go.Proofs.Ytgcencilgpilaaa.Own

namespace Go.Proofs.Ytgcencilgpilaaa.Own
open Go.RowKit
set_option linter.unusedVariables false

/-- v is a slice of the pairs xs, of element type t, its memory from B on its own. -/
def OwnP (t : TypeId) (w : World) (B : Nat) (v : Value) (xs : List P2) : Prop := w.ownsRow B t 2 v xs.length (flat xs)

theorem OwnP.open {t : TypeId} {w : World} {B : Nat} {v : Value} {xs : List P2} (h : OwnP t w B v xs) :
    ∃ a cap, v = .slice a xs.length cap ∧ Sl w a xs ∧ xs.length ≤ cap ∧ cap ≤ maxLen ∧ (∀ x, a = some x → v.ownBlock = some x.block ∧ x.off = 0 ∧ x.spot = none) := by
  obtain ⟨h1, h2⟩ := h
  rcases h2 with ⟨hv, h0⟩ | ⟨g, cap, cur, hv, hg, hh, hmc, hml, hsz, htk⟩
  · exact ⟨none, 0, by rw [hv, h0], .inl (List.eq_nil_of_length_eq_zero h0), by omega, by unfold maxLen; omega, fun x e => by cases e⟩
  · refine ⟨some ⟨g, 0, none⟩, cap, hv, .inr ⟨g, 0, rfl, (Array.getElem?_eq_some_iff.1 hh).1, fun i hi => ?_⟩, hmc, hml, fun x e => by injection e with e; subst e; rw [hv]; exact ⟨rfl, rfl, rfl⟩⟩
    have e := flat_even xs i hi
    rw [← htk] at e
    rw [cell_heap hh, cell_heap hh, Nat.zero_add]
    rw [List.getElem?_take_of_lt (by omega), List.getElem?_take_of_lt (by omega)] at e
    simpa using e
theorem OwnP.keep {t : TypeId} {w w' : World} {B : Nat} {v : Value} {xs : List P2} {row : Option Nat} (h : OwnP t w B v xs) (hg : w.grownBy w' row) (hne : v.ownBlock = none ∨ v.ownBlock ≠ row) : OwnP t w' B v xs := World.ownsRow.kept h hg hne
theorem OwnP.below {t : TypeId} {w w' : World} {B : Nat} {v : Value} {xs : List P2} (h : OwnP t w B v xs) (hb : Below w.heap.size w w') : OwnP t w' B v xs := by
  obtain ⟨h1, h2⟩ := h
  refine ⟨h1, ?_⟩
  rcases h2 with h2 | ⟨g, cap, cur, hv, hg, hh, r⟩
  · exact .inl h2
  · exact .inr ⟨g, cap, cur, hv, hg, by rw [hb.block g (Array.getElem?_eq_some_iff.1 hh).1]; exact hh, r⟩
theorem OwnP.lower {t : TypeId} {w : World} {B B' : Nat} {v : Value} {xs : List P2} (h : OwnP t w B v xs) (hB : B' ≤ B) : OwnP t w B' v xs := by
  obtain ⟨h1, h2⟩ := h
  refine ⟨h1, ?_⟩
  rcases h2 with h2 | ⟨g, cap, cur, hv, hg, r⟩
  · exact .inl h2
  · exact .inr ⟨g, cap, cur, hv, Nat.le_trans hB hg, r⟩
theorem OwnP.nil (t : TypeId) (w : World) (B : Nat) : OwnP t w B (.slice none 0 0) [] := World.ownsRow_nil _ _ _ _
theorem flat_snocP (xs : List P2) (p : P2) : flat (xs ++ [p]) = flat xs ++ [.int .i64 p.1, .int .i64 p.2] := by simp [flat]

theorem flat_extP {xs : List P2} {l : List Value} (hl : l.length = xs.length * 2) (h : ∀ i, i < xs.length → l[i * 2]? = some (.int .i64 (xs.getD i (0, 0)).1) ∧ l[i * 2 + 1]? = some (.int .i64 (xs.getD i (0, 0)).2)) : l = flat xs := by
  apply List.ext_getElem?
  intro j
  by_cases hj : j < xs.length * 2
  · have hk : j / 2 < xs.length := by omega
    have e1 := h (j / 2) hk
    have e2 := flat_even xs (j / 2) hk
    rcases Nat.mod_two_eq_zero_or_one j with m | m
    · rw [show j = j / 2 * 2 by omega, e1.1, e2.1]
    · rw [show j = j / 2 * 2 + 1 by omega, e1.2, e2.2]
  · rw [List.getElem?_eq_none (by omega), List.getElem?_eq_none (by rw [flat_length]; omega)]

theorem getD_setP (xs : List P2) (i j : Nat) (v : P2) (hi : i < xs.length) : (xs.set i v).getD j (0, 0) = if i = j then v else xs.getD j (0, 0) := by
  simp only [List.getD_eq_getElem?_getD, List.getElem?_set]
  by_cases e : i = j
  · simp [e, show j < xs.length by omega]
  · simp [e]

/-- The second number of a pair of such a slice, turned. -/
theorem OwnP.set {t : TypeId} {w : World} {B g cap : Nat} {xs : List P2} (h : OwnP t w B (.slice (some ⟨g, 0, none⟩) xs.length cap) xs) (i : Nat) (hi : i < xs.length) (n : Int) :
    OwnP t (w.setCell ⟨g, i * 2 + 1, none⟩ (.int .i64 n)) B (.slice (some ⟨g, 0, none⟩) xs.length cap) (xs.set i ((xs.getD i (0, 0)).1, n)) := by
  obtain ⟨h1, h2⟩ := h
  rcases h2 with ⟨hv, h0⟩ | ⟨g', cap', cur, hv, hg, hh, hmc, hml, hsz, htk⟩
  · omega
  injection hv with e1 e2 e3
  injection e1 with e1
  injection e1 with e1
  subst e1 e3
  have hl2 := flat_length xs
  refine ⟨by rw [flat_length], .inr ⟨g, cap, cur.setIfInBounds (i * 2 + 1) (.int .i64 n), by rw [List.length_set], hg, ?_, by rw [List.length_set]; exact hmc, hml, by simpa using hsz, ?_⟩⟩
  · simp [World.setCell, Array.getElem?_modify, hh]
  · rw [List.length_set]
    have hcl : xs.length * 2 ≤ cur.size := by rw [hsz]; omega
    apply flat_extP
    · rw [List.length_set, List.length_take]
      simp
      omega
    · intro j hj
      rw [List.length_set] at hj
      have e := flat_even xs j hj
      rw [← htk, List.getElem?_take_of_lt (by omega), List.getElem?_take_of_lt (by omega)] at e
      rw [List.getElem?_take_of_lt (by omega), List.getElem?_take_of_lt (by omega), getD_setP _ _ _ _ hi]
      by_cases hij : i = j
      · subst hij
        rw [if_pos rfl]
        refine ⟨?_, ?_⟩
        · have := e.1
          simp only [Array.getElem?_toList] at this ⊢
          rw [Array.getElem?_setIfInBounds_ne (by omega)]; exact this
        · simp only [Array.getElem?_toList]
          rw [Array.getElem?_setIfInBounds_self_of_lt (by omega)]
      · rw [if_neg hij]
        refine ⟨?_, ?_⟩
        · have := e.1
          simp only [Array.getElem?_toList] at this ⊢
          rw [Array.getElem?_setIfInBounds_ne (by omega)]; exact this
        · have := e.2
          simp only [Array.getElem?_toList] at this ⊢
          rw [Array.getElem?_setIfInBounds_ne (by omega)]; exact this
end Go.Proofs.Ytgcencilgpilaaa.Own

namespace Go.Proofs.Ytgcencilgpilaaa.Own
open Go.RowKit
set_option linter.unusedVariables false

theorem grR (w : World) (row : Option Nat) : w.grownBy w row := ⟨rfl, rfl, rfl, Nat.le_refl _, fun _ _ _ => rfl⟩
theorem grSet {a b : World} {k o : Nat} (h : a.grownBy b (some k)) (v : Value) : a.grownBy (b.setCell ⟨k, o, none⟩ v) (some k) :=
  ⟨h.os, h.tape, h.output, by simpa [World.setCell] using h.size, fun i hi hn => by rw [Below.heap_setCell _ _ _ _ (fun e => hn (by rw [e]))]; exact h.block i hi hn⟩
theorem grSetN {a b : World} {row : Option Nat} {p : Addr} (h : a.grownBy b row) (hp : a.heap.size ≤ p.block) (v : Value) : a.grownBy (b.setCell p v) row :=
  ⟨h.os, h.tape, h.output, by simpa [World.setCell] using h.size, fun i hi hn => by rw [Below.heap_setCell _ _ _ _ (by omega)]; exact h.block i hi hn⟩
theorem grAlloc {a b : World} {row : Option Nat} (h : a.grownBy b row) (o : Obj) : a.grownBy (b.alloc o) row := h.trans ((World.grownBy_alloc b o row))
theorem grDrew {a b : World} {row : Option Nat} (h : a.grownBy b row) : a.grownBy b.drew row := h.trans ⟨rfl, rfl, rfl, Nat.le_refl _, fun _ _ _ => rfl⟩
theorem grDrewN {a b : World} {row : Option Nat} (h : a.grownBy b row) (n : Nat) : a.grownBy (b.drewN n) row := h.trans ⟨rfl, rfl, rfl, Nat.le_refl _, fun _ _ _ => rfl⟩
theorem grBelow {w w' : World} {row : Option Nat} (h : Below w.heap.size w w') : w.grownBy w' row := ⟨h.os, h.tape, h.output, h.size, fun k hk _ => h.block k hk⟩
theorem grBut {a b : World} (h : a.grownBy b none) (row : Option Nat) : a.grownBy b row := ⟨h.os, h.tape, h.output, h.size, fun i hi _ => h.block i hi (by simp)⟩
/-- A block that was not there may turn. -/
theorem grNew {a b c : World} {row : Option Nat} {k : Nat} (h : a.grownBy b row) (g : b.grownBy c (some k)) (hk : a.heap.size ≤ k) : a.grownBy c row :=
  ⟨g.os.trans h.os, g.tape.trans h.tape, g.output.trans h.output, Nat.le_trans h.size g.size, fun i hi hn => (g.block i (Nat.lt_of_lt_of_le hi h.size) (by simp; omega)).trans (h.block i hi hn)⟩
theorem Sl.grown {w w' : World} {row : Option Nat} {a : Option Addr} {xs : List (Int × Int)} (h : Sl w a xs) (hg : w.grownBy w' row) (hb : ∀ x, a = some x → row ≠ some x.block) : Sl w' a xs := by
  rcases h with h | ⟨b, off, rfl, h⟩
  · exact .inl h
  · have e : ∀ o, w'.cell? ⟨b, o, none⟩ = w.cell? ⟨b, o, none⟩ := fun o => World.cell?_of_block (w := w) (a := ⟨b, o, none⟩) (hg.block b h.1 (fun e => hb _ rfl e.symm))
    exact .inr ⟨b, off, rfl, Nat.lt_of_lt_of_le h.1 hg.size, fun i hi => by rw [e, e]; exact h.2 i hi⟩
end Go.Proofs.Ytgcencilgpilaaa.Own
