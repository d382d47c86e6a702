/-
  Own text: what spec.l2Bent does.
-/
import Derived.Test.YtgcencilgpilaaaDrawProg
namespace Go.Proofs.Ytgcencilgpilaaa.Own
open Go.RowKit
set_option linter.unusedVariables false
set_option linter.unusedSimpArgs false

theorem OwnQ.cells {w : World} {B g cap : Nat} {xs : List Q4} (h : OwnQ w B (.slice (some ⟨g, 0, none⟩) xs.length cap) xs) : B ≤ g ∧ At4 w g 0 xs ∧ (∀ o, w.frozen? ⟨g, o, none⟩ = false) ∧ xs.length ≤ cap := by
  obtain ⟨h1, h2⟩ := h
  rcases h2 with ⟨hv, _⟩ | ⟨g', cap', cur, hv, hg, hh, hmc, hml, hsz, htk⟩
  · cases hv
  injection hv with e1 e2 e3
  injection e1 with e1
  injection e1 with e1
  subst e1 e3
  refine ⟨hg, ⟨(Array.getElem?_eq_some_iff.1 hh).1, fun i hi => ?_⟩, fun o => frozen_heap hh o, hmc⟩
  have e := flat4_get xs i hi
  rw [← htk, List.getElem?_take_of_lt (by omega), List.getElem?_take_of_lt (by omega), List.getElem?_take_of_lt (by omega), List.getElem?_take_of_lt (by omega)] at e
  rw [cell_heap hh, cell_heap hh, cell_heap hh, cell_heap hh, Nat.zero_add]
  simpa using e

def sLen : Value → Nat
  | .slice _ n _ => n
  | _ => 0

/-- A drawn program, in memory of its own. -/
def DrawnQ (w w' : World) (rb B p : Nat) (e : Ending) : Prop := ∃ g cap xs, e = .returned (.slice (some ⟨g, 0, none⟩) xs.length cap) ∧ OwnQ w' w.heap.size (.slice (some ⟨g, 0, none⟩) xs.length cap) xs ∧ xs.length ≤ 11 ∧ Sm4 xs ∧ (∃ p', p' ≤ p + 110 ∧ Rd w' rb B p') ∧ Bar rb w w'

set_option maxRecDepth 100000 in
set_option maxHeartbeats 4000000 in
theorem l2Bent (rb B p : Nat) (w : World) (h : Rd w rb B p) (hp : p ≤ 2 ^ 28) :
    Calls Try.prog 81 #[.pointer (some ⟨rb, 0, none⟩)] w fun e w' => DrawnQ w w' rb B p e := by
  have HR : Hid (Rd w rb B p) := h
  have hrb : rb < w.heap.size := Nat.lt_of_lt_of_le h.1 h.2.1
  have HBs : Hid (B ≤ w.heap.size) := h.2.1
  clear h
  go_enter Try.func81, Try.ntmps81
  go_wp2_with fail
  refine (l2Prog rb B p w HR.out (by omega)).mono ?_
  rintro e w1 ⟨g, cap, xs, rfl, hown, hl, hsm, ⟨p1, hp1, hrd⟩, hbar⟩
  have OW : Hid (OwnQ w1 w.heap.size (.slice (some ⟨g, 0, none⟩) xs.length cap) xs) := hown
  have SM : Hid (Sm4 xs) := hsm
  have D1 : Hid (Rd w1 rb B p1) := hrd
  have B1 : Hid (Bar rb w w1) := hbar
  clear hown hsm hrd hbar
  by_cases hz : xs.length = 0
  · have hz' : ((xs.length : Int) == 0) = true := by simp [hz]
    have HZ : Hid (xs.length = 0) := hz
    clear hz
    go_wp2
    go_ret
    exact ⟨g, cap, xs, rfl, OW.out, by omega, SM.out, ⟨_, by omega, D1.out⟩, B1.out⟩
  have hz' : ((xs.length : Int) == 0) = false := by rw [beq_eq_false_iff_ne]; omega
  go_wp2_with fail
  refine (pick rb B p1 xs.length w1 D1.out (by omega) (by omega) (by omega)).mono ?_
  rintro e w2 ⟨⟨k, rfl, k0, k1⟩, hR, hO⟩
  obtain ⟨k, rfl⟩ := Int.eq_ofNat_of_zero_le k0
  have hk : k < xs.length := by omega
  have OW2 : Hid (OwnQ w2 w.heap.size (.slice (some ⟨g, 0, none⟩) xs.length cap) xs) := OW.out.bar2 (Bar.ofOnly hO) hrb
  have D2 : Hid (Rd w2 rb B (p1 + 1)) := hR
  have B2 : Hid (Bar rb w w2) := B1.out.trans (Bar.ofOnly hO)
  clear hR hO k0
  go_wp2_with fail
  refine (pick rb B (p1 + 1) 40 w2 D2.out (by omega) (by omega) (by omega)).mono ?_
  rintro e w3 ⟨⟨c, rfl, c0, c1⟩, hR, hO⟩
  have OW3 : Hid (OwnQ w3 w.heap.size (.slice (some ⟨g, 0, none⟩) xs.length cap) xs) := OW2.out.bar2 (Bar.ofOnly hO) hrb
  have D3 : Hid (Rd w3 rb B (p1 + 1 + 1)) := hR
  have B3 : Hid (Bar rb w w3) := B2.out.trans (Bar.ofOnly hO)
  clear hR hO
  have hgw : w.heap.size ≤ g := OW3.out.cells.1
  have hki : (k : Int) < (xs.length : Int) := by omega
  have hbs := HBs.out
  have EN : Hid (∀ (W : World) (f : Nat) (n : Int), f < 4 → -2000000 ≤ n ∧ n ≤ 2000000 → OwnQ W w.heap.size (.slice (some ⟨g, 0, none⟩) xs.length cap) xs → (∃ p', p' ≤ p + 110 ∧ Rd W rb B p') → Bar rb w W → DrawnQ w (W.setCell ⟨g, k * 4 + f, none⟩ (.int .i64 n)) rb B p (.returned (.slice (some ⟨g, 0, none⟩) xs.length cap))) := by
    intro W f n hf hn ho hr hb
    obtain ⟨p', hp', hr⟩ := hr
    have hs := ho.set k f hk hf n _ rfl
    refine ⟨g, cap, xs.set k (if f = 0 then n else (xs.getD k q0).1, if f = 1 then n else (xs.getD k q0).2.1, if f = 2 then n else (xs.getD k q0).2.2.1, if f = 3 then n else (xs.getD k q0).2.2.2), by rw [List.length_set], by rw [List.length_set]; exact hs, by rw [List.length_set]; omega, SM.out.set k hk ?_, ⟨p', hp', hr.setCell (q := ⟨g, k * 4 + f, none⟩) (Nat.le_trans hbs hgw) _⟩, hb.setCell (p := ⟨g, k * 4 + f, none⟩) hgw _⟩
    have hq := SM.out k hk
    refine ⟨?_, ?_, ?_, ?_⟩
    · show (-2000000 : Int) ≤ (if f = 0 then n else _) ∧ (if f = 0 then n else _) ≤ (2000000 : Int)
      split
      · exact hn
      · exact hq.1
    · show (-2000000 : Int) ≤ (if f = 1 then n else _) ∧ (if f = 1 then n else _) ≤ (2000000 : Int)
      split
      · exact hn
      · exact hq.2.1
    · show (-2000000 : Int) ≤ (if f = 2 then n else _) ∧ (if f = 2 then n else _) ≤ (2000000 : Int)
      split
      · exact hn
      · exact hq.2.2.1
    · show (-2000000 : Int) ≤ (if f = 3 then n else _) ∧ (if f = 3 then n else _) ≤ (2000000 : Int)
      split
      · exact hn
      · exact hq.2.2.2
  cases t0 : (c == 0) with
  | true =>
    go_wp2_with fail
    refine (num rb B (p1 + 1 + 1) w3.heap.size 2 2 [0, 8] _ (D3.out.alloc _) (by omega) (nums_newQ _ _ _ _ rfl) rfl (by omega) (by omega) (by have := B3.out.size; omega)).mono ?_
    rintro e w4 ⟨⟨n, rfl, hn⟩, hR, hO⟩
    have OW4 : Hid (OwnQ w4 w.heap.size (.slice (some ⟨g, 0, none⟩) xs.length cap) xs) := (OW3.out.keep (below_new _ _)).bar2 (Bar.ofOnly hO) hrb
    have D4 : Hid (Rd w4 rb B (p1 + 1 + 1 + 1)) := hR
    have B4 : Hid (Bar rb w w4) := (B3.out.alloc _).trans (Bar.ofOnly hO)
    have HN : Hid (-2000000 ≤ n ∧ n ≤ 2000000) := by show _ ∧ _; simp at hn; omega
    obtain ⟨_, at4, fr4, _⟩ := OW4.out.cells
    have cc := (at4.2 k hk).1
    have ff := fr4 (k * 4)
    rw [Nat.zero_add] at cc
    clear hR hO hn at4 fr4
    go_wp2
    go_ret
    exact EN.out w4 0 n (by omega) HN.out OW4.out ⟨_, by omega, D4.out⟩ B4.out
  | false =>
    cases t1 : (c == 1) with
    | true =>
      go_wp2_with fail
      refine (num rb B (p1 + 1 + 1) w3.heap.size 2 2 [-1, 4] _ (D3.out.alloc _) (by omega) (nums_newQ _ _ _ _ rfl) rfl (by omega) (by omega) (by have := B3.out.size; omega)).mono ?_
      rintro e w4 ⟨⟨n, rfl, hn⟩, hR, hO⟩
      have OW4 : Hid (OwnQ w4 w.heap.size (.slice (some ⟨g, 0, none⟩) xs.length cap) xs) := (OW3.out.keep (below_new _ _)).bar2 (Bar.ofOnly hO) hrb
      have D4 : Hid (Rd w4 rb B (p1 + 1 + 1 + 1)) := hR
      have B4 : Hid (Bar rb w w4) := (B3.out.alloc _).trans (Bar.ofOnly hO)
      have HN : Hid (-2000000 ≤ n ∧ n ≤ 2000000) := by show _ ∧ _; simp at hn; omega
      obtain ⟨_, at4, fr4, _⟩ := OW4.out.cells
      have cc := (at4.2 k hk).2.1
      have ff := fr4 (k * 4 + 1)
      rw [Nat.zero_add] at cc
      clear hR hO hn at4 fr4
      go_wp2
      go_ret
      exact EN.out w4 1 n (by omega) HN.out OW4.out ⟨_, by omega, D4.out⟩ B4.out
    | false =>
      cases t2 : (c == 2) with
      | true =>
        go_wp2_with fail
        refine (num rb B (p1 + 1 + 1) w3.heap.size 3 3 [-1, 11, 2000000] _ (D3.out.alloc _) (by omega) (nums_newQ _ _ _ _ rfl) rfl (by omega) (by omega) (by have := B3.out.size; omega)).mono ?_
        rintro e w4 ⟨⟨n, rfl, hn⟩, hR, hO⟩
        have OW4 : Hid (OwnQ w4 w.heap.size (.slice (some ⟨g, 0, none⟩) xs.length cap) xs) := (OW3.out.keep (below_new _ _)).bar2 (Bar.ofOnly hO) hrb
        have D4 : Hid (Rd w4 rb B (p1 + 1 + 1 + 1)) := hR
        have B4 : Hid (Bar rb w w4) := (B3.out.alloc _).trans (Bar.ofOnly hO)
        have HN : Hid (-2000000 ≤ n ∧ n ≤ 2000000) := by show _ ∧ _; simp at hn; omega
        obtain ⟨_, at4, fr4, _⟩ := OW4.out.cells
        have cc := (at4.2 k hk).2.2.2
        have ff := fr4 (k * 4 + 3)
        rw [Nat.zero_add] at cc
        clear hR hO hn at4 fr4
        go_wp2
        go_ret
        exact EN.out w4 3 n (by omega) HN.out OW4.out ⟨_, by omega, D4.out⟩ B4.out
      | false =>
        cases t3 : (c == 3) with
        | false =>
          go_wp2
          go_ret
          exact ⟨g, cap, xs, rfl, OW3.out, by omega, SM.out, ⟨_, by omega, D3.out⟩, B3.out⟩
        | true =>
          clear EN
          go_wp2_with fail
          go_loopw [3] (fun v wr => ∃ g cap zs, v = .slice (some ⟨g, 0, none⟩) zs.length cap ∧ OwnQ wr w.heap.size (.slice (some ⟨g, 0, none⟩) zs.length cap) zs ∧ k < zs.length ∧ zs.length ≤ 11 ∧ Sm4 zs ∧ Rd wr rb B (p1 + 1 + 1) ∧ Bar rb w wr) (fun v _ => 11 - sLen v)
          case atStart => exact ⟨g, cap, xs, rfl, OW3.out, hk, by omega, SM.out, D3.out, B3.out⟩
          case round =>
            clear OW OW2 OW3 D1 D2 D3 B1 B2 B3 SM hgw hki hk k1 hz hz' hl
            obtain ⟨g, cap, zs, rfl, hown, hk, hl, hsm, hrd, hbar⟩ := hrel
            have OW3 : Hid (OwnQ wr w.heap.size (.slice (some ⟨g, 0, none⟩) zs.length cap) zs) := hown
            have SM : Hid (Sm4 zs) := hsm
            have D3 : Hid (Rd wr rb B (p1 + 1 + 1)) := hrd
            have B3 : Hid (Bar rb w wr) := hbar
            have hki : (k : Int) < (zs.length : Int) := by omega
            clear hown hsm hrd hbar
            by_cases hlt : zs.length < 11
            · obtain ⟨i0, hi, hz0, hz1, hz2⟩ := info_parts infoInsD
              have I0 : Hid (Try.prog.info? 156 = some i0 ∧ i0.zero = some (.agg #[.int .i64 0, .int .i64 0, .int .i64 0, .int .i64 0]) ∧ i0.size = 4 ∧ i0.bytes = 32) := ⟨hi, hz0, hz1, hz2⟩
              clear hi hz0 hz1 hz2
              obtain ⟨hgw, at4, fr4, _⟩ := OW3.out.cells
              obtain ⟨ca, cb, cc, cd⟩ := at4.2 k hk
              have HQ : Hid (SmQ (zs.getD k q0)) := SM.out k hk
              obtain ⟨q, hq⟩ : ∃ q, q = zs.getD k q0 := ⟨_, rfl⟩
              rw [← hq] at ca cb cc cd HQ
              rw [Nat.zero_add] at ca cb cc cd
              obtain ⟨q1, q2, q3, q4⟩ := q
              clear hq at4 fr4
              go_wp2_with (at_builtin; refine wpList_append_lies _ rfl (.tmp 49) (.tmp 54) 51 rfl w.heap.size 156 i0 (.agg #[.int .i64 0, .int .i64 0, .int .i64 0, .int .i64 0]) 4 32 Try.underlying51 I0.out.1 I0.out.2.1 I0.out.2.2.1 I0.out.2.2.2 rfl (by decide) (.slice (some ⟨g, 0, none⟩) zs.length cap) zs.length (flat4 zs) rfl (OwnQ.keep OW3.out (below_new _ _)) ⟨wr.heap.size, 0, none⟩ 1 1 [.int .i64 q1, .int .i64 q2, .int .i64 q3, .int .i64 q4] rfl rfl (four_new _ _ _ _ _) (by simp [Value.oneCell']) (by decide) (by unfold maxLen; omega) (by omega) (by have := B3.out.size; rw [size_new]; omega) (wr.heap.size + 1) (size_new _ _) ?_)
              intro g4 cap4 w4 hown4 hgr hloc hg4
              have OW4 : Hid (OwnQ w4 w.heap.size (.slice (some ⟨g4, 0, none⟩) (zs ++ [(q1, q2, q3, q4)]).length cap4) (zs ++ [(q1, q2, q3, q4)])) := by
                show OwnQ _ _ _ _
                unfold OwnQ
                rw [List.length_append, flat4_snoc]
                exact hown4
              have D4 : Hid (Rd w4 rb B (p1 + 1 + 1)) := (D3.out.alloc _).grown hgr (fun k hk => by simp only [Value.ownBlock] at hk; injection hk with hk; omega)
              have B4 : Hid (Bar rb w w4) := (B3.out.alloc _).grown hgr (fun k hk => by simp only [Value.ownBlock] at hk; injection hk with hk; omega)
              clear hown4 hgr hloc hg4 ca cb cc cd
              go_wp2
              go_roundw
              case rel => exact ⟨g4, cap4, zs ++ [(q1, q2, q3, q4)], by simp, OW4.out, by simp; omega, by simp; omega, SM.out.snoc HQ.out, D4.out, B4.out⟩
              case measure => simp [sLen]; omega
            · go_wp2
              go_ret
              exact ⟨g, cap, zs, rfl, OW3.out, hl, SM.out, ⟨_, by omega, D3.out⟩, B3.out⟩
end Go.Proofs.Ytgcencilgpilaaa.Own
