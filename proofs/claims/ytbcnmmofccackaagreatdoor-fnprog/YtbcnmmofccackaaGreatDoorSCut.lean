/-
  Own text: what spec.l15Cut does.
-/
import Derived.Test.YtbcnmmofccackaaGreatDoorSNum
import Derived.OwnWalk
namespace Go.Proofs.YtbcnmmofccackaaGreatDoor.Own
open Go.RowKit
set_option linter.unusedVariables false
set_option linter.unusedSimpArgs false

theorem infoStr : (Tryz.prog.info? 9).map (fun i => (i.zero, i.size, i.bytes)) = some (some (.string ⟨#[]⟩), 1, 16) := by kernel_rfl

def CutSt (c : UInt8) (l : List UInt8) (k f : Nat) (ps : List (List UInt8)) : Prop :=
  (k ≤ l.length ∧ f ≤ k ∧ cutAll c [] l = ps ++ cutAll c ((l.drop f).take (k - f)) (l.drop k)) ∨ (k = l.length + 1 ∧ ps = cutAll c [] l)

theorem CutSt.le {c : UInt8} {l : List UInt8} {k f : Nat} {ps : List (List UInt8)} (h : CutSt c l k f ps) (hk : k ≤ l.length) : f ≤ k := by
  rcases h with h | h
  · exact h.2.1
  · omega
theorem cut_end {c : UInt8} {l : List UInt8} {k f : Nat} {ps : List (List UInt8)} (h : CutSt c l k f ps) (hk : k = l.length) : CutSt c l (k + 1) (k + 1) (ps ++ [(l.drop f).take (k - f)]) := by
  rcases h with ⟨h1, h2, h3⟩ | ⟨h1, h2⟩
  · refine .inr ⟨by omega, ?_⟩
    rw [h3, List.drop_of_length_le (by omega : l.length ≤ k)]; rfl
  · omega
theorem drop_of {l : List UInt8} {k : Nat} {b : UInt8} (h : l[k]? = some b) : l.drop k = b :: l.drop (k + 1) := by
  obtain ⟨h1, h2⟩ := List.getElem?_eq_some_iff.1 h
  rw [List.drop_eq_getElem_cons h1, h2]
theorem cut_hit {c : UInt8} {l : List UInt8} {k f : Nat} {ps : List (List UInt8)} (h : CutSt c l k f ps) (hb : l[k]? = some c) : CutSt c l (k + 1) (k + 1) (ps ++ [(l.drop f).take (k - f)]) := by
  have hl := (List.getElem?_eq_some_iff.1 hb).1
  rcases h with ⟨h1, h2, h3⟩ | ⟨h1, h2⟩
  · refine .inl ⟨by omega, Nat.le_refl _, ?_⟩
    rw [h3, drop_of hb]
    simp [cutAll]
  · omega
theorem cut_miss {c : UInt8} {l : List UInt8} {k f : Nat} {ps : List (List UInt8)} {b : UInt8} (h : CutSt c l k f ps) (hb : l[k]? = some b) (h32 : b ≠ c) : CutSt c l (k + 1) f ps := by
  have hl := (List.getElem?_eq_some_iff.1 hb).1
  rcases h with ⟨h1, h2, h3⟩ | ⟨h1, h2⟩
  · refine .inl ⟨by omega, by omega, ?_⟩
    rw [h3, drop_of hb, cutAll, if_neg h32]
    congr 2
    rw [show k + 1 - f = (k - f) + 1 by omega, List.take_add_one]
    congr 1
    rw [List.getElem?_drop, show f + (k - f) = k by omega, hb]; rfl
  · omega

theorem extract_str (s : ByteArray) (f k : Nat) : s.extract f k = str ((s.data.toList.drop f).take (k - f)) := Lib.extract_eq s f k

def strV (p : List UInt8) : Value := .string (str p)

/-- Texts in memory. -/
def Strs (w : World) (g : Nat) (ps : List (List UInt8)) : Prop := g < w.heap.size ∧ ∀ i p, ps[i]? = some p → w.cell? ⟨g, i, none⟩ = some (.string (str p))

theorem strs_of {w : World} {B : Nat} {v : Value} {ps : List (List UInt8)} (h : w.ownsRow B 9 1 v ps.length (ps.map strV)) (hne : ps ≠ []) : ∃ g cap, Ending.returned v = .returned (.slice (some ⟨g, 0, none⟩) ps.length cap) ∧ B ≤ g ∧ Strs w g ps := by
  obtain ⟨hl, h⟩ := h
  rcases h with ⟨_, h0⟩ | ⟨g, cap, cur, hv, hb, hh, hmc, _, hsz, htk⟩
  · exact absurd (List.eq_nil_of_length_eq_zero h0) hne
  refine ⟨g, cap, by rw [hv], hb, (Array.getElem?_eq_some_iff.1 hh).1, fun i p hp => ?_⟩
  have hlt := (List.getElem?_eq_some_iff.1 hp).1
  rw [cell_heap hh]
  have e : (cur.toList.take (ps.length * 1))[i]? = some (strV p) := by
    rw [htk, List.getElem?_map, hp]; rfl
  rw [List.getElem?_take_of_lt (by omega)] at e
  simp only [Array.getElem?_toList] at e
  exact e

theorem one_new (w : World) (v : Value) : ∀ j u, [v][j]? = some u → (w.alloc (.cells #[v] 9)).cell? ((⟨w.heap.size, 0, none⟩ : Addr).add j) = some u := by
  intro j u hj
  match j, hj with
  | 0, hj => simp at hj; subst hj; simp [Addr.add]

set_option maxRecDepth 100000 in
set_option maxHeartbeats 4000000 in
theorem l15CutB (c : UInt8) (ci : Int) (hci : ci = (c.toNat : Int)) (s : ByteArray) (w : World) (hs : s.size ≤ 1000) : Calls Tryz.prog 31 #[.string s, .int .u8 ci] w fun e w' =>
    (∃ g cap, e = .returned (.slice (some ⟨g, 0, none⟩) (cutAll c [] s.data.toList).length cap) ∧ w.heap.size ≤ g ∧ Strs w' g (cutAll c [] s.data.toList)) ∧ Below w.heap.size w w' := by
  obtain ⟨ti, hi, hz0, hz1, hz2⟩ : ∃ i, Tryz.prog.info? 9 = some i ∧ i.zero = some (.string ⟨#[]⟩) ∧ i.size = 1 ∧ i.bytes = 16 := by
    have h := infoStr
    cases hq : Tryz.prog.info? 9 with
    | none => rw [hq] at h; cases h
    | some i => rw [hq] at h; simp at h; exact ⟨i, rfl, h.1, h.2.1, h.2.2⟩
  have IH : Hid (Tryz.prog.info? 9 = some ti ∧ ti.zero = some (.string ⟨#[]⟩) ∧ ti.size = 1 ∧ ti.bytes = 16) := ⟨hi, hz0, hz1, hz2⟩
  clear hi hz0 hz1 hz2
  have SL : Hid (s.data.toList.length = s.size) := size_list s
  have HCI : Hid (ci = (c.toNat : Int)) := hci
  clear hci
  go_enter Tryz.func31, Tryz.ntmps31
  go_wp2
  go_loopw [5, 6, 7] (fun o f i wr => ∃ (k fr : Nat) (ps : List (List UInt8)), k ≤ s.size + 1 ∧ fr ≤ s.size + 1 ∧ i = .int .i64 k ∧ f = .int .i64 fr ∧ ps.length ≤ k ∧ CutSt c s.data.toList k fr ps ∧ wr.ownsRow w.heap.size 9 1 o ps.length (ps.map strV) ∧ Below w.heap.size w wr) (fun _ _ i _ => s.size + 1 - (intOf i).toNat)
  case atStart =>
    refine ⟨0, 0, [], by omega, by omega, rfl, rfl, Nat.le_refl _, .inl ⟨Nat.zero_le _, Nat.le_refl _, by simp⟩, ?_, (Below.refl _ _).alloc (Nat.le_refl _) _⟩
    exact ⟨rfl, .inr ⟨w.heap.size, 0, #[], rfl, Nat.le_refl _, heap_new _ _, Nat.le_refl _, by unfold maxLen; omega, rfl, rfl⟩⟩
  case round =>
    obtain ⟨k, fr, ps, hk, hf, rfl, rfl, hpl, hcs, hown, hbel⟩ := hrel
    have HC : Hid (CutSt c s.data.toList k fr ps) := hcs
    have HO : Hid (wr.ownsRow w.heap.size 9 1 u5 ps.length (ps.map strV)) := hown
    have HB : Hid (Below w.heap.size w wr) := hbel
    clear hcs hown hbel
    by_cases hle : k ≤ s.size
    · have hfk : fr ≤ k := HC.out.le (by rw [SL.out]; exact hle)
      obtain ⟨t, ht⟩ : ∃ t, t = s.extract fr k := ⟨_, rfl⟩
      have HTT : Hid (t = str ((s.data.toList.drop fr).take (k - fr))) := by show _ = _; rw [ht]; exact extract_str s fr k
      have hsl : (Instr.slice 9 (.string s) (some (.int .i64 fr)) (some (.int .i64 k)) none).run Tryz.prog wr = .ok (.string t) wr := by
        rw [run_slice_string (P := Tryz.prog) wr 9 s .i64 .i64 fr k Tryz.underlying9 (by omega) (by omega) (by omega), ht]
        simp
      clear ht
      by_cases hke : k = s.size
      · have NEXT : Hid (CutSt c s.data.toList (k + 1) (k + 1) (ps ++ [(s.data.toList.drop fr).take (k - fr)])) := cut_end HC.out (by rw [SL.out]; exact hke)
        subst hke
        go_wp2_with (at_builtin; refine wpList_append_own _ rfl _ _ 48 rfl w.heap.size 9 ti (.string ⟨#[]⟩) 1 16 Tryz.underlying48 IH.out.1 IH.out.2.1 IH.out.2.2.1 IH.out.2.2.2 rfl (by decide) _ _ _ rfl (HO.out.alloc _) ⟨wr.heap.size, 0, none⟩ 1 1 [.string t] rfl rfl (one_new _ _) (by intro u hu; simp at hu; subst hu; rfl) (by unfold maxLen; omega) (by omega) (by have := HB.out.size; rw [size_new]; omega) ?_)
        intro v' w2 hown' hgrow _
        have OW : Hid (w2.ownsRow w.heap.size 9 1 v' (ps ++ [(s.data.toList.drop fr).take (s.size - fr)]).length ((ps ++ [(s.data.toList.drop fr).take (s.size - fr)]).map strV)) := by
          show World.ownsRow _ _ _ _ _ _ _
          rw [List.length_append, List.map_append, List.length_singleton]
          rw [HTT.out] at hown'
          exact hown'
        have BW : Hid (Below w.heap.size w w2) := (HB.out.alloc HB.out.size _).grown hgrow (by have := HB.out.size; rw [size_new]; omega) (fun k hk => (HO.out.lt k hk).1)
        clear hown' hgrow
        go_wp2
        go_roundw
        case rel => exact ⟨s.size + 1, s.size + 1, _, by omega, by omega, by go_num, by go_num, by rw [List.length_append, List.length_singleton]; omega, NEXT.out, OW.out, BW.out⟩
        case measure => simp [intOf]
      · have hlt : k < s.size := by omega
        obtain ⟨b, hb, hg⟩ := byte_at s k hlt
        have HG : Hid (s.data.toList[k]? = some b) := hg
        clear hg
        have hke' : (((k : Nat) : Int) == ((s.size : Nat) : Int)) = false := by rw [beq_eq_false_iff_ne]; omega
        by_cases h32 : b = c
        · have NEXT : Hid (CutSt c s.data.toList (k + 1) (k + 1) (ps ++ [(s.data.toList.drop fr).take (k - fr)])) := cut_hit HC.out (by rw [HG.out, h32])
          have hb32 : (((b.toNat : Nat) : Int) == ci) = true := by rw [HCI.out, h32]; simp
          clear h32
          go_wp2_with (at_builtin; refine wpList_append_own _ rfl _ _ 48 rfl w.heap.size 9 ti (.string ⟨#[]⟩) 1 16 Tryz.underlying48 IH.out.1 IH.out.2.1 IH.out.2.2.1 IH.out.2.2.2 rfl (by decide) _ _ _ rfl (HO.out.alloc _) ⟨wr.heap.size, 0, none⟩ 1 1 [.string t] rfl rfl (one_new _ _) (by intro u hu; simp at hu; subst hu; rfl) (by unfold maxLen; omega) (by omega) (by have := HB.out.size; rw [size_new]; omega) ?_)
          intro v' w2 hown' hgrow _
          have OW : Hid (w2.ownsRow w.heap.size 9 1 v' (ps ++ [(s.data.toList.drop fr).take (k - fr)]).length ((ps ++ [(s.data.toList.drop fr).take (k - fr)]).map strV)) := by
            show World.ownsRow _ _ _ _ _ _ _
            rw [List.length_append, List.map_append, List.length_singleton]
            rw [HTT.out] at hown'
            exact hown'
          have BW : Hid (Below w.heap.size w w2) := (HB.out.alloc HB.out.size _).grown hgrow (by have := HB.out.size; rw [size_new]; omega) (fun k hk => (HO.out.lt k hk).1)
          clear hown' hgrow
          go_wp2
          go_roundw
          case rel => exact ⟨k + 1, k + 1, _, by omega, by omega, by go_num, by go_num, by rw [List.length_append, List.length_singleton]; omega, NEXT.out, OW.out, BW.out⟩
          case measure => simp [intOf]; omega
        · have NEXT : Hid (CutSt c s.data.toList (k + 1) fr ps) := cut_miss HC.out HG.out h32
          have hb32 : (((b.toNat : Nat) : Int) == ci) = false := by rw [HCI.out, beq_eq_false_iff_ne]; intro e; exact h32 (byte_ext (by omega))
          go_wp2
          go_roundw
          case rel => exact ⟨k + 1, fr, ps, by omega, by omega, by go_num, rfl, by omega, NEXT.out, HO.out, HB.out⟩
          case measure => simp [intOf]; omega
    · have hgt : ((s.size : Nat) : Int) < k := by omega
      have FIN : Hid (ps = cutAll c [] s.data.toList) := by
        rcases HC.out with h | h
        · have := SL.out; omega
        · exact h.2
      go_wp2
      go_ret
      refine ⟨?_, HB.out⟩
      have ho := HO.out
      rw [FIN.out] at ho
      exact strs_of ho (cutAll_ne _ _ _)

theorem l15Cut (c : UInt8) (ci : Int) (hci : ci = (c.toNat : Int)) (s : ByteArray) (w : World) (hs : s.size ≤ 1000) : Calls Tryz.prog 31 #[.string s, .int .u8 ci] w fun e w' =>
    (∃ g cap, e = .returned (.slice (some ⟨g, 0, none⟩) (cutAll c [] s.data.toList).length cap) ∧ Strs w' g (cutAll c [] s.data.toList)) ∧ Below w.heap.size w w' := by
  refine (l15CutB c ci hci s w hs).mono ?_
  rintro e w' ⟨⟨g, cap, rfl, _, st⟩, hb⟩
  exact ⟨⟨g, cap, rfl, st⟩, hb⟩
end Go.Proofs.YtbcnmmofccackaaGreatDoor.Own
