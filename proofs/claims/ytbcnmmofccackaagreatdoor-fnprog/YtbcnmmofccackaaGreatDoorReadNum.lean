/-
  Own text: what impl.readNumber and impl.readBox do.
-/
import Derived.Test.YtbcnmmofccackaaGreatDoorNumRead
import Derived.Test.YtbcnmmofccackaaGreatDoorItoa
import Derived.Lib.AtoiErrMem
namespace Go.Proofs.YtbcnmmofccackaaGreatDoor.Own
open Go.RowKit
set_option linter.unusedVariables false
set_option linter.unusedSimpArgs false

/-- What the library's readers ask of the package variables. -/
structure Env (w : World) : Prop where
  tab : Tab w
  syn : ∃ tp p, w.var? Tryz.prog "strconv.ErrSyntax" = some #[.iface tp p]
  rng : ∃ tp p, w.var? Tryz.prog "strconv.ErrRange" = some #[.iface tp p]
  max : ∃ m, w.cell? ⟨0, 0, none⟩ = some (.int .i64 m)

theorem var_lt {w : World} {n : String} {g : Nat} {x : Array Value} (h : w.var? Tryz.prog n = some x) (hg : Tryz.prog.globalNamed n = some g) : g < w.heap.size := by
  unfold World.var? at h
  simp only [hg, Option.bind_some] at h
  cases hq : w.heap[g]? with
  | none => simp [hq] at h
  | some o => exact (Array.getElem?_eq_some_iff.1 hq).1
theorem var_named {w : World} {n : String} {x : Array Value} (h : w.var? Tryz.prog n = some x) : ∃ g, Tryz.prog.globalNamed n = some g := by
  unfold World.var? at h
  cases hq : Tryz.prog.globalNamed n with
  | none => simp [hq] at h
  | some g => exact ⟨g, rfl⟩
theorem var_keep {w w' : World} {n : String} {x : Array Value} (h : w.var? Tryz.prog n = some x) (hb : Below w.heap.size w w') : w'.var? Tryz.prog n = some x := by
  obtain ⟨g, hg⟩ := var_named h
  exact var?_below hb hg (var_lt h hg) h

theorem cell_lt {w : World} {b : Nat} {v : Value} (h : w.cell? ⟨b, 0, none⟩ = some v) : b < w.heap.size := by
  rcases Nat.lt_or_ge b w.heap.size with h' | h'
  · exact h'
  · simp [World.cell?, Array.getElem?_eq_none h'] at h

theorem Env.keep {w w' : World} (h : Env w) (hb : Below w.heap.size w w') : Env w' := by
  obtain ⟨h1, ⟨t1, p1, h2⟩, ⟨t2, p2, h3⟩, ⟨m, h4⟩⟩ := h
  exact ⟨tab_below h1 h1 hb (Nat.le_refl _), ⟨t1, p1, var_keep h2 hb⟩, ⟨t2, p2, var_keep h3 hb⟩, ⟨m, by rw [hb.cell (cell_lt h4)]; exact h4⟩⟩

theorem bytes_ext2 {s t : ByteArray} (h : s.toList = t.toList) : s = t := by
  rw [ByteArray.toList_eq, ByteArray.toList_eq] at h
  obtain ⟨⟨x⟩⟩ := s
  obtain ⟨⟨y⟩⟩ := t
  have : x = y := h
  rw [this]

theorem toList_same2 (s t : ByteArray) : (s.toList == t.toList) = decide (s = t) := by
  by_cases h : s = t
  · subst h; simp
  · rw [beq_eq_false_iff_ne.2 (fun e => h (bytes_ext2 e)), decide_eq_false h]

theorem atoi_fits {l : List UInt8} {v : Int} (h : Lib.atoiAll l = .ok v) : Fits v := by
  unfold Fits
  cases l with
  | nil => simp [Lib.atoiAll] at h
  | cons c r =>
    simp only [Lib.atoiAll] at h
    split at h
    · cases h
    · cases h
    · split at h
      · cases h
      · split at h
        · cases h
        · injection h with h
          rename_i h1 h2
          subst h
          by_cases hc : c.toNat = 45
          · simp [hc] at h1 h2 ⊢; omega
          · simp [hc] at h1 h2 ⊢; omega

theorem atoiC (s : ByteArray) (w : World) (hs : s.size ≤ 1000) (hE : Env w) : Calls Tryz.prog 73 #[.string s] w fun e w' =>
    ((∃ v, Lib.atoiAll s.data.toList = .ok v ∧ e = .returned (.tuple #[.int .i64 v, .nilIface])) ∨ ((∀ v, Lib.atoiAll s.data.toList ≠ .ok v) ∧ ∃ (x : Int) (t : TypeId) (p : Value), e = .returned (.tuple #[.int .i64 x, .iface t p]))) ∧ Below w.heap.size w w' := by
  obtain ⟨_, ⟨t1, p1, h2⟩, ⟨t2, p2, h3⟩, _⟩ := hE
  cases h : Lib.atoiAll s.data.toList with
  | ok v =>
    refine (Tryz.strconv_Atoi_ok s (by omega) v h w).mono ?_
    rintro e w' ⟨rfl, hw⟩
    refine ⟨.inl ⟨v, rfl, rfl⟩, ?_⟩
    rcases hw with rfl | ⟨t, rfl⟩
    · exact Below.refl _ _
    · exact Lib.bytesWorld_below _ _ _
  | «syntax» =>
    refine (Tryz.strconv_Atoi_syntax_var s (by omega) h t1 p1 w h2).mono ?_
    rintro e w' ⟨N, rfl, _, _, hb⟩
    exact ⟨.inr ⟨(fun v h => by cases h), _, _, _, rfl⟩, hb⟩
  | range =>
    refine (Tryz.strconv_Atoi_range_var s (by omega) h t2 p2 w h3).mono ?_
    rintro e w' ⟨N, rfl, _, _, hb⟩
    exact ⟨.inr ⟨(fun v h => by cases h), _, _, _, rfl⟩, hb⟩

set_option maxHeartbeats 2000000 in
theorem readNumber (s : ByteArray) (w : World) (hs : s.size ≤ 1000) (hE : Env w) : Calls Tryz.prog 65 #[.string s] w fun e w' =>
    ReadsNum Fits s.data.toList e ∧ Below w.heap.size w w' := by
  have HE : Hid (Env w) := hE
  clear hE
  go_enter Tryz.func65, Tryz.ntmps65
  go_wp2_with fail
  refine (atoiC s w hs HE.out).mono ?_
  rintro e w1 ⟨h, hb⟩
  have HB : Hid (Below w.heap.size w w1) := hb
  clear hb
  rcases h with ⟨v, h, rfl⟩ | ⟨h, x, t, p, rfl⟩
  · have H : Hid (Lib.atoiAll s.data.toList = .ok v) := h
    have HF : Hid (Fits v) := atoi_fits h
    clear h
    obtain ⟨t, ht⟩ : ∃ t, t = str (Lib.itoa v) := ⟨_, rfl⟩
    have HT : Hid (t = str (Lib.itoa v)) := ht
    clear ht
    have C : Hid (∀ W : World, Below w1.heap.size w1 W → Calls Tryz.prog 60 #[.int .i64 v] W fun e w' => e = .returned (.string t) ∧ Below W.heap.size W w') := by
      intro W hW
      rw [HT.out]
      exact itoaC v W HF.out ((HE.out.keep HB.out).keep hW).tab
    by_cases hst : t = s
    · have HS : Hid (Lib.itoa v = s.data.toList) := by show _ = _; rw [← hst, HT.out, str_list]
      go_wp2_with fail
      refine (C.out w1 (Below.refl _ _)).mono ?_
      rintro e w2 ⟨rfl, hb⟩
      have B2 : Hid (Below w.heap.size w w2) := HB.out.trans (hb.mono HB.out.size)
      clear hb
      rw [hst]
      go_wp2_with fail
      refine bodyPost_ret (v := .tuple #[.int .i64 v, .bool true]) (by simp [results, Tryz.results65, go_sem]) rfl ?_
      exact ⟨.inl ⟨v, HF.out, HS.out, rfl⟩, B2.out⟩
    · have HS : Hid (Lib.itoa v ≠ s.data.toList) := by
        intro h
        exact hst (by rw [HT.out]; exact (str_eq h.symm).symm)
      have hbe : (t.toList == s.toList) = false := by rw [toList_same2, decide_eq_false hst]
      go_wp2_with fail
      refine (C.out w1 (Below.refl _ _)).mono ?_
      rintro e w2 ⟨rfl, hb⟩
      have B2 : Hid (Below w.heap.size w w2) := HB.out.trans (hb.mono HB.out.size)
      clear hb
      go_wp2_with fail
      refine bodyPost_ret (v := .tuple #[.int .i64 0, .bool false]) (by simp [results, Tryz.results65, go_sem]) rfl ?_
      refine ⟨.inr ⟨fun n hn h => ?_, rfl⟩, B2.out⟩
      have h1 := atoi_itoa n hn
      rw [h, H.out] at h1
      injection h1 with h1
      subst h1
      exact HS.out h
  · have H : Hid (∀ v, Lib.atoiAll s.data.toList ≠ .ok v) := h
    clear h
    go_wp2_with fail
    refine bodyPost_ret (v := .tuple #[.int .i64 0, .bool false]) (by simp [results, Tryz.results65, go_sem]) rfl ?_
    refine ⟨.inr ⟨fun n hn h => ?_, rfl⟩, HB.out⟩
    have h1 := atoi_itoa n hn
    rw [h] at h1
    exact H.out n h1

theorem below_drewN' {B : Nat} {a w : World} (h : Below B a w) (n : Nat) : Below B a (w.drewN n) := h.trans ⟨rfl, rfl, rfl, Nat.le_refl _, fun _ _ => rfl⟩

theorem cutC (s : ByteArray) (c : UInt8) (w : World) (hs : s.size ≤ 1000) (hE : Env w) : Calls Tryz.prog 64 #[.string s, .string ⟨#[c]⟩] w fun e w' =>
    ((c ∉ s.data.toList ∧ e = .returned (.tuple #[.string s, .string ⟨#[]⟩, .bool false])) ∨ ∃ A B, s.data.toList = A ++ c :: B ∧ c ∉ A ∧ e = .returned (.tuple #[.string (str A), .string (str B), .bool true])) ∧ Below w.heap.size w w' := by
  obtain ⟨_, _, _, m, hm⟩ := hE
  refine (Any.strings_Cut { Tryz.laysM145 with } s ⟨#[c]⟩ m w (by omega) hm).mono ?_
  rintro e w' ⟨rfl, n, rfl⟩
  refine ⟨?_, below_drewN' (Below.refl _ _) n⟩
  rcases cut1 c s.data.toList with ⟨h1, h2⟩ | ⟨A, B, h1, h2, h3⟩
  · refine .inl ⟨h1, ?_⟩
    rw [h2]
  · refine .inr ⟨A, B, h1, h2, ?_⟩
    rw [h3]; rfl
end Go.Proofs.YtbcnmmofccackaaGreatDoor.Own
