/-
  Own text: what (*impl.insReader).read does.
-/
import Derived.Test.YtbcnmmofccackaaGreatDoorReadI3
namespace Go.Proofs.YtbcnmmofccackaaGreatDoor.Own
open Go.RowKit
set_option linter.unusedVariables false
set_option linter.unusedSimpArgs false

/-- Where a reading stands: the reader, the form of its kind, what it has of the instruction, the place of its answer. -/
structure ST (w W : World) (rb r0 fb ib : Nat) (form : Array Value) (rs : List (List UInt8)) (m f : Bool) (k a b n : Int) : Prop where
  rd : RdW W rb rs m f
  hf : W.heap[fb]? = some (.cells form 76 (0, 0))
  hi : W.heap[ib]? = some (.cells #[.int .i64 k, .int .i64 a, .int .i64 b, .int .i64 n] 41 (0, 0))
  hr : W.heap[r0]? = some (.cells #[.int .i64 0, .int .i64 0, .int .i64 0, .int .i64 0] 41 (0, 0))
  bar : Bar rb w W
  o1 : rb < w.heap.size
  o2 : w.heap.size ≤ r0
  o3 : r0 < fb
  o4 : fb < ib

theorem ST.step {w W W' : World} {rb r0 fb ib : Nat} {form : Array Value} {rs rs' : List (List UInt8)} {m m' f f' : Bool} {k a b n : Int} (h : ST w W rb r0 fb ib form rs m f k a b n) (hb : Bar rb W W') (hr : RdW W' rb rs' m' f') : ST w W' rb r0 fb ib form rs' m' f' k a b n := by
  have lt : ∀ {j : Nat} {o : Obj}, W.heap[j]? = some o → j < W.heap.size := fun e => (Array.getElem?_eq_some_iff.1 e).1
  have h1 := h.o1; have h2 := h.o2; have h3 := h.o3; have h4 := h.o4
  exact ⟨hr, by rw [hb.block fb (lt h.hf) (by omega)]; exact h.hf, by rw [hb.block ib (lt h.hi) (by omega)]; exact h.hi, by rw [hb.block r0 (lt h.hr) (by omega)]; exact h.hr, h.bar.trans hb, h1, h2, h3, h4⟩

theorem ST.setI {w W : World} {rb r0 fb ib : Nat} {form : Array Value} {rs : List (List UInt8)} {m f : Bool} {k a b n : Int} (h : ST w W rb r0 fb ib form rs m f k a b n) (o : Nat) (v : Value) (k' a' b' n' : Int) (hc : (#[.int .i64 k, .int .i64 a, .int .i64 b, .int .i64 n] : Array Value).setIfInBounds o v = #[.int .i64 k', .int .i64 a', .int .i64 b', .int .i64 n']) : ST w (W.setCell ⟨ib, o, none⟩ v) rb r0 fb ib form rs m f k' a' b' n' := by
  have h1 := h.o1; have h2 := h.o2; have h3 := h.o3; have h4 := h.o4
  have e : ∀ j, j ≠ ib → (W.setCell ⟨ib, o, none⟩ v).heap[j]? = W.heap[j]? := fun j hj => Below.heap_setCell _ _ _ _ hj
  refine ⟨?_, by rw [e fb (by omega)]; exact h.hf, ?_, by rw [e r0 (by omega)]; exact h.hr, h.bar.setCell (by show w.heap.size ≤ ib; omega) _, h1, h2, h3, h4⟩
  · show _ = _
    rw [e rb (by omega)]; exact h.rd
  · rw [setCell_heap_same _ _ _ _ _ _ h.hi, hc]

theorem ST.icells {w W : World} {rb r0 fb ib : Nat} {form : Array Value} {rs : List (List UInt8)} {m f : Bool} {k a b n : Int} (h : ST w W rb r0 fb ib form rs m f k a b n) :
    W.cell? ⟨ib, 0, none⟩ = some (.int .i64 k) ∧ W.cell? ⟨ib, 1, none⟩ = some (.int .i64 a) ∧ W.cell? ⟨ib, 2, none⟩ = some (.int .i64 b) ∧ W.cell? ⟨ib, 3, none⟩ = some (.int .i64 n) ∧ ∀ o, W.frozen? ⟨ib, o, none⟩ = false :=
  ⟨by rw [cell_heap h.hi]; rfl, by rw [cell_heap h.hi]; rfl, by rw [cell_heap h.hi]; rfl, by rw [cell_heap h.hi]; rfl, fun o => frozen_heap h.hi o⟩
theorem ST.rcells {w W : World} {rb r0 fb ib : Nat} {form : Array Value} {rs : List (List UInt8)} {m f : Bool} {k a b n : Int} (h : ST w W rb r0 fb ib form rs m f k a b n) :
    W.cell? ⟨r0, 0, none⟩ = some (.int .i64 0) ∧ W.cell? ⟨r0, 1, none⟩ = some (.int .i64 0) ∧ W.cell? ⟨r0, 2, none⟩ = some (.int .i64 0) ∧ W.cell? ⟨r0, 3, none⟩ = some (.int .i64 0) ∧ ∀ o, W.frozen? ⟨r0, o, none⟩ = false :=
  ⟨by rw [cell_heap h.hr]; rfl, by rw [cell_heap h.hr]; rfl, by rw [cell_heap h.hr]; rfl, by rw [cell_heap h.hr]; rfl, fun o => frozen_heap h.hr o⟩

theorem numR_no {B : Int → Prop} {has : Bool} {rs rs' : List (List UInt8)} {n : Int} {f : Bool} (h : NumR B has rs n f rs') (hn : ∀ x ∈ rs, (32 : UInt8) ∉ x) (hl : (joinAll 32 rs).length ≤ 400) : (∀ x ∈ rs', (32 : UInt8) ∉ x) ∧ (joinAll 32 rs').length ≤ 400 := by
  rcases h with ⟨_, rfl, _⟩ | ⟨_, rfl, _⟩
  · exact ⟨fun x hx => hn x (List.mem_of_mem_tail hx), Nat.le_trans (join_tail_le rs) hl⟩
  · exact ⟨hn, hl⟩

theorem ST.drew {w W : World} {rb r0 fb ib : Nat} {form : Array Value} {rs : List (List UInt8)} {m f : Bool} {k a b n : Int} (h : ST w W rb r0 fb ib form rs m f k a b n) : ST w W.drew rb r0 fb ib form rs m f k a b n :=
  ⟨h.rd, h.hf, h.hi, h.hr, ⟨h.bar.os, h.bar.tape, h.bar.output, h.bar.size, h.bar.block⟩, h.o1, h.o2, h.o3, h.o4⟩

theorem ST.number {w0 w W : World} {rb r0 fb ib : Nat} {form : Array Value} {rs : List (List UInt8)} {m f : Bool} {k a b n : Int} (h : ST w W rb r0 fb ib form rs m f k a b n) (lo hi : Int) (hE : Env w0) (hB : Below w0.heap.size w0 w) (hrb : w0.heap.size ≤ rb) (hn : ∀ x ∈ rs, (32 : UInt8) ∉ x) (hl : (joinAll 32 rs).length ≤ 400) :
    Calls Tryz.prog 46 #[.pointer (some ⟨rb, 0, none⟩), .agg #[.int .i64 lo, .int .i64 hi]] W fun e w' => ∃ (v : Int) (f' m' : Bool) (rs' : List (List UInt8)), e = .returned (.int .i64 v) ∧ NumR Fits (!noSpan lo hi) rs v f' rs' ∧ ST w w' rb r0 fb ib form rs' m' (f || f') k a b n ∧ (noSpan lo hi = false → m' = moreOf rs') ∧ (noSpan lo hi = true → m' = m) := by
  obtain ⟨_, hBW⟩ := env_bar hE hB hrb h.bar
  refine (numberC rb lo hi rs m f w0 W h.rd hE hBW hrb hn hl).mono ?_
  rintro e w' ⟨v, f', m', rs', rfl, h1, h2, h3, h4, h5⟩
  exact ⟨v, f', m', rs', rfl, h1, h.step h5 h2, h3, h4⟩

/-- Whether more is to come, as the reader has it. -/
def MoreR (rs : List (List UInt8)) (m : Bool) : Prop := m = moreOf rs
theorem more_step {lo hi : Int} {rs rs' : List (List UInt8)} {v : Int} {m m' f' : Bool} (h : NumR Fits (!noSpan lo hi) rs v f' rs') (hm : MoreR rs m) (h1 : noSpan lo hi = false → m' = moreOf rs') (h2 : noSpan lo hi = true → m' = m) : MoreR rs' m' := by
  cases hs : noSpan lo hi with
  | false => exact h1 hs
  | true =>
    rw [hs] at h
    rw [h2 hs, h.skip.2.1]
    exact hm

set_option maxRecDepth 100000 in
set_option maxHeartbeats 8000000 in
theorem readC (rb : Nat) (t : List UInt8) (m : Bool) (w0 w : World) (ht : t.length ≤ 400) (h : RdW w rb (cutAll 32 [] t) m false) (hE : Env w0) (hB : Below w0.heap.size w0 w) (hrb : w0.heap.size ≤ rb) :
    Calls Tryz.prog 24 #[.pointer (some ⟨rb, 0, none⟩)] w fun e w' => ∃ (k a b n : Int) (f m' : Bool) (rs : List (List UInt8)), e = .returned (.agg #[.int .i64 k, .int .i64 a, .int .i64 b, .int .i64 n]) ∧ RdW w' rb rs m' f ∧ ((f = false ∧ Fit t (k, a, b, n)) ∨ (f = true ∧ NoIns t)) ∧ Bar rb w w' := by
  have HR : Hid (RdW w rb (cutAll 32 [] t) m false) := h
  have HE : Hid (Env w0) := hE
  have HB : Hid (Below w0.heap.size w0 w) := hB
  have hlt := h.lt
  obtain ⟨ws, hws⟩ : ∃ ws, ws = cutAll 32 [] t := ⟨_, rfl⟩
  have HW : Hid (ws = cutAll 32 [] t) := hws
  have hn : Hid (∀ x ∈ ws, (32 : UInt8) ∉ x) := by intro x hx; rw [hws] at hx; exact cut_no 32 [] t (by simp) x hx
  have hl : Hid ((joinAll 32 ws).length ≤ 400) := by show _ ≤ _; rw [hws, join_cut]; simpa using ht
  clear h hE hB ht hws
  go_enter Tryz.func24, Tryz.ntmps24
  go_wp2_with fail
  have b0 : Below w.heap.size w (w.alloc (.cells #[.int .i64 0, .int .i64 0, .int .i64 0, .int .i64 0] 41)) := (Below.refl _ _).alloc (Nat.le_refl _) _
  refine (wordC rb ws m false _ (by rw [HW.out]; exact HR.out.below b0) (HE.out.keep (HB.out.trans (b0.mono HB.out.size))) hn.out hl.out).mono ?_
  rintro e w2 ⟨rfl, r2, b2⟩
  have R2 : Hid (RdW w2 rb ws.tail (moreOf ws.tail) false) := r2
  have B2 : Hid (Bar rb w w2) := (Bar.ofBelow b0).trans b2
  have h2 : Hid (w2.heap[w.heap.size]? = some (.cells #[.int .i64 0, .int .i64 0, .int .i64 0, .int .i64 0] 41 (0, 0))) := by
    show _ = _
    rw [b2.block w.heap.size (by simp) (by omega)]; exact heap_new _ _
  have s2 : Hid (w.heap.size < w2.heap.size) := by have := b2.size; simp at this; exact this
  obtain ⟨s, hs⟩ : ∃ s, s = str (ws.headD []) := ⟨_, rfl⟩
  have HS : Hid (s.data.toList = ws.headD []) := by show _ = _; rw [hs, str_list]
  rw [← hs]
  clear hs b0 r2 b2
  go_wp2_with fail
  refine (kindOfC s w2).mono ?_
  rintro e w3 ⟨⟨k, rfl, hk⟩, b3⟩
  rw [HS.out] at hk
  have HK : Hid ((IsKind k ∧ ws.headD [] = wordOf k) ∨ (k = 0 ∧ ∀ j, IsKind j → ws.headD [] ≠ wordOf j)) := hk
  have B3 : Hid (Below w2.heap.size w2 w3) := b3
  have CF := fun W => formC k W
  have SP : Hid (((k = 0 → noSpan 0 (hiA k) = true ∧ noSpan 0 (hiB k) = true ∧ noSpan (loN k) (hiN k) = true) ∧ (IsKind k → (!noSpan 0 (hiA k)) = hasA k ∧ (!noSpan 0 (hiB k)) = hasB k ∧ (!noSpan (loN k) (hiN k)) = hasN k))) := ⟨fun h => by subst h; exact span_none, span_has⟩
  clear hk b3
  obtain ⟨wd, hwd⟩ : ∃ wd, wd = str (wordOf k) := ⟨_, rfl⟩
  rw [← hwd] at CF
  clear hwd
  generalize hiA k = x1 at CF SP
  generalize hiB k = x2 at CF SP
  generalize loN k = x3 at CF SP
  generalize hiN k = x4 at CF SP
  have HC : Hid (∀ W, Calls Tryz.prog 41 #[.int .i64 k] W fun e w' => e = .returned (.agg #[.string wd, .int .i64 0, .int .i64 x1, .int .i64 0, .int .i64 x2, .int .i64 x3, .int .i64 x4]) ∧ Below W.heap.size W w') := CF
  clear CF
  go_wp2_with fail
  refine (HC.out w3).mono ?_
  rintro e w4 ⟨rfl, b4⟩
  have b24 : Below w2.heap.size w2 w4 := B3.out.trans (b4.mono B3.out.size)
  obtain ⟨X, hX⟩ : ∃ X, X = (w4.alloc (.cells #[.string wd, .int .i64 0, .int .i64 x1, .int .i64 0, .int .i64 x2, .int .i64 x3, .int .i64 x4] 76)).alloc (.cells #[.int .i64 k, .int .i64 0, .int .i64 0, .int .i64 0] 41) := ⟨_, rfl⟩
  obtain ⟨fb, hfb⟩ : ∃ fb, fb = w4.heap.size := ⟨_, rfl⟩
  have bX : Below w2.heap.size w2 X := by rw [hX]; exact (b24.alloc b24.size _).alloc (by have := b24.size; simp; omega) _
  have ST0 : Hid (ST w X rb w.heap.size fb (fb + 1) #[.string wd, .int .i64 0, .int .i64 x1, .int .i64 0, .int .i64 x2, .int .i64 x3, .int .i64 x4] ws.tail (moreOf ws.tail) false k 0 0 0) := by
    have := s2.out
    have := b24.size
    refine ⟨R2.out.below bX, ?_, ?_, ?_, B2.out.trans (Bar.ofBelow bX), hlt, Nat.le_refl _, by omega, by omega⟩
    · rw [hX, hfb]; exact heap_new1 _ _ _
    · rw [hX, hfb]; exact heap_new2 _ _ _
    · rw [bX.block _ s2.out]; exact h2.out
  have HX : Hid (X = (w4.alloc (.cells #[.string wd, .int .i64 0, .int .i64 x1, .int .i64 0, .int .i64 x2, .int .i64 x3, .int .i64 x4] 76)).alloc (.cells #[.int .i64 k, .int .i64 0, .int .i64 0, .int .i64 0] 41)) := hX
  have HFB : Hid (fb = w4.heap.size) := hfb
  have hn1 : Hid (∀ x ∈ ws.tail, (32 : UInt8) ∉ x) := fun x hx => hn.out x (List.mem_of_mem_tail hx)
  have hl1 : Hid ((joinAll 32 ws.tail).length ≤ 400) := Nat.le_trans (join_tail_le ws) hl.out
  clear hX hfb b4 b24 bX
  go_wp2_with fail
  rw [← HX.out, ← HFB.out]
  have M0 : Hid (MoreR ws.tail (moreOf ws.tail)) := rfl
  have c1 : X.cell? ⟨fb, 1, none⟩ = some (.int .i64 0) := by rw [cell_heap ST0.out.hf]; rfl
  have d1 : X.cell? ⟨fb, 2, none⟩ = some (.int .i64 x1) := by rw [cell_heap ST0.out.hf]; rfl
  go_region_with (go_at_call 46; refine (ST0.out.drew.number 0 x1 HE.out HB.out hrb hn1.out hl1.out).mono ?_; rintro e w5 ⟨a, f1, m1, r1, rfl, num, st, g, g'⟩; obtain ⟨i0, i1, i2, i3, ifz⟩ := st.icells; have ifz1 := ifz 1)
  have N1 : Hid (NumR Fits (!noSpan 0 x1) ws.tail a f1 r1) := num
  have M1 : Hid (MoreR r1 m1) := more_step num M0.out g g'
  have Hn1 : Hid (∀ x ∈ r1, (32 : UInt8) ∉ x) := (numR_no num hn1.out hl1.out).1
  have Hl1 : Hid ((joinAll 32 r1).length ≤ 400) := (numR_no num hn1.out hl1.out).2
  obtain ⟨Y1, hY1⟩ : ∃ Y, Y = w5.setCell ⟨fb + 1, 1, none⟩ (.int .i64 a) := ⟨_, rfl⟩
  have ST1 : Hid (ST w Y1 rb w.heap.size fb (fb + 1) #[.string wd, .int .i64 0, .int .i64 x1, .int .i64 0, .int .i64 x2, .int .i64 x3, .int .i64 x4] r1 m1 (false || f1) k a 0 0) := by
    show ST _ _ _ _ _ _ _ _ _ _ _ _ _ _
    rw [hY1]; exact st.setI 1 _ k a 0 0 rfl
  have HY1 : Hid (Y1 = w5.setCell ⟨fb + 1, 1, none⟩ (.int .i64 a)) := hY1
  clear hY1 num st g g' i0 i1 i2 i3 ifz ifz1 c1 d1
  go_wp2_with fail
  rw [← HY1.out]
  have c2 : Y1.cell? ⟨fb, 3, none⟩ = some (.int .i64 0) := by rw [cell_heap ST1.out.hf]; rfl
  have d2 : Y1.cell? ⟨fb, 4, none⟩ = some (.int .i64 x2) := by rw [cell_heap ST1.out.hf]; rfl
  go_region_with (go_at_call 46; refine (ST1.out.drew.number 0 x2 HE.out HB.out hrb Hn1.out Hl1.out).mono ?_; rintro e w6 ⟨b, f2, m2, r2, rfl, num, st, g, g'⟩; obtain ⟨i0, i1, i2, i3, ifz⟩ := st.icells; have ifz1 := ifz 2)
  have N2 : Hid (NumR Fits (!noSpan 0 x2) r1 b f2 r2) := num
  have M2 : Hid (MoreR r2 m2) := more_step num M1.out g g'
  have Hn2 : Hid (∀ x ∈ r2, (32 : UInt8) ∉ x) := (numR_no num Hn1.out Hl1.out).1
  have Hl2 : Hid ((joinAll 32 r2).length ≤ 400) := (numR_no num Hn1.out Hl1.out).2
  obtain ⟨Y2, hY2⟩ : ∃ Y, Y = w6.setCell ⟨fb + 1, 2, none⟩ (.int .i64 b) := ⟨_, rfl⟩
  have ST2 : Hid (ST w Y2 rb w.heap.size fb (fb + 1) #[.string wd, .int .i64 0, .int .i64 x1, .int .i64 0, .int .i64 x2, .int .i64 x3, .int .i64 x4] r2 m2 ((false || f1) || f2) k a b 0) := by
    show ST _ _ _ _ _ _ _ _ _ _ _ _ _ _
    rw [hY2]; exact st.setI 2 _ k a b 0 rfl
  have HY2 : Hid (Y2 = w6.setCell ⟨fb + 1, 2, none⟩ (.int .i64 b)) := hY2
  clear hY2 num st g g' i0 i1 i2 i3 ifz ifz1 c2 d2
  go_wp2_with fail
  rw [← HY2.out]
  have c3 : Y2.cell? ⟨fb, 5, none⟩ = some (.int .i64 x3) := by rw [cell_heap ST2.out.hf]; rfl
  have d3 : Y2.cell? ⟨fb, 6, none⟩ = some (.int .i64 x4) := by rw [cell_heap ST2.out.hf]; rfl
  go_region_with (go_at_call 46; refine (ST2.out.drew.number x3 x4 HE.out HB.out hrb Hn2.out Hl2.out).mono ?_; rintro e w7 ⟨n, f3, m3, r3, rfl, num, st, g, g'⟩; obtain ⟨i0, i1, i2, i3, ifz⟩ := st.icells; have ifz1 := ifz 3)
  have N3 : Hid (NumR Fits (!noSpan x3 x4) r2 n f3 r3) := num
  have M3 : Hid (MoreR r3 m3) := more_step num M2.out g g'
  have Hn3 : Hid (∀ x ∈ r3, (32 : UInt8) ∉ x) := (numR_no num Hn2.out Hl2.out).1
  have Hl3 : Hid ((joinAll 32 r3).length ≤ 400) := (numR_no num Hn2.out Hl2.out).2
  obtain ⟨Y3, hY3⟩ : ∃ Y, Y = w7.setCell ⟨fb + 1, 3, none⟩ (.int .i64 n) := ⟨_, rfl⟩
  have ST3 : Hid (ST w Y3 rb w.heap.size fb (fb + 1) #[.string wd, .int .i64 0, .int .i64 x1, .int .i64 0, .int .i64 x2, .int .i64 x3, .int .i64 x4] r3 m3 (((false || f1) || f2) || f3) k a b n) := by
    show ST _ _ _ _ _ _ _ _ _ _ _ _ _ _
    rw [hY3]; exact st.setI 3 _ k a b n rfl
  have HY3 : Hid (Y3 = w7.setCell ⟨fb + 1, 3, none⟩ (.int .i64 n)) := hY3
  clear hY3 num st g g' i0 i1 i2 i3 ifz ifz1 c3 d3
  obtain ⟨ff, hff⟩ : ∃ ff, ff = (((false || f1) || f2) || f3) := ⟨_, rfl⟩
  have FIN : Hid (((ff || m3) = false → Fit t (k, a, b, n)) ∧ ((ff || m3) = true → NoIns t)) := by
    have e1 : (ff || m3) = false ↔ (f1 = false ∧ f2 = false ∧ f3 = false ∧ r3 = []) := by
      have hm := M3.out
      unfold MoreR moreOf at hm
      rw [hff, hm]
      cases f1 <;> cases f2 <;> cases f3 <;> cases r3 <;> simp
    have hne : ws ≠ [] := by rw [HW.out]; exact cutAll_ne 32 [] t
    have hwc : cutAll 32 [] t = ws.headD [] :: ws.tail := by
      rw [← HW.out]
      cases hq : ws with
      | nil => exact absurd hq hne
      | cons => rfl
    rcases HK.out with ⟨hk, hw⟩ | ⟨hk, hw⟩
    · obtain ⟨s1, s2, s3⟩ := SP.out.2 hk
      have n1 := N1.out
      have n2 := N2.out
      have n3 := N3.out
      rw [s1] at n1
      rw [s2] at n2
      rw [s3] at n3
      have := one_fits (B := Fits) (fun m h1 h2 => by unfold Fits; omega) hk (by rw [hwc, hw]) n1 n2 n3
      rw [← e1] at this
      refine ⟨this.1, fun h => this.2 (by rw [h]; simp)⟩
    · have hno : NoIns t := noIns_word (fun j hj => by rw [← HW.out]; exact hw j hj)
      refine ⟨fun _ => .inr ⟨?_, hno⟩, fun _ => hno⟩
      rw [hk]
      exact insOk_no a b n ⟨by decide, by decide, by decide, by decide, by decide, by decide, by decide⟩
  have ST4 : Hid (ST w Y3 rb w.heap.size fb (fb + 1) #[.string wd, .int .i64 0, .int .i64 x1, .int .i64 0, .int .i64 x2, .int .i64 x3, .int .i64 x4] r3 m3 ff k a b n) := by
    show ST _ _ _ _ _ _ _ _ _ _ _ _ _ _
    rw [hff]; exact ST3.out
  clear hff
  obtain ⟨q0', q1, q2, qf⟩ := ST4.out.rd.cells
  obtain ⟨i0, i1, i2, i3, ifz⟩ := ST4.out.icells
  obtain ⟨z0, z1, z2, z3, zf⟩ := ST4.out.rcells
  have qf2 := qf 2
  have zf0 := zf 0
  have zf1 := zf 1
  have zf2 := zf 2
  have zf3 := zf 3
  have ne1 : ¬ rb = fb + 1 := by have := ST4.out.o1; have := ST4.out.o2; have := ST4.out.o3; omega
  have ne2 : ¬ rb = w.heap.size := by omega
  have ne3 : ¬ fb + 1 = w.heap.size := by have := ST4.out.o3; omega
  have ne1' : ¬ fb + 1 = rb := fun e => ne1 e.symm
  have ne2' : ¬ w.heap.size = rb := fun e => ne2 e.symm
  have ne3' : ¬ w.heap.size = fb + 1 := fun e => ne3 e.symm
  clear q0' qf ifz zf
  rw [← HY3.out]
  cases m3 with
  | true =>
    have FF : Hid (NoIns t) := FIN.out.2 (by simp)
    clear FIN
    go_wp2_with fail
    refine bodyPost_ret (v := .agg #[.int .i64 k, .int .i64 a, .int .i64 b, .int .i64 n]) (by simp [results, Tryz.results24, go_sem, z0, z1, z2, z3, ne2, ne2', ne3, ne3', ne1, ne1']) rfl ?_
    refine ⟨k, a, b, n, true, true, r3, rfl, ?_, .inr ⟨rfl, FF.out⟩, ?_⟩
    · show _ = _
      rw [Below.heap_setCell _ _ _ _ ne2, Below.heap_setCell _ _ _ _ ne2, Below.heap_setCell _ _ _ _ ne2, Below.heap_setCell _ _ _ _ ne2]
      exact ST4.out.rd.fail
    · exact ((((ST4.out.bar.put _ _).setCell (Nat.le_refl _) _).setCell (Nat.le_refl _) _).setCell (Nat.le_refl _) _).setCell (Nat.le_refl _) _
  | false =>
    have FF : Hid ((ff = false ∧ Fit t (k, a, b, n)) ∨ (ff = true ∧ NoIns t)) := by
      cases ff with
      | false => exact .inl ⟨rfl, FIN.out.1 rfl⟩
      | true => exact .inr ⟨rfl, FIN.out.2 rfl⟩
    clear FIN
    go_wp2_with fail
    refine bodyPost_ret (v := .agg #[.int .i64 k, .int .i64 a, .int .i64 b, .int .i64 n]) (by simp [results, Tryz.results24, go_sem, z0, z1, z2, z3, ne2, ne2', ne3, ne3', ne1, ne1']) rfl ?_
    refine ⟨k, a, b, n, ff, false, r3, rfl, ?_, FF.out, ?_⟩
    · show _ = _
      rw [Below.heap_setCell _ _ _ _ ne2, Below.heap_setCell _ _ _ _ ne2, Below.heap_setCell _ _ _ _ ne2, Below.heap_setCell _ _ _ _ ne2]
      exact ST4.out.rd
    · exact (((ST4.out.bar.setCell (Nat.le_refl _) _).setCell (Nat.le_refl _) _).setCell (Nat.le_refl _) _).setCell (Nat.le_refl _) _
end Go.Proofs.YtbcnmmofccackaaGreatDoor.Own
