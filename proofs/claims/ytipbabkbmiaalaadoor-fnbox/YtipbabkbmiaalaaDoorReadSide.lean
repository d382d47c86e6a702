/-
  Own text: what spec.BoxRead does.
-/
import Derived.Test.YtipbabkbmiaalaaDoorReadCut
namespace Go.Proofs.YtipbabkbmiaalaaDoor.Own
open Go.RowKit
set_option linter.unusedVariables false
set_option linter.unusedSimpArgs false

theorem owned_box2 {w : World} {base m : Nat} {v : Value} {xs : List (Int × Int)} (h : w.ownsRow base 48 2 v m (flat xs)) (hm : 0 < m) :
    ∃ g cap, v = .slice (some ⟨g, 0, none⟩) m cap ∧ base ≤ g ∧ m ≤ cap ∧ BoxAt w g 0 xs ∧ (∀ o, w.frozen? ⟨g, o, none⟩ = false) := by
  obtain ⟨hl, h⟩ := h
  rcases h with ⟨_, h0⟩ | ⟨g, cap, cur, hv, hb, hh, hmc, _, hsz, htk⟩
  · omega
  refine ⟨g, cap, hv, hb, hmc, ⟨(Array.getElem?_eq_some_iff.1 hh).1, fun i hi => ?_⟩, fun o => frozen_heap hh o⟩
  have e := flat_even xs i hi
  rw [flat_length] at hl
  rw [← htk] at e
  rw [cell_heap hh, cell_heap hh, Nat.zero_add]
  rw [List.getElem?_take_of_lt (by omega), List.getElem?_take_of_lt (by omega)] at e
  simpa using e

theorem two_new (w : World) (u v : Value) : ∀ j x, [u, v][j]? = some x → (w.alloc (.cells #[u, v] 48)).cell? ((⟨w.heap.size, 0, none⟩ : Addr).add j) = some x := by
  intro j x hj
  match j, hj with
  | 0, hj => simp at hj; subst hj; simp [Addr.add]
  | 1, hj => simp at hj; subst hj; simp [Addr.add]

theorem piece_len (c : UInt8) : ∀ (acc l p : List UInt8), p ∈ cutAll c acc l → p.length ≤ acc.length + l.length
  | acc, [], p, h => by simp [cutAll] at h; simp [h]
  | acc, x :: r, p, h => by
    unfold cutAll at h
    split at h
    · rcases List.mem_cons.1 h with rfl | h
      · omega
      · have := piece_len c [] r p h; simp at this ⊢; omega
    · have := piece_len c (acc ++ [x]) r p h; simp at this ⊢; omega

theorem Strs.below {w w' : World} {g B : Nat} {ps : List (List UInt8)} (h : Strs w g ps) (hb : Below B w w') (hB : g < B) : Strs w' g ps :=
  ⟨Nat.lt_of_lt_of_le h.1 hb.size, fun i p hp => by rw [hb.cell (p := ⟨g, i, none⟩) hB]; exact h.2 i p hp⟩

theorem flat_snoc (xs : List (Int × Int)) (p : Int × Int) : flat (xs ++ [p]) = flat xs ++ [.int .i64 p.1, .int .i64 p.2] := by simp [flat]

/-- What the specification's reader answers. -/
def ReadsSide (l : List UInt8) (N : Nat) (e : Ending) (w' : World) : Prop :=
  (∃ (xs : List (Int × Int)) (g cap : Nat), boxOk xs = true ∧ textOf xs = l ∧ N ≤ g ∧ e = .returned (.tuple #[.slice (some ⟨g, 0, none⟩) 4 cap, .bool true]) ∧ BoxAt w' g 0 xs) ∨
  (NoBoxes l ∧ e = .returned (.tuple #[.slice none 0 0, .bool false]))

theorem extract_left (A B : List UInt8) : (str (A ++ 47 :: B)).extract 0 A.length = str A := by
  rw [extract_str, str_list]; simp
theorem extract_right (A B : List UInt8) : (str (A ++ 47 :: B)).extract (A.length + 1) (str (A ++ 47 :: B)).size = str B := by
  rw [extract_str, str_list, str_size]
  congr 1
  rw [List.take_of_length_le (by simp; omega)]
  simp

set_option maxRecDepth 100000 in
set_option maxHeartbeats 8000000 in
theorem specRead (s : ByteArray) (w : World) (hs : s.size ≤ 1048576) : Calls Tryd.prog 15 #[.string s] w fun e w' =>
    ReadsSide s.data.toList w.heap.size e w' ∧ Below w.heap.size w w' := by
  by_cases h100' : ¬ s.size ≤ 100
  · have hz : (100 : Int) < s.size := by omega
    go_enter Tryd.func15, Tryd.ntmps15
    go_wp2
    refine bodyPost_ret (v := .tuple #[.slice none 0 0, .bool false]) (by simp [results, Tryd.results15, go_sem]) rfl ⟨.inr ⟨no_long _ (by rw [size_list]; omega), rfl⟩, Below.refl _ _⟩
  have h100 : s.size ≤ 100 := by omega
  clear h100'
  obtain ⟨ti, hi, hz0, hz1, hz2⟩ : ∃ i, Tryd.prog.info? 48 = some i ∧ i.zero = some (.agg #[.int .i64 0, .int .i64 0]) ∧ i.size = 2 ∧ i.bytes = 16 := by
    have h := infoBox
    cases hq : Tryd.prog.info? 48 with
    | none => rw [hq] at h; cases h
    | some i => rw [hq] at h; simp at h; exact ⟨i, rfl, h.1, h.2.1, h.2.2⟩
  have IH : Hid (Tryd.prog.info? 48 = some ti ∧ ti.zero = some (.agg #[.int .i64 0, .int .i64 0]) ∧ ti.size = 2 ∧ ti.bytes = 16) := ⟨hi, hz0, hz1, hz2⟩
  clear hi hz0 hz1 hz2
  obtain ⟨ps, hps⟩ : ∃ ps, ps = cutAll 32 [] s.data.toList := ⟨_, rfl⟩
  have HPS : Hid (ps = cutAll 32 [] s.data.toList) := hps
  have hpl : ps.length ≤ 101 := by rw [hps]; have := cutAll_len 32 [] s.data.toList; rw [size_list] at this; omega
  have PL : Hid (∀ p ∈ ps, p.length ≤ 100) := by
    intro p hp
    rw [hps] at hp
    have := piece_len 32 [] _ p hp
    rw [size_list] at this
    simp at this; omega
  have NO : Hid (∀ p ∈ ps, (∀ y : Int × Int, Small y.1 → Small y.2 → boxText1 y ≠ p) → NoBoxes s.data.toList) := by
    intro p hp h
    rw [hps] at hp
    exact no_piece _ p hp h
  have hpn : 0 < ps.length := by rw [hps]; exact List.length_pos_iff.2 (cutAll_ne _ _ _)
  go_enter Tryd.func15, Tryd.ntmps15
  go_wp2_with fail
  refine (l15Cut s w h100).mono ?_
  rintro e w1 ⟨⟨g, cap, rfl, hst⟩, b1⟩
  rw [← hps] at hst ⊢
  have B1 : Hid (Below w.heap.size w w1) := b1
  have ST : Hid (Strs w1 g ps) := hst
  clear b1 hst hps
  go_wp2
  go_loopw [5, 6] (fun o i wr => ∃ (k : Nat) (xs : List (Int × Int)), k ≤ ps.length ∧ i = .int .i64 k ∧ xs.length = k ∧ ps.take k = xs.map boxText1 ∧ wr.ownsRow w1.heap.size 48 2 o k (flat xs) ∧ Below w1.heap.size w1 wr) (fun _ i _ => ps.length - (intOf i).toNat)
  case atStart =>
    refine ⟨0, [], Nat.zero_le _, rfl, rfl, rfl, ?_, (Below.refl _ _).alloc (Nat.le_refl _) _⟩
    exact ⟨rfl, .inr ⟨w1.heap.size, 0, #[], rfl, Nat.le_refl _, heap_new _ _, Nat.le_refl _, by unfold maxLen; omega, rfl, rfl⟩⟩
  case round =>
    obtain ⟨k, xs, hk, rfl, hxl, hxs, hown, hbel⟩ := hrel
    have HL : Hid (xs.length = k) := hxl
    have HX : Hid (ps.take k = xs.map boxText1) := hxs
    have HO : Hid (wr.ownsRow w1.heap.size 48 2 u5 k (flat xs)) := hown
    have HB : Hid (Below w1.heap.size w1 wr) := hbel
    clear hxl hxs hown hbel
    by_cases hlt : k < ps.length
    · obtain ⟨p, hp⟩ : ∃ p, ps[k]? = some p := ⟨ps[k], by simp [hlt]⟩
      have HP : Hid (ps[k]? = some p) := hp
      have MP : Hid (p ∈ ps) := List.mem_of_getElem? hp
      have cg : wr.cell? ⟨g, k, none⟩ = some (.string (str p)) := (ST.out.below HB.out ST.out.1).2 k p hp
      clear hp
      obtain ⟨t, ht⟩ : ∃ t, t = str p := ⟨_, rfl⟩
      have HT : Hid (t = str p) := ht
      rw [← ht] at cg
      have hts : t.size ≤ 100 := by rw [ht, str_size]; exact PL.out p MP.out
      have TL : Hid (t.data.toList = p) := by show _ = _; rw [ht, str_list]
      clear ht
      go_wp2_with fail
      refine (l15Find t wr hts).mono ?_
      rintro e wf ⟨hf, rfl⟩
      rw [TL.out] at hf
      rcases hf with ⟨h47, rfl⟩ | ⟨A, B, hAB, hA, rfl⟩
      · have HN : Hid (NoBoxes s.data.toList) := NO.out p MP.out (fun y _ _ e => h47 (by rw [← e]; exact text1_slash y))
        clear h47
        go_wp2
        refine bodyPost_ret (v := .tuple #[.slice none 0 0, .bool false]) (by simp [results, Tryd.results15, go_sem]) rfl ⟨.inr ⟨HN.out, rfl⟩, ?_⟩
        exact B1.out.trans (HB.out.mono B1.out.size)
      · have CUT : Hid (∀ y : Int × Int, boxText1 y = p ↔ Lib.itoa y.2 = A ∧ Lib.itoa y.1 = B) := by
          intro y
          rw [hAB]
          refine ⟨text1_cut hA, fun h => ?_⟩
          unfold boxText1; rw [h.1, h.2]
        have hsz : t.size = A.length + (B.length + 1) := by rw [HT.out, str_size, hAB]; simp
        obtain ⟨ta, hta⟩ : ∃ ta, ta = str A := ⟨_, rfl⟩
        obtain ⟨tb, htb⟩ : ∃ tb, tb = str B := ⟨_, rfl⟩
        have za : ta.size ≤ 100 := by rw [hta, str_size]; omega
        have zb : tb.size ≤ 100 := by rw [htb, str_size]; omega
        obtain ⟨a, ha⟩ : ∃ a, a = A.length := ⟨_, rfl⟩
        have hl1 : (Instr.slice 9 (.string t) none (some (.int .i64 a)) none).run Tryd.prog wf = .ok (.string ta) wf := by
          rw [run_slice_string_h wf 9 t Tryd.underlying9 .i64 a (by omega) (by omega), HT.out, hta, hAB, ha]
          exact congrArg (fun z => Result.ok (Value.string z) wf) (extract_left A B)
        have hl2 : (Instr.slice 9 (.string t) (some (.int .i64 ((a : Int) + 1))) none none).run Tryd.prog wf = .ok (.string tb) wf := by
          rw [run_slice_string_l wf 9 t Tryd.underlying9 .i64 ((a : Int) + 1) (by omega) (by omega), HT.out, htb, hAB, ha]
          exact congrArg (fun z => Result.ok (Value.string z) wf) (extract_right A B)
        have TA : Hid (ta.data.toList = A) := by show _ = _; rw [hta, str_list]
        have TB : Hid (tb.data.toList = B) := by show _ = _; rw [htb, str_list]
        have ha100 : a ≤ 100 := by omega
        rw [← ha]
        clear hta htb hAB hA hsz ha
        go_wp2_with fail
        refine (l15Num ta wf za).mono ?_
        rintro e w2 ⟨r1, rfl⟩
        rw [TA.out] at r1
        obtain ⟨v, x, rfl, HV⟩ : ∃ (v : Int) (x : Bool), e = .returned (.tuple #[.int .i64 v, .bool x]) ∧ Hid (if x then Small v ∧ Lib.itoa v = A else ∀ n, Small n → Lib.itoa n ≠ A) := by
          rcases r1 with ⟨v, h1, h2, rfl⟩ | ⟨h, rfl⟩
          · exact ⟨v, true, rfl, h1, h2⟩
          · exact ⟨0, false, rfl, h⟩
        clear r1
        go_wp2_with fail
        refine (l15Num tb w2 zb).mono ?_
        rintro e w3 ⟨r2, rfl⟩
        rw [TB.out] at r2
        obtain ⟨n, y, rfl, HM⟩ : ∃ (v : Int) (x : Bool), e = .returned (.tuple #[.int .i64 v, .bool x]) ∧ Hid (if x then Small v ∧ Lib.itoa v = B else ∀ n, Small n → Lib.itoa n ≠ B) := by
          rcases r2 with ⟨v, h1, h2, rfl⟩ | ⟨h, rfl⟩
          · exact ⟨v, true, rfl, h1, h2⟩
          · exact ⟨0, false, rfl, h⟩
        clear r2
        have BE : Hid (Below w.heap.size w w3) := B1.out.trans (HB.out.mono B1.out.size)
        cases x with
        | false =>
          have HN : Hid (NoBoxes s.data.toList) := NO.out p MP.out (fun q _ h2 e => by
            have h := HV.out
            rw [if_neg (by simp)] at h
            exact h q.2 h2 ((CUT.out q).1 e).1)
          go_wp2
          refine bodyPost_ret (v := .tuple #[.slice none 0 0, .bool false]) (by simp [results, Tryd.results15, go_sem]) rfl ⟨.inr ⟨HN.out, rfl⟩, BE.out⟩
        | true =>
          cases y with
          | false =>
            have HN : Hid (NoBoxes s.data.toList) := NO.out p MP.out (fun q h1 _ e => by
              have h := HM.out
              rw [if_neg (by simp)] at h
              exact h q.1 h1 ((CUT.out q).1 e).2)
            go_wp2
            refine bodyPost_ret (v := .tuple #[.slice none 0 0, .bool false]) (by simp [results, Tryd.results15, go_sem]) rfl ⟨.inr ⟨HN.out, rfl⟩, BE.out⟩
          | true =>
            have TX : Hid (ps.take (k + 1) = (xs ++ [(n, v)]).map boxText1) := by
              have h1 := HV.out
              have h2 := HM.out
              rw [if_pos rfl] at h1 h2
              obtain ⟨h3, h4⟩ := List.getElem?_eq_some_iff.1 HP.out
              show _ = _
              rw [List.take_succ_eq_append_getElem h3, h4, HX.out, List.map_append]
              congr 1
              have := (CUT.out (n, v)).2 ⟨h1.2, h2.2⟩
              simp [this]
            go_wp2_with (at_builtin; refine wpList_append_own _ rfl _ _ 23 rfl w1.heap.size 48 ti (.agg #[.int .i64 0, .int .i64 0]) 2 16 Tryd.underlying23 IH.out.1 IH.out.2.1 IH.out.2.2.1 IH.out.2.2.2 rfl (by decide) _ _ _ rfl (HO.out.alloc _) ⟨w3.heap.size, 0, none⟩ 1 1 [.int .i64 n, .int .i64 v] rfl rfl (two_new _ _ _) (by intro u hu; simp at hu; rcases hu with rfl | rfl <;> rfl) (by unfold maxLen; omega) (by omega) (by have := HB.out.size; rw [size_new]; omega) ?_)
            intro v' w4 hown' hgrow _
            have OW : Hid (w4.ownsRow w1.heap.size 48 2 v' (k + 1) (flat (xs ++ [(n, v)]))) := by
              show World.ownsRow _ _ _ _ _ _ _
              rw [flat_snoc]
              exact hown'
            have BW : Hid (Below w1.heap.size w1 w4) := (HB.out.alloc HB.out.size _).grown hgrow (by have := HB.out.size; rw [size_new]; omega) (fun k hk => (HO.out.lt k hk).1)
            clear hown' hgrow
            go_wp2
            go_roundw
            case rel => exact ⟨k + 1, xs ++ [(n, v)], by omega, by go_num, by rw [List.length_append, List.length_singleton, HL.out], TX.out, OW.out, BW.out⟩
            case measure => simp [intOf]; omega
    · have hke : k = ps.length := by omega
      have FX : Hid (textOf xs = s.data.toList) := by
        have h := HX.out
        rw [hke, List.take_length, HPS.out] at h
        exact text_of_pieces h
      obtain ⟨g2, cap2, rfl, hg2, hc2, hat, _⟩ := owned_box2 HO.out (by omega)
      have AT : Hid (BoxAt wr g2 0 xs) := hat
      have BE : Hid (Below w.heap.size w wr) := B1.out.trans (HB.out.mono B1.out.size)
      have hg3 : Hid (w.heap.size ≤ g2) := by show _ ≤ _; have := B1.out.size; omega
      have hxk : k = xs.length := HL.out.symm
      clear hat hke
      subst hxk
      go_wp2_with fail
      refine (specOk _ cap2 xs wr (.inr ⟨_, _, rfl, AT.out⟩) (by omega)).mono ?_
      rintro e w9 ⟨rfl, rfl⟩
      obtain ⟨ok, hok⟩ : ∃ ok, ok = boxOk xs := ⟨_, rfl⟩
      have HOK : Hid (ok = boxOk xs) := hok
      rw [← hok]
      clear hok
      cases ok with
      | true =>
        have h4 : Hid (xs.length = 4) := ((boxOk_iff xs).1 HOK.out.symm).1
        go_wp2
        refine bodyPost_ret (v := .tuple #[.slice (some ⟨g2, 0, none⟩) xs.length cap2, .bool true]) (by simp [results, Tryd.results15, go_sem]) rfl ⟨.inl ⟨xs, g2, cap2, HOK.out.symm, FX.out, hg3.out, by rw [h4.out], AT.out⟩, BE.out⟩
      | false =>
        go_wp2
        refine bodyPost_ret (v := .tuple #[.slice none 0 0, .bool false]) (by simp [results, Tryd.results15, go_sem]) rfl ⟨.inr ⟨?_, rfl⟩, BE.out⟩
        rw [← FX.out]
        exact no_other xs HOK.out.symm
end Go.Proofs.YtipbabkbmiaalaaDoor.Own
