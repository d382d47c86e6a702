/-
  Own text: what spec.ProgRead does.
-/
import Derived.Test.YtbcnmmofccackaaGreatDoorReadS2
import Derived.Test.YtbcnmmofccackaaGreatDoorReadI5
import Derived.Test.YtbcnmmofccackaaGreatDoorProgOkS
namespace Go.Proofs.YtbcnmmofccackaaGreatDoor.Own
open Go.RowKit
set_option linter.unusedVariables false
set_option linter.unusedSimpArgs false

theorem strs_below {w w' : World} {g B : Nat} {ps : List (List UInt8)} (h : Strs w g ps) (hb : Below B w w') (hB : g < B) : Strs w' g ps :=
  ⟨Nat.lt_of_lt_of_le h.1 hb.size, fun i p hp => by rw [hb.cell (p := ⟨g, i, none⟩) hB]; exact h.2 i p hp⟩

theorem four_new2 (w : World) (o : Obj) (a b c d : Value) : ∀ j x, [a, b, c, d][j]? = some x → ((w.alloc o).alloc (.cells #[a, b, c, d] 41)).cell? ((⟨w.heap.size + 1, 0, none⟩ : Addr).add j) = some x := by
  have h := four_new (w.alloc o) a b c d
  rw [size_new] at h
  exact h

theorem own_cell {w : World} {B b : Nat} {v : Value} {xs : List Q4} (h : OwnQ w B v xs) (hx : 0 < xs.length) (hb : v.ownBlock = some b) : ∃ z, w.cell? ⟨b, 0, none⟩ = some (.int .i64 z) := by
  obtain ⟨h1, h2⟩ := h
  rcases h2 with ⟨hv, h0⟩ | ⟨g, cap, cur, hv, hg, hh, hmc, hml, hsz, htk⟩
  · omega
  · have : g = b := by rw [hv] at hb; simpa [Value.ownBlock] using hb
    subst this
    have e := (flat4_get xs 0 hx).1
    rw [← htk, List.getElem?_take_of_lt (by omega)] at e
    rw [cell_heap hh]
    exact ⟨_, by simpa using e⟩

set_option maxRecDepth 100000 in
set_option maxHeartbeats 8000000 in
theorem specProgRead (s : ByteArray) (w : World) (hs : s.size ≤ 1048576) : Calls Tryz.prog 12 #[.string s] w fun e w' => ReadsProg s.data.toList w.heap.size e w' ∧ Below w.heap.size w w' := by
  have SL : Hid (s.data.toList.length = s.size) := size_list s
  by_cases hbig : 400 < s.size
  · have hbig' : (400 : Int) < (s.size : Int) := by omega
    have FIN : Hid (NoProg s.data.toList) := noProg_long _ (by rw [SL.out]; exact hbig)
    go_enter Tryz.func12, Tryz.ntmps12
    go_wp2
    refine bodyPost_ret (v := .tuple #[.slice none 0 0, .bool false]) (by simp [results, Tryz.results12, go_sem]) rfl ⟨.inr ⟨FIN.out, rfl⟩, (Below.refl _ _).alloc (Nat.le_refl _) _⟩
  by_cases hz : s.size = 0
  · have hne : s.toList.isEmpty = true := by rw [ByteArray.toList_eq]; have := SL.out; rw [hz] at this; rw [List.eq_nil_of_length_eq_zero this]; rfl
    have FIN : Hid (s.data.toList = []) := by have := SL.out; rw [hz] at this; exact List.eq_nil_of_length_eq_zero this
    have hsm : (s.size : Int) ≤ 400 := by omega
    have OW : Hid (OwnQ (w.alloc (.cells #[] 41)) w.heap.size (.slice (some ⟨w.heap.size, 0, none⟩) 0 0) []) :=
      ⟨rfl, .inr ⟨w.heap.size, 0, #[], rfl, Nat.le_refl _, heap_new _ _, Nat.le_refl _, by unfold maxLen; omega, rfl, rfl⟩⟩
    go_enter Tryz.func12, Tryz.ntmps12
    go_wp2
    refine bodyPost_ret (v := .tuple #[.slice (some ⟨w.heap.size, 0, none⟩) 0 0, .bool true]) (by simp [results, Tryz.results12, go_sem]) rfl ⟨.inl ⟨[], _, empty_prog.1, by rw [FIN.out]; exact empty_prog.2, rfl, OW.out⟩, (Below.refl _ _).alloc (Nat.le_refl _) _⟩
  have hne : s.toList.isEmpty = false := by
    rw [ByteArray.toList_eq]
    cases hq : s.data.toList with
    | nil => have := SL.out; rw [hq] at this; simp at this; omega
    | cons => rfl
  have hsm : (s.size : Int) ≤ 400 := by omega
  have HL : Hid (s.data.toList ≠ []) := by intro e; have := SL.out; rw [e] at this; simp at this; omega
  obtain ⟨ti, hi, hz0, hz1, hz2⟩ := info_parts infoIns5
  have IH : Hid (Tryz.prog.info? 41 = some ti ∧ ti.zero = some (.agg #[.int .i64 0, .int .i64 0, .int .i64 0, .int .i64 0]) ∧ ti.size = 4 ∧ ti.bytes = 32) := ⟨hi, hz0, hz1, hz2⟩
  clear hi hz0 hz1 hz2
  obtain ⟨cs, hcs⟩ : ∃ cs, cs = cutAll 44 [] s.data.toList := ⟨_, rfl⟩
  have HCS : Hid (cs = cutAll 44 [] s.data.toList) := hcs
  have hcl : cs.length ≤ 401 := by rw [hcs]; have := cutAll_len 44 [] s.data.toList; have := SL.out; omega
  have CC := fun W => l15CutB 44 44 rfl s W (by omega)
  rw [← hcs] at CC
  have HCC : Hid (∀ W, Calls Tryz.prog 31 #[.string s, .int .u8 44] W fun e w' => (∃ g cap, e = .returned (.slice (some ⟨g, 0, none⟩) cs.length cap) ∧ W.heap.size ≤ g ∧ Strs w' g cs) ∧ Below W.heap.size W w') := CC
  clear CC hcs
  obtain ⟨X, hX⟩ : ∃ X, X = w.alloc (.cells #[] 41) := ⟨_, rfl⟩
  have OX : Hid (OwnQ X w.heap.size (.slice (some ⟨w.heap.size, 0, none⟩) 0 0) []) := by
    rw [hX]; exact ⟨rfl, .inr ⟨w.heap.size, 0, #[], rfl, Nat.le_refl _, heap_new _ _, Nat.le_refl _, by unfold maxLen; omega, rfl, rfl⟩⟩
  have BX : Hid (Below w.heap.size w X) := by show Below _ _ _; rw [hX]; exact (Below.refl _ _).alloc (Nat.le_refl _) _
  have SX : Hid (X.heap.size = w.heap.size + 1) := by show _ = _; rw [hX, size_new]
  have HX : Hid (X = w.alloc (.cells #[] 41)) := hX
  clear hX
  go_enter Tryz.func12, Tryz.ntmps12
  go_wp2_with fail
  rw [← HX.out]
  refine (HCC.out X).mono ?_
  rintro e w1 ⟨⟨g, gcap, rfl, hg, st⟩, b1⟩
  have hg1 : w.heap.size < g := by have := SX.out; omega
  have ST1 : Hid (Strs w1 g cs) := st
  have B1 : Hid (Below w.heap.size w w1) := BX.out.trans (b1.mono BX.out.size)
  have O1 : Hid (OwnQ w1 w.heap.size (.slice (some ⟨w.heap.size, 0, none⟩) 0 0) []) := OX.out.keep b1
  have hgl : g < w1.heap.size := st.1
  clear st b1 hg
  go_wp2_with fail
  go_loopw [4, 6] (fun o i wr => ∃ (k : Nat) (qs : List Q4), k ≤ cs.length ∧ i = .int .i64 k ∧ Hid (qs.length = k) ∧ Hid (∀ j, j < k → Fit (cs.getD j []) (qs.getD j q0)) ∧ Hid (OwnQ wr w.heap.size o qs) ∧ Hid (∀ b, o.ownBlock = some b → b ≠ g) ∧ Hid (Strs wr g cs) ∧ Hid (Below w.heap.size w wr)) (fun _ i _ => cs.length - (intOf i).toNat)
  case atStart => exact ⟨0, [], Nat.zero_le _, rfl, rfl, (fun j hj => absurd hj (Nat.not_lt_zero j)), O1.out, (fun b hb => by simp [Value.ownBlock] at hb; omega), ST1.out, B1.out⟩
  case round =>
    obtain ⟨k, qs, hk, rfl, HQL, HF, HO, HG, HST, HB⟩ := hrel
    by_cases hlt : k < cs.length
    · obtain ⟨p, hp⟩ : ∃ p, cs[k]? = some p := ⟨cs[k], List.getElem?_eq_getElem hlt⟩
      have HP : Hid (cs[k]? = some p) := hp
      obtain ⟨tp, htp⟩ : ∃ tp, tp = str p := ⟨_, rfl⟩
      have cp : wr.cell? ⟨g, k, none⟩ = some (.string tp) := by rw [htp]; exact HST.out.2 k p hp
      have hpl : tp.size ≤ 400 := by
        rw [htp, str_size]
        have h1 : p ∈ cutAll 44 [] s.data.toList := by rw [← HCS.out]; exact List.mem_of_getElem? hp
        have := piece_len5 44 [] s.data.toList p h1
        rw [SL.out] at this
        simp at this; omega
      have HTP : Hid (tp.data.toList = p) := by show _ = _; rw [htp, str_list]
      clear hp htp
      go_wp2_with fail
      refine (l2OneC tp wr hpl).mono ?_
      rintro e w5 ⟨⟨a, b, c, d, ok, rfl, ff⟩, b5⟩
      rw [HTP.out] at ff
      have FF : Hid ((ok = true ∧ Fit p (a, b, c, d)) ∨ (ok = false ∧ NoIns p)) := ff
      have O5 : Hid (OwnQ w5 w.heap.size u4 qs) := HO.out.keep b5
      have S5 : Hid (Strs w5 g cs) := strs_below HST.out b5 HST.out.1
      have B5 : Hid (Below w.heap.size w w5) := HB.out.trans (b5.mono HB.out.size)
      have hql : Hid (qs.length = k) := HQL
      clear ff b5
      cases ok with
      | false =>
        have FIN : Hid (NoProg s.data.toList) := by
          rcases FF.out with ⟨h, _⟩ | ⟨_, h⟩
          · cases h
          · exact noProg_piece HL.out (by rw [← HCS.out]; exact List.mem_of_getElem? HP.out) h
        go_wp2
        refine bodyPost_ret (v := .tuple #[.slice none 0 0, .bool false]) (by simp [results, Tryz.results12, go_sem]) rfl ⟨.inr ⟨FIN.out, rfl⟩, B5.out.alloc B5.out.size _⟩
      | true =>
        have FT : Hid (Fit p (a, b, c, d)) := by
          rcases FF.out with ⟨_, h⟩ | ⟨h, _⟩
          · exact h
          · cases h
        have NX : Hid (∀ j, j < k + 1 → Fit (cs.getD j []) ((qs ++ [(a, b, c, d)]).getD j q0)) := by
          intro j hj
          by_cases hjk : j < k
          · have e1 : (qs ++ [(a, b, c, d)]).getD j q0 = qs.getD j q0 := by
              simp [List.getD, List.getElem?_append_left (show j < qs.length by rw [hql.out]; exact hjk)]
            rw [e1]; exact HF.out j hjk
          · have ej : j = k := by omega
            subst ej
            have e1 : (qs ++ [(a, b, c, d)]).getD j q0 = (a, b, c, d) := by simp [List.getD, ← hql.out]
            have e2 : cs.getD j [] = p := by simp [List.getD, HP.out]
            rw [e1, e2]; exact FT.out
        obtain ⟨Z, hZ⟩ : ∃ Z, Z = w5.alloc (.cells #[.int .i64 a, .int .i64 b, .int .i64 c, .int .i64 d] 41) := ⟨_, rfl⟩
        have OZ : Hid (OwnQ Z w.heap.size u4 qs) := by rw [hZ]; exact O5.out.keep ((Below.refl _ _).alloc (Nat.le_refl _) _)
        have SZ : Hid (Strs Z g cs) := by rw [hZ]; exact strs_below S5.out ((Below.refl _ _).alloc (Nat.le_refl _) _) S5.out.1
        have BZ : Hid (Below w.heap.size w Z) := by rw [hZ]; exact B5.out.alloc B5.out.size _
        have HZ : Hid (Z = w5.alloc (.cells #[.int .i64 a, .int .i64 b, .int .i64 c, .int .i64 d] 41)) := hZ
        clear hZ
        go_wp2_with (at_builtin; refine wpList_append_own _ rfl _ _ 23 rfl w.heap.size 41 ti (.agg #[.int .i64 0, .int .i64 0, .int .i64 0, .int .i64 0]) 4 32 Tryz.underlying23 IH.out.1 IH.out.2.1 IH.out.2.2.1 IH.out.2.2.2 rfl (by decide) _ _ _ rfl ((O5.out.alloc _).alloc _) ⟨w5.heap.size + 1, 0, none⟩ 1 1 [.int .i64 a, .int .i64 b, .int .i64 c, .int .i64 d] rfl rfl (four_new2 _ _ _ _ _ _) (by intro u hu; simp at hu; rcases hu with rfl | rfl | rfl | rfl <;> rfl) (by have := hql.out; unfold maxLen; omega) (by have := hql.out; omega) (by have := B5.out.size; rw [size_new, size_new]; omega) ?_)
        intro v' w6 hown' hgrow _
        rw [← HZ.out] at hgrow
        have OW : Hid (OwnQ w6 w.heap.size v' (qs ++ [(a, b, c, d)])) := by
          show World.ownsRow _ _ _ _ _ _ _
          rw [flat4_snoc, List.length_append, List.length_singleton]
          exact hown'
        have BW : Hid (Below w.heap.size w w6) := (BZ.out.alloc BZ.out.size _).grown hgrow (by have := BZ.out.size; rw [size_new]; omega) (fun j hj => (OZ.out.lt j hj).1)
        have SW : Hid (Strs w6 g cs) := by
          have hz := SZ.out.1
          have e : w6.heap[g]? = Z.heap[g]? := by
            rw [hgrow.block g (by rw [size_new]; omega) (fun e => HG.out g e.symm rfl), heap_old _ _ _ hz]
          refine ⟨?_, fun i q hq => ?_⟩
          · have := hgrow.size; rw [size_new] at this; omega
          · rw [World.cell?_of_block (w := Z) (a := ⟨g, i, none⟩) e]; exact SZ.out.2 i q hq
        have GW : Hid (∀ b, v'.ownBlock = some b → b ≠ g) := by
          intro b' hb' e
          subst e
          obtain ⟨z, hz⟩ := own_cell OW.out (by simp) hb'
          have hc0 : cs[0]? = some cs[0] := List.getElem?_eq_getElem (by omega)
          rw [SW.out.2 0 _ hc0] at hz
          cases hz
        have LX : Hid ((qs ++ [(a, b, c, d)]).length = k + 1) := by show _ = _; rw [List.length_append, hql.out]; rfl
        clear hown' hgrow
        go_wp2
        go_roundw
        case rel => exact ⟨k + 1, qs ++ [(a, b, c, d)], by omega, by go_num, LX.out, NX.out, OW.out, GW.out, SW.out, BW.out⟩
        case measure => simp [intOf]; omega
    · have hke : k = cs.length := by omega
      obtain ⟨a, cap, hv, sl, _⟩ := HO.out.open
      have HO' : Hid (OwnQ wr w.heap.size (.slice a qs.length cap) qs) := by rw [← hv]; exact HO.out
      have PR : Hid ((progOk qs = true → progText qs = s.data.toList) ∧ (progOk qs = false → NoProg s.data.toList)) := by
        refine prog_read HL.out ?_
        rw [← HCS.out]
        exact ⟨by rw [HQL.out, hke], fun i hi => HF.out i (by rw [← HQL.out]; exact hi)⟩
      have hql : qs.length ≤ 401 := by rw [HQL.out]; omega
      have CP := specProgOk a cap qs wr sl (by omega)
      clear HO sl HG
      subst hv
      cases hok : progOk qs with
      | true =>
        rw [hok] at CP
        have HCP : Hid (Calls Tryz.prog 9 #[.slice a qs.length cap] wr fun e w' => e = .returned (.bool true) ∧ Below wr.heap.size wr w') := CP
        have TX : Hid (progText qs = s.data.toList) := PR.out.1 hok
        have HOK : Hid (progOk qs = true) := hok
        clear CP PR hok
        go_wp2_with fail
        refine HCP.out.mono ?_
        rintro e w7 ⟨rfl, b7⟩
        have B7 : Hid (Below w.heap.size w w7) := HB.out.trans (b7.mono HB.out.size)
        have O7 : Hid (OwnQ w7 w.heap.size (.slice a qs.length cap) qs) := HO'.out.keep b7
        clear b7
        go_wp2_with fail
        refine bodyPost_ret (v := .tuple #[.slice a qs.length cap, .bool true]) (by simp [results, Tryz.results12, go_sem]) rfl ⟨.inl ⟨qs, _, HOK.out, TX.out, rfl, O7.out⟩, B7.out⟩
      | false =>
        rw [hok] at CP
        have HCP : Hid (Calls Tryz.prog 9 #[.slice a qs.length cap] wr fun e w' => e = .returned (.bool false) ∧ Below wr.heap.size wr w') := CP
        have NP : Hid (NoProg s.data.toList) := PR.out.2 hok
        clear CP PR hok
        go_wp2_with fail
        refine HCP.out.mono ?_
        rintro e w7 ⟨rfl, b7⟩
        have B7 : Hid (Below w.heap.size w w7) := HB.out.trans (b7.mono HB.out.size)
        clear b7
        go_wp2_with fail
        refine bodyPost_ret (v := .tuple #[.slice none 0 0, .bool false]) (by simp [results, Tryz.results12, go_sem]) rfl ⟨.inr ⟨NP.out, rfl⟩, B7.out⟩
end Go.Proofs.YtbcnmmofccackaaGreatDoor.Own
