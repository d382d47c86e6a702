/-
  Own text: what strings.Split does at a comma, and what impl.ProgRead does.
-/
import Derived.Test.YtbcnmmofccackaaGreatDoorReadI4
import Derived.Test.YtbcnmmofccackaaGreatDoorProgOkI
import Derived.Test.YtbcnmmofccackaaGreatDoorSCut
import Derived.Test.YtbcnmmofccackaaGreatDoorOwnQ
import Derived.OwnWalk
namespace Go.Proofs.YtbcnmmofccackaaGreatDoor.Own
open Go.RowKit
set_option linter.unusedVariables false
set_option linter.unusedSimpArgs false

theorem cut_none1 (c : UInt8) (l : List UInt8) (h : c ∉ l) : cutAll c [] l = [l] := by
  have := cut_skip c l [] [] h
  simpa [cutAll] using this
theorem cut_some1 (c : UInt8) (A B : List UInt8) (h : c ∉ A) : cutAll c [] (A ++ c :: B) = A :: cutAll c [] B := by
  have := cut_skip c A [] (c :: B) h
  rw [this]
  simp [cutAll]

theorem split_cut (c : UInt8) : ∀ (k : Nat) (l : List UInt8), l.count c = k → Lib.splitK [c] 0 k l = cutAll c [] l
  | 0, l, h => by
    rw [Lib.splitK, cut_none1 c l (List.count_eq_zero.1 h)]
  | k + 1, l, h => by
    rcases index1 c l with ⟨h1, h2⟩ | ⟨A, B, h1, h2, h3⟩
    · rw [List.count_eq_zero.2 h1] at h; omega
    · have hk : B.count c = k := by
        rw [h1, List.count_append, List.count_cons_self, List.count_eq_zero.2 h2] at h; omega
      rw [Lib.splitK, h3]
      have hne : (((A.length : Nat) : Int) == -1) = false := by rw [beq_eq_false_iff_ne]; omega
      rw [hne, if_neg (by simp), h1, cut_some1 c A B h2, ← split_cut c k B hk]
      simp

theorem infoStrE : (Tryz.prog.info? 9).map (fun i => (i.zero, i.size, i.bytes)) = some (some (.string ByteArray.empty), 1, 16) := by kernel_rfl

theorem splitC (s : ByteArray) (w : World) (hs : s.size ≤ 1000) (hE : Env w) : Calls Tryz.prog 23 #[.string s, .string ⟨#[44]⟩] w fun e w' =>
    e = .returned (.slice (some ⟨w.heap.size, 0, none⟩) (cutAll 44 [] s.data.toList).length (cutAll 44 [] s.data.toList).length) ∧ Strs w' w.heap.size (cutAll 44 [] s.data.toList) ∧ Below w.heap.size w w' := by
  obtain ⟨_, _, _, m, hm⟩ := hE
  have hcount : Lib.countB s ⟨#[44]⟩ = s.data.toList.count 44 := Lib.count_one 44 s.data.toList
  have hmap : (Lib.splitB ⟨#[44]⟩ 0 (Lib.countB s ⟨#[44]⟩) s).map (·.data.toList) = cutAll 44 [] s.data.toList := by
    rw [Lib.splitB_data]
    exact split_cut 44 _ _ hcount.symm
  have hlen : Lib.countB s ⟨#[44]⟩ + 1 = (cutAll 44 [] s.data.toList).length := by
    rw [← hmap, List.length_map, Lib.splitB_all ⟨#[44]⟩ (by decide) 0 _ s rfl]
  refine (Any.strings_Split { Tryz.laysM146 with } infoStrE s ⟨#[44]⟩ m w (by omega) hm (by decide)).mono ?_
  rintro e w' ⟨rfl, rfl⟩
  refine ⟨by rw [hlen], ⟨by rw [size_new]; omega, fun i p hp => ?_⟩, (Below.refl _ _).alloc (Nat.le_refl _) _⟩
  rw [cell_heap (heap_new _ _)]
  rw [← hmap, List.getElem?_map] at hp
  simp only [List.getElem?_toArray, List.getElem?_map]
  cases hq : (Lib.splitB ⟨#[44]⟩ 0 (Lib.countB s ⟨#[44]⟩) s)[i]? with
  | none => rw [hq] at hp; cases hp
  | some b =>
    rw [hq] at hp
    injection hp with hp
    simp only [Option.map_some]
    rw [← hp]
    exact congrArg (fun z => some (Value.string z)) (str_eq rfl)

theorem piece_len5 (c : UInt8) : ∀ (acc l p : List UInt8), p ∈ cutAll c acc l → p.length ≤ acc.length + l.length
  | acc, [], p, h => by simp [cutAll] at h; simp [h]
  | acc, x :: r, p, h => by
    unfold cutAll at h
    split at h
    · rcases List.mem_cons.1 h with rfl | h
      · omega
      · have := piece_len5 c [] r p h; simp at this ⊢; omega
    · have := piece_len5 c (acc ++ [x]) r p h; simp at this ⊢; omega

/-- What a reader of programs answers: the program that is ok of which this is the text, in memory of its own; or nothing, and then there is none. -/
def ReadsProg (l : List UInt8) (B : Nat) (e : Ending) (w' : World) : Prop :=
  (∃ (xs : List Q4) (v : Value), progOk xs = true ∧ progText xs = l ∧ e = .returned (.tuple #[v, .bool true]) ∧ OwnQ w' B v xs) ∨ (NoProg l ∧ e = .returned (.tuple #[.slice none 0 0, .bool false]))

theorem empty_prog : progOk [] = true ∧ progText [] = [] := ⟨rfl, rfl⟩

set_option maxRecDepth 100000 in
set_option maxHeartbeats 8000000 in
theorem implProgRead (s : ByteArray) (w : World) (hs : s.size ≤ 1048576) (hE : Env w) : Calls Tryz.prog 6 #[.string s] w fun e w' => ReadsProg s.data.toList w.heap.size e w' ∧ Below w.heap.size w w' := by
  have HE : Hid (Env w) := hE
  have SL : Hid (s.data.toList.length = s.size) := size_list s
  clear hE
  by_cases hbig : 400 < s.size
  · have hbig' : (400 : Int) < (s.size : Int) := by omega
    have FIN : Hid (NoProg s.data.toList) := noProg_long _ (by rw [SL.out]; exact hbig)
    go_enter Tryz.func6, Tryz.ntmps6
    go_wp2
    refine bodyPost_ret (v := .tuple #[.slice none 0 0, .bool false]) (by simp [results, Tryz.results6, go_sem]) rfl ⟨.inr ⟨FIN.out, rfl⟩, Below.refl _ _⟩
  by_cases hz : s.size = 0
  · have hne : s.toList.isEmpty = true := by rw [ByteArray.toList_eq]; have := SL.out; rw [hz] at this; rw [List.eq_nil_of_length_eq_zero this]; rfl
    have FIN : Hid (s.data.toList = []) := by have := SL.out; rw [hz] at this; exact List.eq_nil_of_length_eq_zero this
    have hsm : (s.size : Int) ≤ 400 := by omega
    go_enter Tryz.func6, Tryz.ntmps6
    go_wp2
    refine bodyPost_ret (v := .tuple #[.slice none 0 0, .bool true]) (by simp [results, Tryz.results6, go_sem]) rfl ⟨.inl ⟨[], _, empty_prog.1, by rw [FIN.out]; exact empty_prog.2, rfl, World.ownsRow_nil _ _ _ _⟩, Below.refl _ _⟩
  have hne : s.toList.isEmpty = false := by
    rw [ByteArray.toList_eq]
    cases hq : s.data.toList with
    | nil => have := SL.out; rw [hq] at this; simp at this; omega
    | cons => rfl
  have hsm : (s.size : Int) ≤ 400 := by omega
  have HL : Hid (s.data.toList ≠ []) := by intro e; have := SL.out; rw [e] at this; simp at this; omega
  obtain ⟨ti, hi, hz0, hz1, hz2⟩ := info_parts infoIns5
  have IH : Hid (Tryz.prog.info? 41 = some ti ∧ ti.zero = some (.agg #[.int .i64 0, .int .i64 0, .int .i64 0, .int .i64 0]) ∧ ti.size = 4 ∧ ti.bytes = 32) := ⟨hi, hz0, hz1, hz2⟩
  clear hi hz0 hz1 hz2
  obtain ⟨cs, hcs⟩ : ∃ cs, cs = cutAll 44 [] s.data.toList := ⟨_, rfl⟩
  have HCS : Hid (cs = cutAll 44 [] s.data.toList) := hcs
  have hcl : cs.length ≤ 401 := by rw [hcs]; have := cutAll_len 44 [] s.data.toList; have := SL.out; omega
  have CS := splitC s w (by omega) HE.out
  rw [← hcs] at CS
  have HSP : Hid (Calls Tryz.prog 23 #[.string s, .string ⟨#[44]⟩] w fun e w' => e = .returned (.slice (some ⟨w.heap.size, 0, none⟩) cs.length cs.length) ∧ Strs w' w.heap.size cs ∧ Below w.heap.size w w') := CS
  clear CS hcs
  go_enter Tryz.func6, Tryz.ntmps6
  go_wp2_with fail
  refine HSP.out.mono ?_
  rintro e w1 ⟨rfl, st, b1⟩
  have ST1 : Hid (Strs w1 w.heap.size cs) := st
  have B1 : Hid (Below w.heap.size w w1) := b1
  clear st b1
  go_wp2_with fail
  go_loopw [4, 16] (fun o i wr => ∃ (k : Nat) (qs : List Q4), k ≤ cs.length ∧ i = .int .i64 k ∧ Hid (qs.length = k) ∧ Hid (∀ j, j < k → Fit (cs.getD j []) (qs.getD j q0)) ∧ Hid (OwnQ wr w1.heap.size o qs) ∧ Hid (Below w1.heap.size w1 wr)) (fun _ i _ => cs.length - (intOf i).toNat)
  case atStart => exact ⟨0, [], Nat.zero_le _, rfl, rfl, (fun j hj => absurd hj (Nat.not_lt_zero j)), World.ownsRow_nil _ _ _ _, Below.refl _ _⟩
  case round =>
    obtain ⟨k, qs, hk, rfl, HQL, HF, HO, HB⟩ := hrel
    by_cases hlt : k < cs.length
    · obtain ⟨p, hp⟩ : ∃ p, cs[k]? = some p := ⟨cs[k], List.getElem?_eq_getElem hlt⟩
      have HP : Hid (cs[k]? = some p) := hp
      have cp : wr.cell? ⟨w.heap.size, k, none⟩ = some (.string (str p)) := by
        rw [HB.out.cell (p := ⟨w.heap.size, k, none⟩) ST1.out.1]; exact ST1.out.2 k p hp
      have hpl : Hid (p.length ≤ 400) := by
        show _ ≤ _
        have h1 : p ∈ cutAll 44 [] s.data.toList := by rw [← HCS.out]; exact List.mem_of_getElem? hp
        have := piece_len5 44 [] s.data.toList p h1
        rw [SL.out] at this
        simp at this; omega
      clear hp
      obtain ⟨tp, htp⟩ : ∃ tp, tp = str p := ⟨_, rfl⟩
      rw [← htp] at cp
      have HTP : Hid (tp = str p) := htp
      clear htp
      obtain ⟨X, hX⟩ : ∃ X, X = wr.alloc (.cells #[.string tp, .bool false, .bool false] 53) := ⟨_, rfl⟩
      have bX : Hid (Below wr.heap.size wr X) := by show Below _ _ _; rw [hX]; exact (Below.refl _ _).alloc (Nat.le_refl _) _
      have rX : Hid (RdW X wr.heap.size (cutAll 32 [] p) false false) := by
        show _ = _
        rw [hX, heap_new, HTP.out, join_cut]; rfl
      have HX : Hid (X = wr.alloc (.cells #[.string tp, .bool false, .bool false] 53)) := hX
      have wX : Hid (Below w.heap.size w X) := (B1.out.trans (HB.out.mono B1.out.size)).trans (bX.out.mono (Nat.le_trans B1.out.size HB.out.size))
      have oX : Hid (OwnQ X w1.heap.size u4 qs) := HO.out.keep bX.out
      have hle : w.heap.size ≤ wr.heap.size := Nat.le_trans B1.out.size HB.out.size
      have hle1 : w1.heap.size ≤ wr.heap.size := HB.out.size
      clear hX
      go_wp2_with fail
      rw [← HX.out]
      refine (readC wr.heap.size p false w X hpl.out rX.out HE.out wX.out hle).mono ?_
      rintro e w5 ⟨a, b, c, d, f, m', rs, rfl, rd5, ff, bar5⟩
      have barW : Bar wr.heap.size wr w5 := (Bar.ofBelow bX.out).trans bar5
      have o5 : OwnQ w5 w1.heap.size u4 qs := HO.out.bar barW (Nat.le_refl _)
      have O5 : Hid (OwnQ w5 w1.heap.size u4 qs) := o5
      have B5 : Hid (Below w1.heap.size w1 w5) := HB.out.trans (barW.below hle1 hle1)
      have RD5 : Hid (RdW w5 wr.heap.size rs m' f) := rd5
      have FF : Hid ((f = false ∧ Fit p (a, b, c, d)) ∨ (f = true ∧ NoIns p)) := ff
      have hql : Hid (qs.length = k) := HQL
      have NB : Hid (∀ g, u4.ownBlock = some g → g ≠ wr.heap.size) := by
        intro g hg e
        have := (HO.out.lt g hg).2
        omega
      clear rd5 ff bar5 barW o5 oX rX bX wX
      go_wp2_with (at_builtin; refine wpList_append_own _ rfl _ _ 23 rfl w1.heap.size 41 ti (.agg #[.int .i64 0, .int .i64 0, .int .i64 0, .int .i64 0]) 4 32 Tryz.underlying23 IH.out.1 IH.out.2.1 IH.out.2.2.1 IH.out.2.2.2 rfl (by decide) _ _ _ rfl (O5.out.alloc _) ⟨w5.heap.size, 0, none⟩ 1 1 [.int .i64 a, .int .i64 b, .int .i64 c, .int .i64 d] rfl rfl (four_new _ _ _ _ _) (by intro u hu; simp at hu; rcases hu with rfl | rfl | rfl | rfl <;> rfl) (by have := hql.out; unfold maxLen; omega) (by have := hql.out; omega) (by have := B5.out.size; rw [size_new]; omega) ?_)
      intro v' w6 hown' hgrow _
      have OW : Hid (OwnQ w6 w1.heap.size v' (qs ++ [(a, b, c, d)])) := by
        show World.ownsRow _ _ _ _ _ _ _
        rw [flat4_snoc, List.length_append, List.length_singleton]
        exact hown'
      have BW : Hid (Below w1.heap.size w1 w6) := (B5.out.alloc B5.out.size _).grown hgrow (by have := B5.out.size; rw [size_new]; omega) (fun j hj => (O5.out.lt j hj).1)
      have RD6 : RdW w6 wr.heap.size rs m' f := by
        show _ = _
        have h0 := RD5.out.lt
        rw [hgrow.block wr.heap.size (by rw [size_new]; omega) (fun e => NB.out _ e.symm rfl), heap_old _ _ _ h0]
        exact RD5.out
      obtain ⟨e0, e1, e2, _⟩ := RD6.cells
      clear hown' hgrow RD6 e0 e1
      cases f with
      | true =>
        have FIN : Hid (NoProg s.data.toList) := by
          rcases FF.out with ⟨h, _⟩ | ⟨_, h⟩
          · cases h
          · exact noProg_piece HL.out (by rw [← HCS.out]; exact List.mem_of_getElem? HP.out) h
        go_wp2
        refine bodyPost_ret (v := .tuple #[.slice none 0 0, .bool false]) (by simp [results, Tryz.results6, go_sem]) rfl ⟨.inr ⟨FIN.out, rfl⟩, B1.out.trans (BW.out.mono B1.out.size)⟩
      | false =>
        have FT : Hid (Fit p (a, b, c, d)) := by
          rcases FF.out with ⟨_, h⟩ | ⟨h, _⟩
          · exact h
          · cases h
        have NX : Hid (∀ j, j < k + 1 → Fit (cs.getD j []) ((qs ++ [(a, b, c, d)]).getD j q0)) := by
          intro j hj
          by_cases hjk : j < k
          · have e1 : (qs ++ [(a, b, c, d)]).getD j q0 = qs.getD j q0 := by
              simp [List.getD, List.getElem?_append_left (show j < qs.length by rw [hql.out]; exact hjk)]
            rw [e1]; exact HF.out j hjk
          · have ej : j = k := by omega
            subst ej
            have e1 : (qs ++ [(a, b, c, d)]).getD j q0 = (a, b, c, d) := by simp [List.getD, ← hql.out]
            have e2 : cs.getD j [] = p := by simp [List.getD, HP.out]
            rw [e1, e2]; exact FT.out
        go_wp2
        go_roundw
        case rel => exact ⟨k + 1, qs ++ [(a, b, c, d)], by omega, by go_num, by show _ = _; rw [List.length_append, hql.out]; rfl, NX.out, OW.out, BW.out⟩
        case measure => simp [intOf]; omega
    · have hke : k = cs.length := by omega
      obtain ⟨a, cap, hv, sl, _⟩ := HO.out.open
      have HO' : Hid (OwnQ wr w1.heap.size (.slice a qs.length cap) qs) := by rw [← hv]; exact HO.out
      have PR : Hid ((progOk qs = true → progText qs = s.data.toList) ∧ (progOk qs = false → NoProg s.data.toList)) := by
        refine prog_read HL.out ?_
        rw [← HCS.out]
        exact ⟨by rw [HQL.out, hke], fun i hi => HF.out i (by rw [← HQL.out]; exact hi)⟩
      have SLq : Hid (Sl4 wr a qs) := sl
      have hql : qs.length ≤ 401 := by rw [HQL.out]; omega
      have BE : Hid (Below w.heap.size w wr) := B1.out.trans (HB.out.mono B1.out.size)
      have CP := implProgOk a cap qs wr sl (by omega)
      have OK : Hid (∀ b, progOk qs = b → progOk qs = b) := fun _ h => h
      clear HO sl
      subst hv
      cases hok : progOk qs with
      | true =>
        rw [hok] at CP
        have HCP : Hid (Calls Tryz.prog 8 #[.slice a qs.length cap] wr fun e w' => e = .returned (.bool true) ∧ Below wr.heap.size wr w') := CP
        have TX : Hid (progText qs = s.data.toList) := PR.out.1 hok
        have HOK : Hid (progOk qs = true) := hok
        clear CP PR OK hok
        go_wp2_with fail
        refine HCP.out.mono ?_
        rintro e w7 ⟨rfl, b7⟩
        have B7 : Hid (Below w.heap.size w w7) := BE.out.trans (b7.mono BE.out.size)
        have O7 : Hid (OwnQ w7 w.heap.size (.slice a qs.length cap) qs) := (HO'.out.keep b7).lower B1.out.size
        clear b7
        go_wp2_with fail
        refine bodyPost_ret (v := .tuple #[.slice a qs.length cap, .bool true]) (by simp [results, Tryz.results6, go_sem]) rfl ⟨.inl ⟨qs, _, HOK.out, TX.out, rfl, O7.out⟩, B7.out⟩
      | false =>
        rw [hok] at CP
        have HCP : Hid (Calls Tryz.prog 8 #[.slice a qs.length cap] wr fun e w' => e = .returned (.bool false) ∧ Below wr.heap.size wr w') := CP
        have NP : Hid (NoProg s.data.toList) := PR.out.2 hok
        clear CP PR OK hok
        go_wp2_with fail
        refine HCP.out.mono ?_
        rintro e w7 ⟨rfl, b7⟩
        have B7 : Hid (Below w.heap.size w w7) := BE.out.trans (b7.mono BE.out.size)
        clear b7
        go_wp2_with fail
        refine bodyPost_ret (v := .tuple #[.slice none 0 0, .bool false]) (by simp [results, Tryz.results6, go_sem]) rfl ⟨.inr ⟨NP.out, rfl⟩, B7.out⟩
end Go.Proofs.YtbcnmmofccackaaGreatDoor.Own
