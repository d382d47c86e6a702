/-
  Own text, by program (gen_fnacckeep.py): laws.FnAccKeep.
-/
import Derived.Test.YtfifiobcmdmefaaQLawAccMerge
import Derived.Test.YtfifiobcmdmefaaPk12
import Derived.Test.YtfifiobcmdmefaaPk11
import Derived.Test.YtfifiobcmdmefaaPk9
import Derived.Deep.RegionHeld
import Derived.BigQuiet
import Derived.Lib.QuietBelow
import Derived.Deep.Cut
import Derived.Deep.CutRange
namespace Go.Proofs.Ytfifiobcmdmefaa.Own
open Go.RowKit Go.Sort
set_option linter.unusedVariables false
set_option linter.unusedSimpArgs false

/-- An acceptor that is right, on its way: in block P; its votes behind it. -/
structure KI (w : World) (P : Nat) (t : Int) (la : Option Addr) (K lc : Nat) (us : List VM) (wx : World) : Prop where
  blk : Blk wx P #[.int .i64 t, .slice la K lc] 25
  len : us.length = K
  own : ∃ T, LV wx (P + 1) T (.slice la K lc) us
  ok : accOk t (bodies us) = true
  hi : t ≤ 40
  bel : Below w.heap.size w wx
theorem LV.setHigh {w : World} {B T : Nat} {v : Value} {L : List VM} (h : LV w B T v L) {p : Addr} (hp : T ≤ p.block) (x : Value) : LV (w.setCell p x) B T v L :=
  ⟨h.own.keepIn (by simp [World.setCell]) fun b _ hT => Below.heap_setCell _ _ _ _ (by omega), h.cap, h.short, h.len⟩
theorem KI.keep {w wx wy : World} {P K lc : Nat} {t : Int} {la : Option Addr} {us : List VM} (h : KI w P t la K lc us wx) (hb : Below wx.heap.size wx wy) : KI w P t la K lc us wy := by
  obtain ⟨T, hT⟩ := h.own
  exact ⟨h.blk.keep hb, h.len, ⟨T, hT.keep hb⟩, h.ok, h.hi, h.bel.trans (hb.mono h.bel.size)⟩
/-- The acceptor is another one's: stored into its block. -/
theorem KI.store {w wx wy : World} {P K lc K' lc' : Nat} {t t' : Int} {la la' : Option Addr} {us N : List VM} {B T : Nat} (h : KI w P t la K lc us wx) (hb : Below wx.heap.size wx wy) (hB : P + 1 ≤ B) (hP : w.heap.size ≤ P) (hn : N.length = K') (ho : LV wy B T (.slice la' K' lc') N) (hok : accOk t' (bodies N) = true) (hh : t' ≤ 40) :
    KI w P t' la' K' lc' N ((wy.setCell ⟨P, 0, none⟩ (.int .i64 t')).setCell ⟨P, 1, none⟩ (.slice la' K' lc')) := by
  have k := h.keep hb
  refine ⟨((k.blk.set 0 _).set 1 _).eq (by simp), hn, ⟨T, ?_⟩, hok, hh, (k.bel.setCell hP _).setCell hP _⟩
  exact ((ho.setLow (p := ⟨P, 0, none⟩) (by simp only; omega) _).setLow (p := ⟨P, 1, none⟩) (by simp only; omega) _).weaken hB
theorem wrap_ownK (n : Int) (h0 : 0 ≤ n) (h1 : n < 9223372036854775808) : IntKind.i64.wrap n = n := by
  have hm : n % 18446744073709551616 = n := by omega
  simp [IntKind.wrap, IntKind.bits, IntKind.signed, hm]
  omega
theorem voK (m b : Int) (s : Nat) (A : List V) : (voB m b s eN A).length ≤ 40 := voB_len _ _ _ _ _

set_option maxRecDepth 100000 in
set_option maxHeartbeats 8000000 in
theorem lawAccKeep (a : Option Addr) (n c : Nat) (a' : Option Addr) (n' c' : Nat) (w : World) (h : Bytes w w.heap.size a n) (hc : n ≤ c) (hm : c ≤ maxLen) (h' : Bytes w w.heap.size a' n') (hc' : n' ≤ c') (hm' : c' ≤ maxLen) :
    Calls Try.prog 6 #[.slice a n c, .slice a' n' c'] w fun e w' => e = .returned (.bool true) ∧ Below w.heap.size w w' := by
  have HB : Hid (Bytes w w.heap.size a n) := h
  have HM : Hid (c ≤ maxLen) := hm
  have HB2 : Hid (Bytes w w.heap.size a' n') := h'
  clear h h'
  unfold maxLen at hm hm'
  by_cases hn : n ≤ 1048576
  · have hd : decide ((1048576 : Int) < (n : Int)) = false := by simp; omega
    by_cases hn2 : n' ≤ 1048576
    · have hd2 : decide ((1048576 : Int) < (n' : Int)) = false := by simp; omega
      obtain ⟨W, hW⟩ : ∃ W, W = w.alloc (.cells #[.int .i64 0, .slice none 0 0] 25) := ⟨_, rfl⟩
      obtain ⟨P, hP⟩ : ∃ P, P = w.heap.size := ⟨_, rfl⟩
      have HP : Hid (w.heap.size = P) := hP.symm
      have EW : Hid (W = w.alloc (.cells #[.int .i64 0, .slice none 0 0] 25)) := hW
      have K0 : Hid (KI w P 0 none 0 0 [] W) := by
        show KI _ _ _ _ _ _ _ _
        rw [hW, hP]
        exact ⟨Blk.new _ _ _, rfl, ⟨_, ⟨(OwnR.nil _ _ _ _), fun i hi => absurd hi (Nat.not_lt_zero _), fun i hi => absurd hi (Nat.not_lt_zero _), Nat.zero_le _⟩⟩, accOk_zero, by omega, below_new _ _⟩
      clear hW
      go_enter Try.func6, Try.ntmps6
      go_upto_region 4 with fail
      rw [← EW.out, ← hP]
      clear EW hP hd hd2
      go_wp2_with fail
      go_loopw [6, 7] (fun t i wr => ∃ (k : Nat) (m : Int), k ≤ 30 ∧ k ≤ n' ∧ i = .int .i64 k ∧ t = .int .i64 m ∧ Hid (∃ la K lc us, KI w P m la K lc us wr)) (fun _ i _ => 30 - (intOf i).toNat)
      case atStart => exact ⟨0, 0, Nat.zero_le _, Nat.zero_le _, rfl, rfl, none, 0, 0, [], K0.out⟩
      case round =>
        obtain ⟨k, m, hk30, hkn, rfl, rfl, HI⟩ := hrel
        obtain ⟨la, K, lc, us, hI⟩ := HI.out
        have I : Hid (KI w P m la K lc us wr) := hI
        clear hI HI
        by_cases hlt : k < n' ∧ k < 30
        · obtain ⟨hl1, hl2⟩ := hlt
          have hki : (k : Int) < (n' : Int) := by omega
          have hki2 : decide ((k : Int) < 30) = true := by simp; omega
          obtain ⟨z, hz, cz, gb, goff, ea⟩ : ∃ z : Nat, z < 256 ∧ (∃ b off, a' = some ⟨b, off, none⟩ ∧ b < w.heap.size ∧ w.cell? ⟨b, off + k, none⟩ = some (.int .u8 z)) ∧ ∃ b off, a' = some ⟨b, off, none⟩ := by
            rcases HB2.out with h | ⟨b, off, rfl, hb, hz⟩
            · omega
            · obtain ⟨z, h1, h2⟩ := hz k hl1
              exact ⟨z, h1, ⟨b, off, rfl, hb, h2⟩, b, off, rfl⟩
          subst ea
          obtain ⟨b', off', eb, hb', cz⟩ := cz
          obtain ⟨rfl, rfl⟩ : gb = b' ∧ goff = off' := by injection eb with eb; injection eb with e1 e2; exact ⟨e1, e2⟩
          clear eb
          have CZ : Hid (∀ W, Below w.heap.size w W → W.cell? ⟨gb, goff + k, none⟩ = some (.int .u8 z)) := fun W hb => by rw [hb.cell (p := ⟨gb, goff + k, none⟩) hb']; exact cz
          clear cz hb'
          obtain ⟨q, em40, lq⟩ : ∃ q : Nat, (z : Int) % 40 = q ∧ q < 40 := ⟨z % 40, by simp, Nat.mod_lt _ (by omega)⟩
          obtain ⟨s, em5, ls⟩ : ∃ s : Nat, (z : Int) % 5 = s ∧ s < 5 := ⟨z % 5, by simp, Nat.mod_lt _ (by omega)⟩
          obtain ⟨r, em3, lr⟩ : ∃ r : Nat, (z : Int) % 3 = r ∧ r < 3 := ⟨z % 3, by simp, Nat.mod_lt _ (by omega)⟩
          obtain ⟨bl, hbl⟩ : ∃ bl : Int, bl = (q : Int) + 1 := ⟨_, rfl⟩
          have HBL : Hid (1 ≤ bl ∧ bl ≤ 40) := by show _ ∧ _; omega
          have SZ : Hid (P < wr.heap.size) := I.out.blk.lt
          have c0 := CZ.out wr I.out.bel
          obtain ⟨d0, d1⟩ := I.out.blk.cells2
          have fr := I.out.blk.frozen
          have LK : K ≤ 40 := by obtain ⟨T, hT⟩ := I.out.own; have := hT.len; have := I.out.len; omega
          go_upto_region 9 with fail
          rw [← hbl]
          clear hbl em40 lq q
          by_cases hr : r = 0
          · subst hr
            have KM := keep_prom I.out.ok HBL.out.1 (by have := HBL.out.2; omega : bl ≤ 3000)
            obtain ⟨M, hM⟩ : ∃ M, M = prM m bl (bodies us) := ⟨_, rfl⟩
            obtain ⟨O, hO⟩ : ∃ O, O = prO m bl (bodies us) := ⟨_, rfl⟩
            have CP : Hid (Calls Try.prog 13 #[.agg #[.int .i64 m, .slice la K lc], .int .i64 bl] wr fun e w' => ∃ a c N, e = .returned (.tuple #[.agg #[.int .i64 M, .slice a K c], .bool O]) ∧ Hid (N.length = K ∧ bodies N = bodies us ∧ LV w' wr.heap.size w'.heap.size (.slice a K c) N) ∧ Below wr.heap.size wr w') := by
              obtain ⟨T, hT⟩ := I.out.own
              refine (promVI hT m bl (bodies us) rfl K (by rw [KM.1, bodies_len]; exact I.out.len)).mono ?_
              rintro e w' ⟨a, c, N, rfl, h1, h2, h3, h4⟩
              exact ⟨a, c, N, by rw [hM, hO], ⟨h1, by rw [h2, KM.1], h3⟩, h4⟩
            rw [← hM, ← hO] at KM
            clear hM hO em5 ls
            go_wp2_with fail
            refine Calls.mono CP.out ?_
            rintro e v5 ⟨ax, cx, N, rfl, HN, b5⟩
            have B5 : Hid (Below wr.heap.size wr v5) := b5
            clear b5 CP c0 d0 d1
            rcases Int.lt_trichotomy m bl with hlt | heq | hgt
            · obtain ⟨rfl, rfl, k3⟩ := KM.2.1 (by omega)
              have e1 : decide (m ≤ M) = true := by simp; omega
              have e2 : decide (m < M) = true := by simpa using hlt
              have I5 := I.out.keep B5.out
              obtain ⟨d0, d1⟩ := I5.blk.cells2
              have fr5 := I5.blk.frozen
              have SZ5 : P < v5.heap.size := I5.blk.lt
              have IN : Hid (KI w P M ax K cx N (((v5.setCell ⟨P, 0, none⟩ (.int .i64 M)).setCell ⟨P, 1, none⟩ (.slice ax K cx)).alloc (.cells #[.int .i64 M, .slice ax K cx] 25))) := (I.out.store B5.out SZ.out (Nat.le_of_eq HP.out) HN.out.1 HN.out.2.2 (by rw [HN.out.2.1]; exact k3) HBL.out.2).keep (below_new _ _)
              clear I5 KM HN
              go_wp2_with fail
              go_roundw
              case rel => exact ⟨k + 1, M, by omega, by omega, by go_num, rfl, ax, K, cx, N, IN.out⟩
              case measure => simp [intOf]; omega
            · obtain ⟨hM, rfl, k3⟩ := KM.2.1 (by omega)
              have HE : Hid (m = bl ∧ M = bl) := ⟨heq, hM⟩
              subst hM
              subst heq
              have I5 := I.out.keep B5.out
              obtain ⟨d0, d1⟩ := I5.blk.cells2
              have fr5 := I5.blk.frozen
              have SZ5 : P < v5.heap.size := I5.blk.lt
              have IN : Hid (KI w P m ax K cx N (((v5.setCell ⟨P, 0, none⟩ (.int .i64 m)).setCell ⟨P, 1, none⟩ (.slice ax K cx)).alloc (.cells #[.int .i64 m, .slice ax K cx] 25))) := (I.out.store B5.out SZ.out (Nat.le_of_eq HP.out) HN.out.1 HN.out.2.2 (by rw [HN.out.2.1]; exact k3) HBL.out.2).keep (below_new _ _)
              clear I5 KM HN
              go_wp2_with fail
              go_roundw
              case rel => exact ⟨k + 1, m, by omega, by omega, by go_num, rfl, ax, K, cx, N, IN.out⟩
              case measure => simp [intOf]; omega
            · obtain ⟨rfl, rfl⟩ := KM.2.2 (by omega)
              have e1 : decide (M ≤ bl) = false := by simp; omega
              have e2 : decide (M < bl) = false := by simp; omega
              have I5 := I.out.keep B5.out
              obtain ⟨d0, d1⟩ := I5.blk.cells2
              have fr5 := I5.blk.frozen
              have SZ5 : P < v5.heap.size := I5.blk.lt
              have IN : Hid (KI w P M ax K cx N (((v5.setCell ⟨P, 0, none⟩ (.int .i64 M)).setCell ⟨P, 1, none⟩ (.slice ax K cx)).alloc (.cells #[.int .i64 M, .slice ax K cx] 25))) := (I.out.store B5.out SZ.out (Nat.le_of_eq HP.out) HN.out.1 HN.out.2.2 (by rw [HN.out.2.1]; exact I.out.ok) I.out.hi).keep (below_new _ _)
              clear I5 KM HN
              go_wp2_with fail
              go_roundw
              case rel => exact ⟨k + 1, M, by omega, by omega, by go_num, rfl, ax, K, cx, N, IN.out⟩
              case measure => simp [intOf]; omega
          · have hr' : ((r : Int) == 0) = false := by simp; omega
            have KM := keep_vote (s := s) I.out.ok HBL.out.1 (by have := HBL.out.2; omega : bl ≤ 3000) (by omega)
            obtain ⟨M, hM⟩ : ∃ M, M = voM m bl s eN (bodies us) := ⟨_, rfl⟩
            obtain ⟨O, hO⟩ : ∃ O, O = voO m bl s eN (bodies us) := ⟨_, rfl⟩
            obtain ⟨C, hC⟩ : ∃ C, C = voB m bl s eN (bodies us) := ⟨_, rfl⟩
            obtain ⟨K', hK'⟩ : ∃ K', K' = C.length := ⟨_, rfl⟩
            have LK' : K' ≤ 40 := by rw [hK', hC]; exact voK _ _ _ _
            have CP : Hid (∀ W, Below wr.heap.size wr W → Calls Try.prog 11 #[.agg #[.int .i64 m, .slice la K lc], .int .i64 bl, .int .i64 s, .agg #[.bool true, .int .i64 0, .int .i64 0, .slice none 0 0, .slice none 0 0, .int .i64 0, .int .i64 0]] W fun e w' => ∃ a c N, e = .returned (.tuple #[.agg #[.int .i64 M, .slice a K' c], .bool O]) ∧ Hid (N.length = K' ∧ bodies N = C ∧ LV w' W.heap.size w'.heap.size (.slice a K' c) N) ∧ Below W.heap.size W w') := fun W hb => by
              obtain ⟨T, hT⟩ := I.out.own
              have h := voteVI (hT.keep hb) m bl s eN (a1 := none) (a2 := none) (c1 := 0) (c2 := 0) (.inl rfl) (.inl rfl) (Nat.le_refl _) (Nat.le_refl _) (Nat.zero_le _) (Nat.zero_le _) (bodies us) rfl K' (by rw [hK', hC])
              refine Calls.mono h ?_
              rintro e w' ⟨a, c, N, rfl, h1, h2, h3, h4⟩
              exact ⟨a, c, N, by rw [hM, hO], ⟨h1, by rw [h2, hC], h3⟩, h4⟩
            rw [← hM, ← hO, ← hC] at KM
            clear hM hO hC hK'
            have E5 : (IntKind.i64.wrap (z : Int)).tmod 5 = (s : Int) := by
              rw [wrap_ownK _ (by omega) (by omega), Int.tmod_eq_emod_of_nonneg (by omega)]
              exact em5
            go_upto_region 14 with fail
            clear em3 em5 hr' hr lr
            go_cut [11, 12] from 59 to 71 (fun x o wx => ∃ xb a c N, x = .pointer (some ⟨xb, 0, none⟩) ∧ o = .bool O ∧ Hid (wr.heap.size ≤ xb ∧ Blk wx xb #[.int .i64 M, .slice a K' c] 25 ∧ N.length = K' ∧ bodies N = C ∧ ∃ T, LV wx wr.heap.size T (.slice a K' c) N) ∧ Hid (Below wr.heap.size wr wx))
            case first =>
              refine wp_region_held_drew (S := (fun w' : World => w'.cell? ⟨P, 0, none⟩ = some (.int .i64 m) ∧ w'.cell? ⟨P, 1, none⟩ = some (.slice la K lc) ∧ w'.cell? ⟨gb, goff + k, none⟩ = some (.int .u8 z))) (by kernel_rfl) ⟨d0, d1, c0⟩ (fun hHeld => ?_)
              obtain ⟨V, hV⟩ : ∃ V, V = wr.drew := ⟨_, rfl⟩
              have BV : Hid (Below wr.heap.size wr V) := by show Below _ _ _; rw [hV]; exact (Below.refl _ _).drew
              have SV : Hid (∀ W, Below wr.heap.size wr W → W.cell? ⟨P, 0, none⟩ = some (.int .i64 m) ∧ W.cell? ⟨P, 1, none⟩ = some (.slice la K lc) ∧ W.cell? ⟨gb, goff + k, none⟩ = some (.int .u8 z)) := fun W hb => by
                obtain ⟨e0, e1⟩ := (I.out.keep hb).blk.cells2
                exact ⟨e0, e1, CZ.out W (I.out.keep hb).bel⟩
              rw [← hV] at hHeld ⊢
              clear hV
              refine wpAnyH_take (i := 0) (v := ?vk1) rfl (by kernel_rfl) (by kernel_rfl) (by kernel_rfl) (fun _ _ _ h => h) (Or.inl ⟨by rfl, ?yk1⟩) (by assumption) ?rk1
              case yk1 =>
                intro w' hSw
                try dsimp only at hSw
                go_simp
                try with_reducible rfl
              simp only [Act.put, List.getElem_toArray, List.getElem_cons_succ, List.getElem_cons_zero, List.setIfInBounds_toArray, List.set_cons_zero, List.set_cons_succ]
              refine wpAnyH_take (i := 1) (v := ?vk2) rfl (by kernel_rfl) (by kernel_rfl) (by kernel_rfl) (fun _ _ _ h => h) (Or.inl ⟨by rfl, ?yk2⟩) (by assumption) ?rk2
              case yk2 =>
                intro w' hSw
                try dsimp only at hSw
                go_simp
                try with_reducible rfl
              simp only [Act.put, List.getElem_toArray, List.getElem_cons_succ, List.getElem_cons_zero, List.setIfInBounds_toArray, List.set_cons_zero, List.set_cons_succ]
              refine wpAnyH_take (i := 2) (v := ?vk3) rfl (by kernel_rfl) (by kernel_rfl) (by kernel_rfl) (fun _ _ _ h => h) (Or.inl ⟨by rfl, ?yk3⟩) (by assumption) ?rk3
              case yk3 =>
                intro w' hSw
                try dsimp only at hSw
                go_simp
                try with_reducible rfl
              simp only [Act.put, List.getElem_toArray, List.getElem_cons_succ, List.getElem_cons_zero, List.setIfInBounds_toArray, List.set_cons_zero, List.set_cons_succ]
              refine wpAnyH_take (i := 3) (v := ?vk4) rfl (by kernel_rfl) (by kernel_rfl) (by kernel_rfl) (fun _ _ _ h => h) (Or.inl ⟨by rfl, ?yk4⟩) (by assumption) ?rk4
              case yk4 =>
                intro w' hSw
                try dsimp only at hSw
                go_simp
                try with_reducible rfl
              simp only [Act.put, List.getElem_toArray, List.getElem_cons_succ, List.getElem_cons_zero, List.setIfInBounds_toArray, List.set_cons_zero, List.set_cons_succ]
              refine wpAnyH_take (i := 4) (v := ?vk5) rfl (by kernel_rfl) (by kernel_rfl) (by kernel_rfl) (fun _ _ _ h => h) (Or.inl ⟨by rfl, ?yk5⟩) (by assumption) ?rk5
              case yk5 =>
                intro w' hSw
                try dsimp only at hSw
                go_simp
                try with_reducible rfl
              simp only [Act.put, List.getElem_toArray, List.getElem_cons_succ, List.getElem_cons_zero, List.setIfInBounds_toArray, List.set_cons_zero, List.set_cons_succ]
              refine wpAnyH_take (i := 5) (v := ?vk6) rfl (by kernel_rfl) (by kernel_rfl) (by kernel_rfl) (fun _ _ _ h => h) (Or.inl ⟨by rfl, ?yk6⟩) (by assumption) ?rk6
              case yk6 =>
                intro w' hSw
                try dsimp only at hSw
                go_simp
                try with_reducible rfl
              simp only [Act.put, List.getElem_toArray, List.getElem_cons_succ, List.getElem_cons_zero, List.setIfInBounds_toArray, List.set_cons_zero, List.set_cons_succ]
              refine wpAnyH_take (i := 6) (v := ?vk7) rfl (by kernel_rfl) (by kernel_rfl) (by kernel_rfl) (fun _ _ _ h => h) (Or.inl ⟨by rfl, ?yk7⟩) (by assumption) ?rk7
              case yk7 =>
                intro w' hSw
                try dsimp only at hSw
                go_simp
                try with_reducible rfl
              simp only [Act.put, List.getElem_toArray, List.getElem_cons_succ, List.getElem_cons_zero, List.setIfInBounds_toArray, List.set_cons_zero, List.set_cons_succ]
              refine wpAnyH_take (i := 7) (v := ?vk8) rfl (by kernel_rfl) (by kernel_rfl) (by kernel_rfl) (fun _ _ _ h => h) (Or.inl ⟨by rfl, ?yk8⟩) (by assumption) ?rk8
              case yk8 =>
                intro w' hSw
                try dsimp only at hSw
                go_simp
                try with_reducible rfl
              simp only [Act.put, List.getElem_toArray, List.getElem_cons_succ, List.getElem_cons_zero, List.setIfInBounds_toArray, List.set_cons_zero, List.set_cons_succ]
              refine wpAnyH_take (i := 8) (v := ?vk9) rfl (by kernel_rfl) (by kernel_rfl) (by kernel_rfl) (fun _ _ _ h => h) (Or.inl ⟨by rfl, ?yk9⟩) (by assumption) ?rk9
              case yk9 =>
                intro w' hSw
                try dsimp only at hSw
                go_simp
                try with_reducible rfl
              simp only [Act.put, List.getElem_toArray, List.getElem_cons_succ, List.getElem_cons_zero, List.setIfInBounds_toArray, List.set_cons_zero, List.set_cons_succ]
              refine wpAnyH_ready (rs := [9, 13]) (by kernel_rfl) (by simp) ?_
              refine AllReadyH.cons rfl (fun K hK => ?_) (AllReadyH.cons rfl (fun K hK => ?_) AllReadyH.nil)
              · go_simp
                try rw [E5]
                refine Calls.mono (CP.out V BV.out) ?_
                rintro e v5 ⟨ax, cx, N, rfl, HN, b5⟩
                have B5 : Hid (Below wr.heap.size wr v5) := BV.out.trans (b5.mono BV.out.size)
                refine hK.out _ _ (SV.out v5 B5.out) (fun hH => ?_)
                clear hK K
                have O5 : Hid (LV v5 V.heap.size v5.heap.size (.slice ax K' cx) N) := HN.out.2.2
                have X5 : Hid (Blk (v5.alloc (.cells #[.int .i64 0, .slice none 0 0] 25)) v5.heap.size #[.int .i64 0, .slice none 0 0] 25) := Blk.new _ _ _
                have Z5 : Hid (wr.heap.size ≤ v5.heap.size) := B5.out.size
                refine wpAnyH_take (i := 10) (v := ?vk14) rfl (by kernel_rfl) (by kernel_rfl) (by kernel_rfl) (fun _ _ _ h => h) (Or.inl ⟨by rfl, ?yk14⟩) (by assumption) ?rk14
                case yk14 =>
                  intro w' hSw
                  try dsimp only at hSw
                  go_simp
                  try with_reducible rfl
                simp only [Act.put, List.getElem_toArray, List.getElem_cons_succ, List.getElem_cons_zero, List.setIfInBounds_toArray, List.set_cons_zero, List.set_cons_succ]
                refine wpAnyH_take (i := 11) (v := ?vk15) rfl (by kernel_rfl) (by kernel_rfl) (by kernel_rfl) (fun _ _ _ h => h) (Or.inl ⟨by rfl, ?yk15⟩) (by assumption) ?rk15
                case yk15 =>
                  intro w' hSw
                  try dsimp only at hSw
                  go_simp
                  try with_reducible rfl
                simp only [Act.put, List.getElem_toArray, List.getElem_cons_succ, List.getElem_cons_zero, List.setIfInBounds_toArray, List.set_cons_zero, List.set_cons_succ]
                refine wpAnyH_take (i := 12) (v := ?vk16) rfl (by kernel_rfl) (by kernel_rfl) (by kernel_rfl) (fun _ _ _ h => h) (Or.inl ⟨by rfl, ?yk16⟩) (by assumption) ?rk16
                case yk16 =>
                  intro w' hSw
                  try dsimp only at hSw
                  go_simp
                  try with_reducible rfl
                simp only [Act.put, List.getElem_toArray, List.getElem_cons_succ, List.getElem_cons_zero, List.setIfInBounds_toArray, List.set_cons_zero, List.set_cons_succ]
                refine wpAnyH_ready (rs := [13]) (by kernel_rfl) (by simp) ?_
                refine AllReadyH.cons rfl (fun K hK => ?_) AllReadyH.nil
                go_simp
                refine hK.out _ _ (SV.out _ (B5.out.alloc Z5.out _)) (fun hH => ?_)
                clear hK K
                obtain ⟨V1, hV1⟩ : ∃ V1, V1 = v5.alloc (.cells #[.int .i64 0, .slice none 0 0] 25) := ⟨_, rfl⟩
                rw [← hV1] at X5 hH ⊢
                have B6 : Hid (Below wr.heap.size wr V1) := by show Below _ _ _; rw [hV1]; exact B5.out.alloc Z5.out _
                have O6 : Hid (LV V1 V.heap.size v5.heap.size (.slice ax K' cx) N) := by show LV _ _ _ _ _; rw [hV1]; exact O5.out.keep (below_new _ _)
                clear hV1
                obtain ⟨x0, x1⟩ := X5.out.cells2
                have fr5 := X5.out.frozen
                have HX : Hid (wr.heap.size ≤ v5.heap.size ∧ Blk ((V1.setCell ⟨v5.heap.size, 0, none⟩ (.int .i64 M)).setCell ⟨v5.heap.size, 1, none⟩ (.slice ax K' cx)) v5.heap.size #[.int .i64 M, .slice ax K' cx] 25 ∧ N.length = K' ∧ bodies N = C ∧ ∃ T, LV ((V1.setCell ⟨v5.heap.size, 0, none⟩ (.int .i64 M)).setCell ⟨v5.heap.size, 1, none⟩ (.slice ax K' cx)) wr.heap.size T (.slice ax K' cx) N) :=
                  ⟨Z5.out, ((X5.out.set 0 _).set 1 _).eq (by simp), HN.out.1, HN.out.2.1, _, ((O6.out.setHigh (p := ⟨v5.heap.size, 0, none⟩) (Nat.le_refl _) _).setHigh (p := ⟨v5.heap.size, 1, none⟩) (Nat.le_refl _) _).weaken BV.out.size⟩
                have BX : Hid (Below wr.heap.size wr ((V1.setCell ⟨v5.heap.size, 0, none⟩ (.int .i64 M)).setCell ⟨v5.heap.size, 1, none⟩ (.slice ax K' cx))) := (B6.out.setCell Z5.out _).setCell Z5.out _
                clear HN X5 B5 b5 O5 O6
                refine wpAnyH_ready (rs := [14]) (by kernel_rfl) (by simp) ?_
                refine AllReadyH.cons rfl (fun K hK => ?_) AllReadyH.nil
                go_simp
                refine hK.out _ _ (SV.out _ BX.out) (fun hH => ?_)
                clear hK K x0 x1
                refine wpAnyH_take (i := 15) (v := ?vk17) rfl (by kernel_rfl) (by kernel_rfl) (by kernel_rfl) (fun _ _ _ h => h) (Or.inl ⟨by rfl, ?yk17⟩) (by assumption) ?rk17
                case yk17 =>
                  intro w' hSw
                  try dsimp only at hSw
                  go_simp
                  try with_reducible rfl
                simp only [Act.put, List.getElem_toArray, List.getElem_cons_succ, List.getElem_cons_zero, List.setIfInBounds_toArray, List.set_cons_zero, List.set_cons_succ]
                refine wpAnyH_done (by kernel_rfl) ?_ _
                go_wp2_with fail
                go_meet
                exact ⟨_, ax, cx, N, rfl, rfl, HX.out, BX.out⟩
              · go_simp
                refine hK.out _ _ (SV.out _ (BV.out.alloc BV.out.size _)) (fun hH => ?_)
                clear hK K
                obtain ⟨V1, hV1⟩ : ∃ V1, V1 = V.alloc (.cells #[.int .i64 0, .slice none 0 0] 25) := ⟨_, rfl⟩
                have B1 : Hid (Below wr.heap.size wr V1) := by show Below _ _ _; rw [hV1]; exact BV.out.alloc BV.out.size _
                have X1 : Hid (Blk V1 V.heap.size #[.int .i64 0, .slice none 0 0] 25) := by show Blk _ _ _ _; rw [hV1]; exact Blk.new _ _ _
                have Z1 : Hid (V.heap.size < V1.heap.size) := X1.out.lt
                rw [← hV1] at hH ⊢
                clear hV1
                refine wpAnyH_ready (rs := [9]) (by kernel_rfl) (by simp) ?_
                refine AllReadyH.cons rfl (fun K hK => ?_) AllReadyH.nil
                go_simp
                try rw [E5]
                refine Calls.mono (CP.out V1 B1.out) ?_
                rintro e v5 ⟨ax, cx, N, rfl, HN, b5⟩
                have B5 : Hid (Below wr.heap.size wr v5) := B1.out.trans (b5.mono B1.out.size)
                refine hK.out _ _ (SV.out v5 B5.out) (fun hH => ?_)
                clear hK K
                have X5 : Hid (Blk v5 V.heap.size #[.int .i64 0, .slice none 0 0] 25) := X1.out.keep b5
                obtain ⟨x0, x1⟩ := X5.out.cells2
                have fr5 := X5.out.frozen
                refine wpAnyH_take (i := 10) (v := ?vk10) rfl (by kernel_rfl) (by kernel_rfl) (by kernel_rfl) (fun _ _ _ h => h) (Or.inl ⟨by rfl, ?yk10⟩) (by assumption) ?rk10
                case yk10 =>
                  intro w' hSw
                  try dsimp only at hSw
                  go_simp
                  try with_reducible rfl
                simp only [Act.put, List.getElem_toArray, List.getElem_cons_succ, List.getElem_cons_zero, List.setIfInBounds_toArray, List.set_cons_zero, List.set_cons_succ]
                refine wpAnyH_take (i := 11) (v := ?vk11) rfl (by kernel_rfl) (by kernel_rfl) (by kernel_rfl) (fun _ _ _ h => h) (Or.inl ⟨by rfl, ?yk11⟩) (by assumption) ?rk11
                case yk11 =>
                  intro w' hSw
                  try dsimp only at hSw
                  go_simp
                  try with_reducible rfl
                simp only [Act.put, List.getElem_toArray, List.getElem_cons_succ, List.getElem_cons_zero, List.setIfInBounds_toArray, List.set_cons_zero, List.set_cons_succ]
                refine wpAnyH_take (i := 12) (v := ?vk12) rfl (by kernel_rfl) (by kernel_rfl) (by kernel_rfl) (fun _ _ _ h => h) (Or.inl ⟨by rfl, ?yk12⟩) (by assumption) ?rk12
                case yk12 =>
                  intro w' hSw
                  try dsimp only at hSw
                  go_simp
                  try with_reducible rfl
                simp only [Act.put, List.getElem_toArray, List.getElem_cons_succ, List.getElem_cons_zero, List.setIfInBounds_toArray, List.set_cons_zero, List.set_cons_succ]
                have HX : Hid (wr.heap.size ≤ V.heap.size ∧ Blk ((v5.setCell ⟨V.heap.size, 0, none⟩ (.int .i64 M)).setCell ⟨V.heap.size, 1, none⟩ (.slice ax K' cx)) V.heap.size #[.int .i64 M, .slice ax K' cx] 25 ∧ N.length = K' ∧ bodies N = C ∧ ∃ T, LV ((v5.setCell ⟨V.heap.size, 0, none⟩ (.int .i64 M)).setCell ⟨V.heap.size, 1, none⟩ (.slice ax K' cx)) wr.heap.size T (.slice ax K' cx) N) :=
                  ⟨BV.out.size, ((X5.out.set 0 _).set 1 _).eq (by simp), HN.out.1, HN.out.2.1, _, ((HN.out.2.2.setLow (p := ⟨V.heap.size, 0, none⟩) Z1.out _).setLow (p := ⟨V.heap.size, 1, none⟩) Z1.out _).weaken B1.out.size⟩
                have BX : Hid (Below wr.heap.size wr ((v5.setCell ⟨V.heap.size, 0, none⟩ (.int .i64 M)).setCell ⟨V.heap.size, 1, none⟩ (.slice ax K' cx))) := (B5.out.setCell BV.out.size _).setCell BV.out.size _
                clear HN X5 B5 b5
                refine wpAnyH_ready (rs := [14]) (by kernel_rfl) (by simp) ?_
                refine AllReadyH.cons rfl (fun K hK => ?_) AllReadyH.nil
                go_simp
                refine hK.out _ _ (SV.out _ BX.out) (fun hH => ?_)
                clear hK K x0 x1
                refine wpAnyH_take (i := 15) (v := ?vk13) rfl (by kernel_rfl) (by kernel_rfl) (by kernel_rfl) (fun _ _ _ h => h) (Or.inl ⟨by rfl, ?yk13⟩) (by assumption) ?rk13
                case yk13 =>
                  intro w' hSw
                  try dsimp only at hSw
                  go_simp
                  try with_reducible rfl
                simp only [Act.put, List.getElem_toArray, List.getElem_cons_succ, List.getElem_cons_zero, List.setIfInBounds_toArray, List.set_cons_zero, List.set_cons_succ]
                refine wpAnyH_done (by kernel_rfl) ?_ _
                go_wp2_with fail
                go_meet
                exact ⟨_, ax, cx, N, rfl, rfl, HX.out, BX.out⟩
            case rest =>
              obtain ⟨xb, ax, cx, N, rfl, rfl, HX, HW⟩ := hcut
              rename World => v6
              obtain ⟨x0, x1⟩ := HX.out.2.1.cells2
              obtain ⟨d0, d1⟩ := (I.out.keep HW.out).blk.cells2
              have fr := (I.out.keep HW.out).blk.frozen
              rcases Int.lt_trichotomy m bl with hlt | heq | hgt
              · obtain ⟨rfl, rfl, rfl, k3⟩ := KM.1 (by omega)
                have e1 : decide (m ≤ M) = true := by simp; omega
                have e2 : decide (m < M) = true := by simpa using hlt
                have IN : Hid (KI w P M ax K' cx N ((v6.setCell ⟨P, 0, none⟩ (.int .i64 M)).setCell ⟨P, 1, none⟩ (.slice ax K' cx))) := by
                  obtain ⟨T, hT⟩ := HX.out.2.2.2.2
                  exact I.out.store HW.out SZ.out (Nat.le_of_eq HP.out) HX.out.2.2.1 hT (by rw [HX.out.2.2.2.1]; exact k3) HBL.out.2
                clear KM HX CP
                go_wp2_with fail
                go_roundw
                case rel => exact ⟨k + 1, M, by omega, by omega, by go_num, rfl, ax, K', cx, N, IN.out⟩
                case measure => simp [intOf]; omega
              · obtain ⟨hM, rfl, rfl, k3⟩ := KM.1 (by omega)
                subst hM
                subst heq
                have IN : Hid (KI w P m ax K' cx N ((v6.setCell ⟨P, 0, none⟩ (.int .i64 m)).setCell ⟨P, 1, none⟩ (.slice ax K' cx))) := by
                  obtain ⟨T, hT⟩ := HX.out.2.2.2.2
                  exact I.out.store HW.out SZ.out (Nat.le_of_eq HP.out) HX.out.2.2.1 hT (by rw [HX.out.2.2.2.1]; exact k3) HBL.out.2
                clear KM HX CP
                go_wp2_with fail
                go_roundw
                case rel => exact ⟨k + 1, m, by omega, by omega, by go_num, rfl, ax, K', cx, N, IN.out⟩
                case measure => simp [intOf]; omega
              · obtain ⟨rfl, rfl, rfl⟩ := KM.2 (by omega)
                have e1 : decide (M ≤ bl) = false := by simp; omega
                have e2 : decide (M < bl) = false := by simp; omega
                have IN : Hid (KI w P M ax K' cx N ((v6.setCell ⟨P, 0, none⟩ (.int .i64 M)).setCell ⟨P, 1, none⟩ (.slice ax K' cx))) := by
                  obtain ⟨T, hT⟩ := HX.out.2.2.2.2
                  exact I.out.store HW.out SZ.out (Nat.le_of_eq HP.out) HX.out.2.2.1 hT (by rw [HX.out.2.2.2.1]; exact I.out.ok) I.out.hi
                clear KM HX CP
                go_wp2_with fail
                go_roundw
                case rel => exact ⟨k + 1, M, by omega, by omega, by go_num, rfl, ax, K', cx, N, IN.out⟩
                case measure => simp [intOf]; omega
        · have hex : (k : Int) < (n' : Int) → decide ((k : Int) < 30) = false := fun h => by simp; omega
          have LK : K ≤ 40 := by obtain ⟨T, hT⟩ := I.out.own; have := hT.len; have := I.out.len; omega
          obtain ⟨d0, d1⟩ := I.out.blk.cells2
          clear d0 d1
          by_cases hk : k < n'
          · have hki : (k : Int) < (n' : Int) := by omega
            have hki2 : decide ((k : Int) < 30) = false := by simp; omega
            go_wp2_with fail
            go_loopw [13] (fun i wq => ∃ j : Nat, j ≤ K ∧ i = .int .i64 j ∧ Hid (Below wr.heap.size wr wq)) (fun i _ => K - (intOf i).toNat)
            case atStart => exact ⟨0, Nat.zero_le _, rfl, Below.refl _ _⟩
            case round =>
              rename World => wq
              obtain ⟨j, hj, rfl, KQ⟩ := hrel
              have J : Hid (KI w P m la K lc us wq) := I.out.keep KQ.out
              clear hex hki hki2
              by_cases hlt : j < K
              · have hji : (j : Int) < (K : Int) := by omega
                obtain ⟨T, hT⟩ := J.out.own
                obtain ⟨g, rfl, ⟨e0, _⟩, _⟩ := hT.vc J.out.len hlt
                have hbal : (us.getD j v0).bal ≤ m := by
                  obtain ⟨q0, q1, _⟩ := accOk_iff J.out.ok
                  have := ((accOk_up q0 q1).1 J.out.ok).2 j
                  rw [(bal_at (rfl : bodies us = bodies us) j).1]
                  exact this
                clear hT
                obtain ⟨x, hx⟩ : ∃ x, x = (us.getD j v0).bal := ⟨_, rfl⟩
                rw [← hx] at e0 hbal
                clear hx
                have hdx : decide (m < x) = false := decide_eq_false (by omega)
                obtain ⟨d0, d1⟩ := J.out.blk.cells2
                go_upto_region 23 with fail
                go_quiet (fail)
                go_wp2_with fail
                go_roundw
                case rel => exact ⟨j + 1, by omega, by go_num, KQ.out.trans (below_drewN (Below.refl _ _) _)⟩
                case measure => simp [intOf]; omega
              · have hji : ¬ (j : Int) < (K : Int) := by omega
                obtain ⟨d0, d1⟩ := J.out.blk.cells2
                go_wp2_with fail
                refine (drawAccOk a n c wq (HB.out.belowA J.out.bel) hc HM.out).mono ?_
                rintro e v2 ⟨mo, lo, lco, os, rfl, ho, _, _, hb⟩
                obtain ⟨V, hV⟩ : ∃ V, V = v2.alloc (.cells #[.int .i64 mo, .slice lo os.length lco] 25) := ⟨_, rfl⟩
                have EV : Hid (V = v2.alloc (.cells #[.int .i64 mo, .slice lo os.length lco] 25)) := hV
                have KV : Below v2.heap.size v2 V := by rw [hV]; exact below_new _ _
                have OV : Hid (LV V wq.heap.size v2.heap.size (.slice lo os.length lco) os) := ho.keep KV
                have CV : Hid (Blk V v2.heap.size #[.int .i64 mo, .slice lo os.length lco] 25) := by show Blk _ _ _ _; rw [hV]; exact Blk.new _ _ _
                have IV : Hid (KI w P m la K lc us V) := J.out.keep (hb.trans (KV.mono hb.size))
                clear hV KV ho hb d0 d1 J I
                go_upto_region 26 with fail
                rw [← EV.out]
                clear EV
                have Q1 : Hid (∀ d os', Calls Try.prog 16 #[.agg #[.int .i64 m, .slice la K lc]] (grow (redrawn V d) os') fun e w'' => e = .returned (.bool true) ∧ ∃ p : Regrown, w'' = grow (redrawn V p.d) p.os) := fun d os' => by
                  have hb := below_regrown V d os'
                  obtain ⟨T, hT⟩ := IV.out.own
                  obtain ⟨a0, c0, e0, hs⟩ := (hT.keep hb).own.form
                  have e1 : la = a0 := by injection e0
                  subst e1
                  have h := implAccOk m la lc us _ hs (by have := hT.len; omega) hT.vls
                  rw [IV.out.len, IV.out.ok] at h
                  exact Calls.regrown_of h
                have AO : Hid (∀ W, Below V.heap.size V W → SlV W lo os) := fun W hb => by
                  obtain ⟨a0, c0, e0, hs⟩ := (OV.out.keep hb).own.form
                  have e1 : lo = a0 := by injection e0
                  subst e1
                  exact hs
                have Q2 : Hid (∀ d os', Calls Try.prog 16 #[.agg #[.int .i64 mo, .slice lo os.length lco]] (grow (redrawn V d) os') fun e w'' => e = .returned (.bool (accOk mo (bodies os))) ∧ ∃ p : Regrown, w'' = grow (redrawn V p.d) p.os) := fun d os' =>
                  Calls.regrown_of (implAccOk mo lo lco os _ (AO.out _ (below_regrown V d os')) (by have := OV.out.len; omega) OV.out.vls)
                have Q3 : Hid (∀ d os', Calls Try.prog 17 #[.agg #[.int .i64 mo, .slice lo os.length lco]] (grow (redrawn V d) os') fun e w'' => e = .returned (.bool (accOk mo (bodies os))) ∧ ∃ p : Regrown, w'' = grow (redrawn V p.d) p.os) := fun d os' =>
                  Calls.regrown_of (specAccOk mo lo lco os _ (AO.out _ (below_regrown V d os')) (by have := OV.out.len; omega) OV.out.vls)
                have Q4 : Hid (∀ d os', Calls Try.prog 15 #[.agg #[.int .i64 mo, .slice lo os.length lco], .agg #[.int .i64 mo, .slice lo os.length lco]] (grow (redrawn V d) os') fun e w'' => e = .returned (.bool true) ∧ ∃ p : Regrown, w'' = grow (redrawn V p.d) p.os) := fun d os' => by
                  have h := implAccSame mo mo lo lo lco lco os os _ (AO.out _ (below_regrown V d os')) (AO.out _ (below_regrown V d os')) (by have := OV.out.len; omega) (by have := OV.out.len; omega) OV.out.vls OV.out.vls
                  rw [sameVs_self, beq_self_eq_true] at h
                  exact Calls.regrown_of h
                generalize accOk mo (bodies os) = B at Q2 Q3
                have es : (B == B) = true := by simp
                obtain ⟨d0, d1⟩ := IV.out.blk.cells2
                obtain ⟨f0, f1⟩ := CV.out.cells2
                have m0 := cell_regrown d0
                have m1 := cell_regrown d1
                have n0 := cell_regrown f0
                have n1 := cell_regrown f1
                clear d0 d1 f0 f1
                refine wp_region_quiet_below (by kernel_rfl) (by kernel_rfl) ?_
                repeat (go_big_quiet_step (first | (go_at_call_of 16 (#[Value.agg #[Value.int .i64 m, Value.slice la K lc]]); exact Q1.out _ _) | (go_at_call_of 16 (#[Value.agg #[Value.int .i64 mo, Value.slice lo os.length lco]]); exact Q2.out _ _) | (go_at_call 17; exact Q3.out _ _) | (go_at_call 15; exact Q4.out _ _)))
                refine wpQuiet_nil ?_
                intro Y hw'
                obtain ⟨⟨dq, osq⟩, hw''⟩ := hw'
                have hx : Below V.heap.size V Y := by rw [hw'']; exact below_regrown V dq osq
                have BY : Hid (Below w.heap.size w Y) := IV.out.bel.trans (hx.mono IV.out.bel.size)
                clear hx hw'' m0 m1 n0 n1 Q1 Q2 Q3 Q4
                go_wp2_with fail
                go_ret
                exact ⟨rfl, BY.out⟩
          · have hki : ¬ (k : Int) < (n' : Int) := by omega
            go_wp2_with fail
            go_loopw [13] (fun i wq => ∃ j : Nat, j ≤ K ∧ i = .int .i64 j ∧ Hid (Below wr.heap.size wr wq)) (fun i _ => K - (intOf i).toNat)
            case atStart => exact ⟨0, Nat.zero_le _, rfl, Below.refl _ _⟩
            case round =>
              rename World => wq
              obtain ⟨j, hj, rfl, KQ⟩ := hrel
              have J : Hid (KI w P m la K lc us wq) := I.out.keep KQ.out
              clear hex hki
              by_cases hlt : j < K
              · have hji : (j : Int) < (K : Int) := by omega
                obtain ⟨T, hT⟩ := J.out.own
                obtain ⟨g, rfl, ⟨e0, _⟩, _⟩ := hT.vc J.out.len hlt
                have hbal : (us.getD j v0).bal ≤ m := by
                  obtain ⟨q0, q1, _⟩ := accOk_iff J.out.ok
                  have := ((accOk_up q0 q1).1 J.out.ok).2 j
                  rw [(bal_at (rfl : bodies us = bodies us) j).1]
                  exact this
                clear hT
                obtain ⟨x, hx⟩ : ∃ x, x = (us.getD j v0).bal := ⟨_, rfl⟩
                rw [← hx] at e0 hbal
                clear hx
                have hdx : decide (m < x) = false := decide_eq_false (by omega)
                obtain ⟨d0, d1⟩ := J.out.blk.cells2
                go_upto_region 23 with fail
                go_quiet (fail)
                go_wp2_with fail
                go_roundw
                case rel => exact ⟨j + 1, by omega, by go_num, KQ.out.trans (below_drewN (Below.refl _ _) _)⟩
                case measure => simp [intOf]; omega
              · have hji : ¬ (j : Int) < (K : Int) := by omega
                obtain ⟨d0, d1⟩ := J.out.blk.cells2
                go_wp2_with fail
                refine (drawAccOk a n c wq (HB.out.belowA J.out.bel) hc HM.out).mono ?_
                rintro e v2 ⟨mo, lo, lco, os, rfl, ho, _, _, hb⟩
                obtain ⟨V, hV⟩ : ∃ V, V = v2.alloc (.cells #[.int .i64 mo, .slice lo os.length lco] 25) := ⟨_, rfl⟩
                have EV : Hid (V = v2.alloc (.cells #[.int .i64 mo, .slice lo os.length lco] 25)) := hV
                have KV : Below v2.heap.size v2 V := by rw [hV]; exact below_new _ _
                have OV : Hid (LV V wq.heap.size v2.heap.size (.slice lo os.length lco) os) := ho.keep KV
                have CV : Hid (Blk V v2.heap.size #[.int .i64 mo, .slice lo os.length lco] 25) := by show Blk _ _ _ _; rw [hV]; exact Blk.new _ _ _
                have IV : Hid (KI w P m la K lc us V) := J.out.keep (hb.trans (KV.mono hb.size))
                clear hV KV ho hb d0 d1 J I
                go_upto_region 26 with fail
                rw [← EV.out]
                clear EV
                have Q1 : Hid (∀ d os', Calls Try.prog 16 #[.agg #[.int .i64 m, .slice la K lc]] (grow (redrawn V d) os') fun e w'' => e = .returned (.bool true) ∧ ∃ p : Regrown, w'' = grow (redrawn V p.d) p.os) := fun d os' => by
                  have hb := below_regrown V d os'
                  obtain ⟨T, hT⟩ := IV.out.own
                  obtain ⟨a0, c0, e0, hs⟩ := (hT.keep hb).own.form
                  have e1 : la = a0 := by injection e0
                  subst e1
                  have h := implAccOk m la lc us _ hs (by have := hT.len; omega) hT.vls
                  rw [IV.out.len, IV.out.ok] at h
                  exact Calls.regrown_of h
                have AO : Hid (∀ W, Below V.heap.size V W → SlV W lo os) := fun W hb => by
                  obtain ⟨a0, c0, e0, hs⟩ := (OV.out.keep hb).own.form
                  have e1 : lo = a0 := by injection e0
                  subst e1
                  exact hs
                have Q2 : Hid (∀ d os', Calls Try.prog 16 #[.agg #[.int .i64 mo, .slice lo os.length lco]] (grow (redrawn V d) os') fun e w'' => e = .returned (.bool (accOk mo (bodies os))) ∧ ∃ p : Regrown, w'' = grow (redrawn V p.d) p.os) := fun d os' =>
                  Calls.regrown_of (implAccOk mo lo lco os _ (AO.out _ (below_regrown V d os')) (by have := OV.out.len; omega) OV.out.vls)
                have Q3 : Hid (∀ d os', Calls Try.prog 17 #[.agg #[.int .i64 mo, .slice lo os.length lco]] (grow (redrawn V d) os') fun e w'' => e = .returned (.bool (accOk mo (bodies os))) ∧ ∃ p : Regrown, w'' = grow (redrawn V p.d) p.os) := fun d os' =>
                  Calls.regrown_of (specAccOk mo lo lco os _ (AO.out _ (below_regrown V d os')) (by have := OV.out.len; omega) OV.out.vls)
                have Q4 : Hid (∀ d os', Calls Try.prog 15 #[.agg #[.int .i64 mo, .slice lo os.length lco], .agg #[.int .i64 mo, .slice lo os.length lco]] (grow (redrawn V d) os') fun e w'' => e = .returned (.bool true) ∧ ∃ p : Regrown, w'' = grow (redrawn V p.d) p.os) := fun d os' => by
                  have h := implAccSame mo mo lo lo lco lco os os _ (AO.out _ (below_regrown V d os')) (AO.out _ (below_regrown V d os')) (by have := OV.out.len; omega) (by have := OV.out.len; omega) OV.out.vls OV.out.vls
                  rw [sameVs_self, beq_self_eq_true] at h
                  exact Calls.regrown_of h
                generalize accOk mo (bodies os) = B at Q2 Q3
                have es : (B == B) = true := by simp
                obtain ⟨d0, d1⟩ := IV.out.blk.cells2
                obtain ⟨f0, f1⟩ := CV.out.cells2
                have m0 := cell_regrown d0
                have m1 := cell_regrown d1
                have n0 := cell_regrown f0
                have n1 := cell_regrown f1
                clear d0 d1 f0 f1
                refine wp_region_quiet_below (by kernel_rfl) (by kernel_rfl) ?_
                repeat (go_big_quiet_step (first | (go_at_call_of 16 (#[Value.agg #[Value.int .i64 m, Value.slice la K lc]]); exact Q1.out _ _) | (go_at_call_of 16 (#[Value.agg #[Value.int .i64 mo, Value.slice lo os.length lco]]); exact Q2.out _ _) | (go_at_call 17; exact Q3.out _ _) | (go_at_call 15; exact Q4.out _ _)))
                refine wpQuiet_nil ?_
                intro Y hw'
                obtain ⟨⟨dq, osq⟩, hw''⟩ := hw'
                have hx : Below V.heap.size V Y := by rw [hw'']; exact below_regrown V dq osq
                have BY : Hid (Below w.heap.size w Y) := IV.out.bel.trans (hx.mono IV.out.bel.size)
                clear hx hw'' m0 m1 n0 n1 Q1 Q2 Q3 Q4
                go_wp2_with fail
                go_ret
                exact ⟨rfl, BY.out⟩
    · have hd2 : decide ((1048576 : Int) < (n' : Int)) = true := by simp; omega
      go_enter Try.func6, Try.ntmps6
      go_wp2_with fail
      go_ret
      exact ⟨rfl, Below.refl _ _⟩
  · have hd : decide ((1048576 : Int) < (n : Int)) = true := by simp; omega
    go_enter Try.func6, Try.ntmps6
    go_wp2_with fail
    go_ret
    exact ⟨rfl, Below.refl _ _⟩
end Go.Proofs.Ytfifiobcmdmefaa.Own
