/-
  Own texts, bundled: DrawAccBest, TwoMath, BestV, AccOkI, BidI, OwnC, PromS, PromI, VoteFit, PromR, VoteMath.
-/
import Derived.Test.YtfifiobcmdmefaaPk10
import Derived.Test.YtfifiobcmdmefaaPk8
import Derived.BigQuiet
import Derived.Test.YtfifiobcmdmefaaPk9
import Derived.Test.YtfifiobcmdmefaaPk7
import Derived.Deep.Cut
import Derived.Test.YtfifiobcmdmefaaPk6
namespace Go.Proofs.Ytfifiobcmdmefaa.Own
open Go.RowKit
set_option linter.unusedVariables false
set_option linter.unusedSimpArgs false

/-- A list of votes of one's own, short and fit. -/
structure LV (w : World) (B T : Nat) (v : Value) (L : List VM) : Prop where
  own : OwnR w B T v L
  cap : CapL L
  short : Short 4 (bodies L)
  len : L.length ≤ 40
theorem LV.keep {w w' : World} {B T : Nat} {v : Value} {L : List VM} (h : LV w B T v L) (hb : Below w.heap.size w w') : LV w' B T v L := ⟨h.own.keep hb, h.cap, h.short, h.len⟩
theorem LV.weaken {w : World} {B B' T : Nat} {v : Value} {L : List VM} (h : LV w B T v L) (hB : B' ≤ B) : LV w B' T v L := ⟨h.own.weaken hB, h.cap, h.short, h.len⟩
theorem LV.vls {w : World} {B T : Nat} {v : Value} {L : List VM} (h : LV w B T v L) : VLs L := fun i hi => by
  have := h.short.vm i hi
  have := h.cap i hi
  exact ⟨by omega, by omega, by omega, by omega⟩
/-- Two lists of votes, each of one's own. -/
def BestD (w : World) (e : Ending) (w' : World) : Prop := ∃ la lc us lb ld vs, e = .returned (.tuple #[.slice la (List.length (α := VM) us) lc, .slice lb (List.length (α := VM) vs) ld]) ∧
  LV w' w.heap.size w'.heap.size (.slice la us.length lc) us ∧ LV w' w.heap.size w'.heap.size (.slice lb vs.length ld) vs ∧ Below w.heap.size w w'

theorem LV.raise {w : World} {B T T' : Nat} {v : Value} {L : List VM} (h : LV w B T v L) (hT : T ≤ T') (hw : T' ≤ w.heap.size) : LV w B T' v L := ⟨h.own.raise hT hw, h.cap, h.short, h.len⟩
theorem BestD.keep {w w1 w2 : World} {e : Ending} (h : BestD w e w1) (hb : Below w1.heap.size w1 w2) : BestD w e w2 := by
  obtain ⟨la, lc, us, lb, ld, vs, he, h1, h2, h3⟩ := h
  exact ⟨la, lc, us, lb, ld, vs, he, (h1.keep hb).raise hb.size (Nat.le_refl _), (h2.keep hb).raise hb.size (Nat.le_refl _), h3.trans (hb.mono h3.size)⟩
theorem OwnL.lv {w : World} {B B' : Nat} {v : Value} {L : List VM} (h : OwnL w B v L) (hB : B' ≤ B) (hs : Short 4 (bodies L)) (hl : L.length ≤ 40) : LV w B' w.heap.size v L := ⟨(OwnR.ofL h).weaken hB, h.cap, hs, hl⟩
theorem Bytes.belowA {w w' : World} {a : Option Addr} {n : Nat} (h : Bytes w w.heap.size a n) (hb : Below w.heap.size w w') : Bytes w' w'.heap.size a n := by
  rcases h with h | ⟨b, off, rfl, hlt, hz⟩
  · exact .inl h
  · refine .inr ⟨b, off, rfl, Nat.lt_of_lt_of_le hlt hb.size, fun i hi => ?_⟩
    obtain ⟨z, h1, h2⟩ := hz i hi
    exact ⟨z, h1, by rw [hb.cell (p := ⟨b, off + i, none⟩) hlt]; exact h2⟩

set_option maxRecDepth 100000 in
set_option maxHeartbeats 4000000 in
theorem drawAccBest (a : Option Addr) (n c : Nat) (w : World) (h : Bytes w w.heap.size a n) (hc : n ≤ c) (hm : c ≤ maxLen) :
    Calls Try.prog 23 #[.slice a n c] w fun e w' => BestD w e w' := by
  have HB : Hid (Bytes w w.heap.size a n) := h
  have HM : Hid (c ≤ maxLen) := hm
  clear h hm
  go_enter Try.func23, Try.ntmps23
  go_wp2_with fail
  refine (l15Open a n c w HB.out hc HM.out).mono ?_
  rintro e w1 ⟨rfl, hR, hb⟩
  have D1 : Hid (Rd w1 w.heap.size (w.heap.size + 1) 0) := hR
  have B1 : Hid (Below w.heap.size w w1) := hb
  have S1 : Hid (w.heap.size + 1 ≤ w1.heap.size) := hR.2.1
  clear hR hb
  go_wp2_with fail
  refine (l6Acc w.heap.size (w.heap.size + 1) 0 w1 D1.out (by omega)).mono ?_
  rintro e w2 ⟨m, la, lc, us, rfl, ho, lu, su, m0, m1, ⟨p', hp, hr⟩, hbar⟩
  obtain ⟨V2, hV2⟩ : ∃ V, V = w2.alloc (.cells #[.int .i64 m, .slice la us.length lc] 25) := ⟨_, rfl⟩
  have E2 : Hid (V2 = w2.alloc (.cells #[.int .i64 m, .slice la us.length lc] 25)) := hV2
  have Z2 : Hid (V2.heap.size = w2.heap.size + 1) := by show _ = _; rw [hV2, size_new]
  have K2 : Hid (Below w2.heap.size w2 V2) := by show Below _ _ _; rw [hV2]; exact (Below.refl _ _).alloc (Nat.le_refl _) _
  have O2 : Hid (OwnL V2 w1.heap.size (.slice la us.length lc) us) := ho.keep K2.out
  have C2 : Hid (Blk V2 w2.heap.size #[.int .i64 m, .slice la us.length lc] 25) := by show Blk _ _ _ _; rw [hV2]; exact Blk.new _ _ _
  have D2 : Hid (Rd V2 w.heap.size (w.heap.size + 1) p') := hr.below K2.out
  have B2 : Hid (Bar w.heap.size w1 V2) := hbar.trans (Bar.ofBelow K2.out)
  have P2 : Hid (p' ≤ 1300) := by show _ ≤ _; omega
  have L2 : Hid (us.length ≤ 5 ∧ Short 4 (bodies us)) := ⟨lu, su⟩
  have S2 : Hid (w1.heap.size ≤ w2.heap.size) := hbar.size
  clear hV2 ho lu su m0 m1 hp hr hbar
  go_upto_region 3 with fail
  rw [← E2.out]
  go_wp2_with fail
  refine (l6Acc w.heap.size (w.heap.size + 1) p' V2 D2.out (by have := P2.out; omega)).mono ?_
  rintro e w3 ⟨m', lb, ld, vs, rfl, ho, lu, su, m0, m1, ⟨p2, hp, hr⟩, hbar⟩
  obtain ⟨V3, hV3⟩ : ∃ V, V = w3.alloc (.cells #[.int .i64 m', .slice lb vs.length ld] 25) := ⟨_, rfl⟩
  have E3 : Hid (V3 = w3.alloc (.cells #[.int .i64 m', .slice lb vs.length ld] 25)) := hV3
  have K3 : Hid (Below w3.heap.size w3 V3) := by show Below _ _ _; rw [hV3]; exact (Below.refl _ _).alloc (Nat.le_refl _) _
  have S3 : Hid (V2.heap.size ≤ w3.heap.size) := hbar.size
  have C2 : Hid (Blk V3 w2.heap.size #[.int .i64 m, .slice la us.length lc] 25) := (C2.out.bar1 hbar (by have := S1.out; have := S2.out; omega)).keep K3.out
  have C3 : Hid (Blk V3 w3.heap.size #[.int .i64 m', .slice lb vs.length ld] 25) := by show Blk _ _ _ _; rw [hV3]; exact Blk.new _ _ _
  have B3 : Hid (Bar w.heap.size w1 V3) := (B2.out.trans hbar).trans (Bar.ofBelow K3.out)
  have F : Hid (BestD w (.returned (.tuple #[.slice la us.length lc, .slice lb vs.length ld])) V3) :=
    ⟨la, lc, us, lb, ld, vs, rfl, ((O2.out.bar2 hbar (by have := S1.out; omega)).keep K3.out).lv (by have := S1.out; omega) L2.out.2 (by have := L2.out.1; omega), (ho.keep K3.out).lv (by have := S1.out; have := S2.out; have := Z2.out; omega) su (by omega), B1.out.trans (B3.out.below (Nat.le_refl _) (by have := S1.out; omega))⟩
  clear hV3 ho lu su m0 m1 hp hr hbar
  obtain ⟨c0, c1⟩ := C2.out.cells2
  obtain ⟨d0, d1⟩ := C3.out.cells2
  go_upto_region 4 with fail
  rw [← E3.out]
  go_quiet (fail)
  go_wp2_with fail
  go_ret2
  exact F.out.keep (below_drewN (Below.refl _ _) _)
end Go.Proofs.Ytfifiobcmdmefaa.Own

namespace Go.Proofs.Ytfifiobcmdmefaa.Own
open Go.RowKit
set_option linter.unusedVariables false
set_option linter.unusedSimpArgs false

/-- The greater of two. -/
def up (t x : Int) : Int := if t < x then x else t
theorem up_ge (t x : Int) : t ≤ up t x ∧ x ≤ up t x := by unfold up; split <;> omega
theorem up_le {t x M : Int} (h : t ≤ M) (h' : x ≤ M) : up t x ≤ M := by unfold up; split <;> omega
/-- The greatest ballot of votes, or t. -/
def topB (t : Int) (A : List V) : Int := A.foldl (fun t x => up t x.1) t
theorem topB_snoc (t : Int) (A : List V) (x : V) : topB t (A ++ [x]) = up (topB t A) x.1 := by simp [topB, List.foldl_append]
theorem take_snocV (A : List V) {k : Nat} (hk : k < A.length) : A.take (k + 1) = A.take k ++ [A.getD k (0, e0)] := by
  rw [List.take_add_one]
  congr 1
  simp [List.getD, hk]
theorem topB_succ (t : Int) {A : List V} {k : Nat} (hk : k < A.length) : topB t (A.take (k + 1)) = if topB t (A.take k) < (A.getD k (0, e0)).1 then (A.getD k (0, e0)).1 else topB t (A.take k) := by
  rw [take_snocV A hk, topB_snoc]
  rfl
theorem topB_ge (A : List V) : ∀ t, t ≤ topB t A ∧ ∀ x ∈ A, x.1 ≤ topB t A := by
  induction A with
  | nil => exact fun t => ⟨Int.le_refl _, fun x h => by cases h⟩
  | cons y A ih =>
    intro t
    obtain ⟨h1, h2⟩ := ih (up t y.1)
    have e : topB t (y :: A) = topB (up t y.1) A := rfl
    have u := up_ge t y.1
    rw [e]
    refine ⟨by omega, fun x hx => ?_⟩
    rcases List.mem_cons.1 hx with rfl | hx
    · omega
    · exact h2 x hx
theorem topB_le {M : Int} (A : List V) : ∀ t, t ≤ M → (∀ x ∈ A, x.1 ≤ M) → topB t A ≤ M := by
  induction A with
  | nil => exact fun t h _ => h
  | cons y A ih =>
    intro t h hA
    exact ih _ (up_le h (hA y (List.mem_cons_self ..))) fun x hx => hA x (List.mem_cons_of_mem _ hx)
theorem getD_le {M : Int} {A : List V} (h0 : 0 ≤ M) (h : ∀ x ∈ A, x.1 ≤ M) (i : Nat) : (A.getD i (0, e0)).1 ≤ M := by
  by_cases hi : i < A.length
  · have : A.getD i (0, e0) = A[i] := by simp [List.getD, hi]
    rw [this]; exact h _ (List.getElem_mem hi)
  · have : A.getD i (0, e0) = (0, e0) := by simp [List.getD, List.getElem?_eq_none (Nat.le_of_not_lt hi)]
    rw [this]; exact h0

theorem voteOk_e0 : voteOk (0, e0) = true := by rfl
theorem voteOk_bal {x : V} (h : voteOk x = true) : 0 ≤ x.1 ∧ x.1 ≤ 3000 := by
  obtain ⟨b, e⟩ := x
  unfold voteOk at h
  by_cases hb : b = 0
  · subst hb; simp
  · simp only [hb, if_false, Bool.and_eq_true] at h
    have := isBal_iff.1 h.1
    simp only; omega
theorem votesOk_iff (A : List V) : votesOk A = true ↔ A.length ≤ 40 ∧ ∀ i, i < A.length → voteOk (A.getD i (0, e0)) = true := by
  unfold votesOk
  simp only [Bool.and_eq_true, decide_eq_true_eq, List.all_eq_true]
  constructor
  · rintro ⟨h1, h2⟩
    refine ⟨h1, fun i hi => ?_⟩
    have : A.getD i (0, e0) = A[i] := by simp [List.getD, hi]
    rw [this]; exact h2 _ (List.getElem_mem hi)
  · rintro ⟨h1, h2⟩
    refine ⟨h1, fun x hx => ?_⟩
    obtain ⟨i, hi, rfl⟩ := List.mem_iff_getElem.1 hx
    have := h2 i hi
    have e : A.getD i (0, e0) = A[i] := by simp [List.getD, hi]
    rw [e] at this; exact this
theorem votesOk_at {A : List V} (h : votesOk A = true) (i : Nat) : voteOk (A.getD i (0, e0)) = true := by
  by_cases hi : i < A.length
  · exact ((votesOk_iff A).1 h).2 i hi
  · have : A.getD i (0, e0) = (0, e0) := by simp [List.getD, List.getElem?_eq_none (Nat.le_of_not_lt hi)]
    rw [this]; exact voteOk_e0
theorem bestOf_ok {A B : List V} (h : 0 < (bestOf A B).length) : votesOk A = true ∧ votesOk B = true := by
  unfold bestOf at h
  split at h
  · rename_i hk
    simp only [Bool.and_eq_true, votesUpto_top] at hk
    exact hk
  · simp at h
theorem bestOf_of {A B : List V} (h1 : votesOk A = true) (h2 : votesOk B = true) : (bestOf A B).length = max A.length B.length ∧ ∀ i, i < max A.length B.length → (bestOf A B).getD i (0, e0) = bestAt A B i := by
  have hk : (votesUpto 3000 A && votesUpto 3000 B) = true := by rw [votesUpto_top, votesUpto_top, h1, h2]; rfl
  rw [bestOf_at hk]
  refine ⟨by simp, fun i hi => ?_⟩
  simp only [List.getD, List.getElem?_map, List.getElem?_range hi]
  rfl
theorem bestOf_right {A B : List V} (h1 : votesOk A = true) (h2 : votesOk B = true) : votesOk (bestOf A B) = true := by
  obtain ⟨l, g⟩ := bestOf_of h1 h2
  have a := ((votesOk_iff A).1 h1).1
  have b := ((votesOk_iff B).1 h2).1
  refine (votesOk_iff _).2 ⟨by omega, fun i hi => ?_⟩
  rw [g i (by omega)]
  rcases bestAt_of A B i with e | e
  · rw [e]; exact votesOk_at h1 i
  · rw [e]; exact votesOk_at h2 i
theorem set_getD (A : List V) (k i : Nat) (y : V) (hk : k < A.length) : (A.set k y).getD i (0, e0) = if k = i then y else A.getD i (0, e0) := by
  simp only [List.getD_eq_getElem?_getD, List.getElem?_set]
  by_cases e : k = i
  · simp [e, show i < A.length by omega]
  · simp [e]
theorem votesOk_set {A : List V} {k : Nat} {y : V} (h : votesOk A = true) (hk : k < A.length) (hy : voteOk y = true) : votesOk (A.set k y) = true := by
  refine (votesOk_iff _).2 ⟨by rw [List.length_set]; exact ((votesOk_iff A).1 h).1, fun i hi => ?_⟩
  rw [set_getD _ _ _ _ hk]
  split
  · exact hy
  · exact votesOk_at h i
/-- No entry. -/
def eN : EB := ⟨true, 0, 0, [], [], 0, 0⟩
theorem right_eN : rightE eN = true := by rfl
theorem voteOk_eN {t : Int} (h1 : 1 ≤ t) (h2 : t ≤ 3000) : voteOk (t, eN) = true := by
  unfold voteOk
  rw [if_neg (by simp only; omega)]
  simp only [Bool.and_eq_true]
  exact ⟨isBal_iff.2 ⟨h1, h2⟩, right_eN⟩
theorem zerosV_ok {n : Nat} (hn : n ≤ 40) : votesOk (List.replicate n (0, e0)) = true := by
  refine (votesOk_iff _).2 ⟨by simpa using hn, fun i hi => ?_⟩
  have : (List.replicate n ((0 : Int), e0)).getD i (0, e0) = (0, e0) := by
    simp only [List.getD, List.getElem?_replicate]; split <;> rfl
  rw [this]; exact voteOk_e0

theorem two_math {A B : List V} {k : Nat} {t : Int} (h : 0 < (bestOf A B).length) (hk : k < (bestOf A B).length) (h0 : 0 ≤ t) (ht : t + 1 ≤ 3000) (hA : ∀ i, (A.getD i (0, e0)).1 ≤ t) (hB : ∀ i, (B.getD i (0, e0)).1 ≤ t) :
    k < (bestOf A (List.replicate (k + 1) (0, e0))).length ∧
    k < (bestOf ((bestOf A (List.replicate (k + 1) (0, e0))).set k (t + 1, eN)) B).length ∧
    (bestOf ((bestOf A (List.replicate (k + 1) (0, e0))).set k (t + 1, eN)) B).getD k (0, e0) = (t + 1, eN) ∧
    (bestOf B ((bestOf A (List.replicate (k + 1) (0, e0))).set k (t + 1, eN))).getD k (0, e0) = (t + 1, eN) ∧
    (bestOf B ((bestOf A (List.replicate (k + 1) (0, e0))).set k (t + 1, eN))).length = (bestOf ((bestOf A (List.replicate (k + 1) (0, e0))).set k (t + 1, eN)) B).length := by
  obtain ⟨oA, oB⟩ := bestOf_ok h
  have l0 := bestOf_len A B
  have oZ : votesOk (List.replicate (k + 1) ((0 : Int), e0)) = true := zerosV_ok (by omega)
  obtain ⟨l1, _⟩ := bestOf_of oA oZ
  rw [List.length_replicate] at l1
  have k1 : k < (bestOf A (List.replicate (k + 1) (0, e0))).length := by omega
  have oX := bestOf_right oA oZ
  generalize bestOf A (List.replicate (k + 1) (0, e0)) = X at *
  have oY := votesOk_set oX k1 (voteOk_eN (t := t + 1) (by omega) ht)
  have lY : (X.set k (t + 1, eN)).length = X.length := List.length_set
  have gY : (X.set k (t + 1, eN)).getD k (0, e0) = (t + 1, eN) := by rw [set_getD _ _ _ _ k1, if_pos rfl]
  generalize X.set k (t + 1, eN) = Y at *
  obtain ⟨lp, gp⟩ := bestOf_of oY oB
  obtain ⟨lq, gq⟩ := bestOf_of oB oY
  have bk := hB k
  refine ⟨k1, by omega, ?_, ?_, by omega⟩
  · rw [gp k (by omega)]
    unfold bestAt
    rw [gY, if_neg (by simp only; omega)]
  · rw [gq k (by omega)]
    unfold bestAt
    rw [gY, if_pos (by simp only; omega)]
end Go.Proofs.Ytfifiobcmdmefaa.Own

namespace Go.Proofs.Ytfifiobcmdmefaa.Own
open Go.RowKit
set_option linter.unusedVariables false
set_option linter.unusedSimpArgs false

theorem bestV {B T B' T' : Nat} {v u : Value} {L M : List VM} {w : World} (h1 : LV w B T v L) (h2 : LV w B' T' u M) (K : Nat) (hK : (bestOf (bodies L) (bodies M)).length = K) :
    Calls Try.prog 24 #[v, u] w fun e w' => ∃ a c N, e = .returned (.slice a K c) ∧ N.length = K ∧ bodies N = bestOf (bodies L) (bodies M) ∧ LV w' w.heap.size w'.heap.size (.slice a K c) N ∧ Below w.heap.size w w' := by
  refine (bestC B T B' T' v u L M w h1.own h2.own h1.vls h2.vls (by have := h1.len; omega) (by have := h2.len; omega)).mono ?_
  rintro e w' ⟨x, N, rfl, ho, hb, hc, hw⟩
  have hl : N.length = K := by rw [← bodies_len, hb, hK]
  obtain ⟨a, c, rfl, _⟩ := ho.form
  rw [hl] at ho ⊢
  exact ⟨a, c, N, rfl, hl, hb, ⟨ho, hc, by rw [hb]; exact bestOf_short h1.short h2.short, by rw [hl, ← hK]; exact bestOf_len _ _⟩, hw⟩
theorem bestVS {B T B' T' : Nat} {v u : Value} {L M : List VM} {w : World} (h1 : LV w B T v L) (h2 : LV w B' T' u M) (K : Nat) (hK : (bestOf (bodies L) (bodies M)).length = K) :
    Calls Try.prog 25 #[v, u] w fun e w' => ∃ a c N, e = .returned (.slice a K c) ∧ N.length = K ∧ bodies N = bestOf (bodies L) (bodies M) ∧ LV w' w.heap.size w'.heap.size (.slice a K c) N ∧ Below w.heap.size w w' := by
  have v1 := h1.vls
  have v2 := h2.vls
  obtain ⟨a, c, rfl, s1⟩ := h1.own.form
  obtain ⟨b, d, rfl, s2⟩ := h2.own.form
  refine (specBest a b c d L M w s1 s2 v1 v2 (by have := h1.len; omega) (by have := h2.len; omega)).mono ?_
  rintro e w' ⟨x, N, rfl, ho, hb, hw⟩
  have hl : N.length = K := by rw [← bodies_len, hb, hK]
  have ho2 := OwnR.ofL ho
  have hcap := ho.cap
  obtain ⟨a', c', rfl, _⟩ := ho2.form
  rw [hl] at ho2 ⊢
  exact ⟨a', c', N, rfl, hl, hb, ⟨ho2, hcap, by rw [hb]; exact bestOf_short h1.short h2.short, by rw [hl, ← hK]; exact bestOf_len _ _⟩, hw⟩

theorem made8 (z : Array Value) (hz : z.size = 8) (n i l : Nat) (hi : i < n) (hl : l < 8) : (madeCells z (n * 8))[i * 8 + l]? = z[l]? := by
  have h : i * 8 + l < n * 8 := by omega
  have hm : (i * 8 + l) % z.size = l := by rw [hz]; omega
  have hl' : l < z.size := by omega
  simp [madeCells, h, hm, hl']
theorem blk_v0 (b : Nat) : blk1 v0 ≠ some b ∧ blk2 v0 ≠ some b := ⟨fun h => by simp [blk1, blkOf, v0, e0] at h, fun h => by simp [blk2, blkOf, v0, e0] at h⟩
theorem getD_zeros (n i : Nat) : (List.replicate n v0).getD i v0 = v0 := by
  simp only [List.getD, List.getElem?_replicate]; split <;> rfl
theorem zeroCells : (#[.int .i64 0, .bool false, .int .i64 0, .int .i64 0, .slice none 0 0, .slice none 0 0, .int .i64 0, .int .i64 0] : Array Value).size = 8 := rfl
/-- A row of votes that are none, just made. -/
theorem zerosLV (w : World) (n : Nat) (hn : n ≤ 40) : LV (w.alloc (.cells (madeCells #[.int .i64 0, .bool false, .int .i64 0, .int .i64 0, .slice none 0 0, .slice none 0 0, .int .i64 0, .int .i64 0] (n * 8)) 42)) w.heap.size (w.heap.size + 1) (.slice (some ⟨w.heap.size, 0, none⟩) n n) (List.replicate n v0) := by
  have hh := heap_new w (.cells (madeCells #[.int .i64 0, .bool false, .int .i64 0, .int .i64 0, .slice none 0 0, .slice none 0 0, .int .i64 0, .int .i64 0] (n * 8)) 42)
  have hv : OwnVs (w.alloc (.cells (madeCells #[.int .i64 0, .bool false, .int .i64 0, .int .i64 0, .slice none 0 0, .slice none 0 0, .int .i64 0, .int .i64 0] (n * 8)) 42)) w.heap.size w.heap.size (List.replicate n v0) := by
    refine ⟨by rw [size_new]; omega, Nat.le_refl _, fun o => frozen_heap hh o, fun i hi => ?_, fun i hi => ?_⟩
    · rw [List.length_replicate] at hi
      rw [getD_zeros]
      refine ⟨?_, ?_, ?_, ?_, ?_, ?_, ?_, ?_⟩
      · rw [cell_heap hh]; exact made8 _ zeroCells n i 0 hi (by omega)
      · rw [cell_heap hh]; exact made8 _ zeroCells n i 1 hi (by omega)
      · rw [cell_heap hh]; exact made8 _ zeroCells n i 2 hi (by omega)
      · rw [cell_heap hh]; exact made8 _ zeroCells n i 3 hi (by omega)
      · rw [cell_heap hh]; exact made8 _ zeroCells n i 4 hi (by omega)
      · rw [cell_heap hh]; exact made8 _ zeroCells n i 5 hi (by omega)
      · rw [cell_heap hh]; exact made8 _ zeroCells n i 6 hi (by omega)
      · rw [cell_heap hh]; exact made8 _ zeroCells n i 7 hi (by omega)
    · rw [getD_zeros]; exact ⟨.inl rfl, .inl rfl⟩
  have hs : Sep w.heap.size (List.replicate n v0) := by
    refine ⟨fun i hi => ?_, fun i hi b e => ?_, fun i j hi hj hne b e => ?_⟩
    · rw [getD_zeros]; exact blk_v0 _
    · rw [getD_zeros] at e; exact absurd e (blk_v0 b).1
    · rw [getD_zeros] at e
      rw [getD_zeros]
      rcases e with e | e
      · exact absurd e (blk_v0 b).1
      · exact absurd e (blk_v0 b).2
  have ho := OwnR.ofVs (cap := n) hv hs
  rw [List.length_replicate, size_new] at ho
  refine ⟨ho, fun i hi => by rw [getD_zeros]; exact ⟨Nat.le_refl _, Nat.le_refl _⟩, fun i hi => ?_, by simpa using hn⟩
  rw [bodies_getD, getD_zeros]
  exact ⟨Nat.zero_le _, Nat.zero_le _⟩
theorem bodies_zeros (n : Nat) : bodies (List.replicate n v0) = List.replicate n (0, e0)    := by simp only [bodies, List.map_replicate]; rfl
/-- A vote for no entry. -/
def vN (t : Int) : VM := ⟨t, eN, none, 0, none, 0⟩
theorem one_vN (w : World) (B : Nat) (t : Int) : OneOwn w B (vN t) :=
  ⟨.inl rfl, .inl rfl, Nat.le_refl _, Nat.le_refl _, fun b h => by simp [blk1, blkOf, vN, eN] at h, fun b h => by simp [blk2, blkOf, vN, eN] at h, fun b h => by simp [blk1, blkOf, vN, eN] at h⟩
/-- The row of a list of one's own. -/
theorem LV.row {w : World} {B T K : Nat} {a : Option Addr} {c : Nat} {L : List VM} (h : LV w B T (.slice a K c) L) (hn : L.length = K) (h0 : 0 < K) : ∃ g, a = some ⟨g, 0, none⟩ ∧ OwnVs w B g L ∧ Sep g L ∧ g < T := by
  obtain ⟨_, a', c', hv, h2⟩ := h.own
  injection hv with e1
  subst e1
  rcases h2 with h2 | ⟨g, hg, h2⟩
  · rw [h2] at hn; simp at hn; omega
  · exact ⟨g, hg, h2.vs, h2.sep, h2.hi⟩
theorem LV.put {w : World} {B T K g c k : Nat} {L : List VM} (h : LV w B T (.slice (some ⟨g, 0, none⟩) K c) L) (hn : L.length = K) (hk : k < K) (hB : B ≤ w.heap.size) (t : Int) : LV (set8 w g (k * 8) (vN t)) B w.heap.size (.slice (some ⟨g, 0, none⟩) K c) (L.set k (vN t)) := by
  obtain ⟨g', hg, hv, hs, _⟩ := h.row hn (by omega)
  obtain rfl : g = g' := by injection hg with hg; injection hg
  have hkL : k < L.length := by omega
  have hP := hv.put hs (Below.refl _ w) (one_vN w w.heap.size t) hB k hkL
  have hy : (vN t).b.xs.length ≤ (vN t).c1 ∧ (vN t).b.ys.length ≤ (vN t).c2 := ⟨Nat.zero_le _, Nat.zero_le _⟩
  generalize hz : vN t = y at hP hy ⊢
  have hyb : y.body.2.xs.length ≤ 4 ∧ y.body.2.ys.length ≤ 4 := by rw [← hz]; exact ⟨Nat.zero_le _, Nat.zero_le _⟩
  clear hz
  have hsz := set8_size w g (k * 8) y
  generalize set8 w g (k * 8) y = W at hP hsz ⊢
  have ho : OwnR W B W.heap.size (.slice (some ⟨g, 0, none⟩) (L.set k y).length c) (L.set k y) := OwnR.ofVs (cap := c) hP.1 hP.2
  have hlen : (L.set k y).length = K := by rw [List.length_set]; exact hn
  rw [hlen, hsz] at ho
  refine ⟨ho, h.cap.set k hy hkL, ?_, by rw [List.length_set]; exact h.len⟩
  rw [bodies_set]
  intro i hi
  have hk' : k < (bodies L).length := by rw [bodies_len]; omega
  rw [set_getD _ _ _ _ hk']
  rw [List.length_set] at hi
  split
  · exact hyb
  · exact h.short i hi
theorem LV.putOther {w : World} {B T : Nat} {v : Value} {L : List VM} (h : LV w B T v L) {g o : Nat} (hg : T ≤ g) (y : VM) : LV (set8 w g o y) B T v L :=
  ⟨h.own.keepIn (Nat.le_of_eq (set8_size _ _ _ _).symm) fun b _ hT => by
    unfold set8
    have hne : b ≠ g := by omega
    rw [Below.heap_setCell _ _ _ _ hne, Below.heap_setCell _ _ _ _ hne, Below.heap_setCell _ _ _ _ hne, Below.heap_setCell _ _ _ _ hne, Below.heap_setCell _ _ _ _ hne, Below.heap_setCell _ _ _ _ hne, Below.heap_setCell _ _ _ _ hne, Below.heap_setCell _ _ _ _ hne], h.cap, h.short, h.len⟩
end Go.Proofs.Ytfifiobcmdmefaa.Own

namespace Go.Proofs.Ytfifiobcmdmefaa.Own
open Go.RowKit
set_option linter.unusedVariables false
set_option linter.unusedSimpArgs false

set_option maxRecDepth 100000 in
set_option maxHeartbeats 1000000 in
theorem implAccOk (m : Int) (a : Option Addr) (c : Nat) (vs : List VM) (w : World) (h : SlV w a vs) (hn : vs.length ≤ 2 ^ 40) (hl : VLs vs) :
    Calls Try.prog 16 #[.agg #[.int .i64 m, .slice a vs.length c]] w fun e w' => e = .returned (.bool (accOk m (bodies vs))) ∧ Below w.heap.size w w' := by
  have E : Hid (accOk m (bodies vs) = (decide (0 ≤ m) && decide (m ≤ 3000) && votesUpto m (bodies vs))) := accOk_upto m _
  obtain ⟨W, hW⟩ : ∃ W, W = w.alloc (.cells #[.int .i64 m, .slice a vs.length c] 25) := ⟨_, rfl⟩
  have BW : Hid (Below w.heap.size w W) := by show Below _ _ _; rw [hW]; exact (Below.refl _ _).alloc (Nat.le_refl _) _
  have HW : Hid (W = _) := hW
  clear hW
  have HC : Hid _ := implVotesOk m a c vs W (h.below BW.out) hn hl
  clear h hl
  generalize accOk m (bodies vs) = T at E ⊢
  generalize votesUpto m (bodies vs) = U at E HC
  cases h1 : decide (0 ≤ m) with
  | false =>
    have F : Hid (T = false) := by show _ = _; rw [E.out, h1]; rfl
    clear E
    go_enter Try.func16, Try.ntmps16
    go_wp2_with fail
    go_ret
    exact ⟨ret_bool F.out.symm, by rw [← HW.out]; exact BW.out⟩
  | true =>
    cases h2 : decide (m ≤ 3000) with
    | false =>
      have F : Hid (T = false) := by show _ = _; rw [E.out, h1, h2]; rfl
      clear E
      go_enter Try.func16, Try.ntmps16
      go_wp2_with fail
      go_ret
      exact ⟨ret_bool F.out.symm, by rw [← HW.out]; exact BW.out⟩
    | true =>
      have F : Hid (T = U) := by show _ = _; rw [E.out, h1, h2]; rfl
      clear E
      go_enter Try.func16, Try.ntmps16
      go_wp2_with fail
      rw [← HW.out]
      refine Calls.mono HC.out ?_
      rintro e w1 ⟨rfl, b1⟩
      have B1 : Hid (Below w.heap.size w w1) := BW.out.trans (b1.mono BW.out.size)
      clear b1
      go_wp2_with fail
      go_ret
      exact ⟨ret_bool F.out.symm, B1.out⟩
end Go.Proofs.Ytfifiobcmdmefaa.Own

namespace Go.Proofs.Ytfifiobcmdmefaa.Own
open Go.RowKit
set_option linter.unusedVariables false
set_option linter.unusedSimpArgs false

set_option maxRecDepth 100000 in
set_option maxHeartbeats 800000 in
theorem bidInBallot (m : Int) (a : Option Addr) (c : Nat) (vs : List VM) (bal slot : Int) (n : Bool) (p q : Int) (a1 a2 : Option Addr) (c1 c2 : Nat) (xs ys : List P2) (v k : Int) (w : World) :
    Calls Try.prog 48 #[.agg #[.int .i64 m, .slice a vs.length c, .int .i64 bal, .int .i64 slot, .bool n, .int .i64 p, .int .i64 q, .slice a1 xs.length c1, .slice a2 ys.length c2, .int .i64 v, .int .i64 k]] w fun e w' => e = .returned (.bool (isBal bal)) ∧ Below w.heap.size w w' := by
  obtain ⟨W, hW⟩ : ∃ W, W = w.alloc (.cells #[.int .i64 m, .slice a vs.length c, .int .i64 bal, .int .i64 slot, .bool n, .int .i64 p, .int .i64 q, .slice a1 xs.length c1, .slice a2 ys.length c2, .int .i64 v, .int .i64 k] 87) := ⟨_, rfl⟩
  have BW : Hid (Below w.heap.size w W) := by show Below _ _ _; rw [hW]; exact (Below.refl _ _).alloc (Nat.le_refl _) _
  have PW : Hid (Blk W w.heap.size #[.int .i64 m, .slice a vs.length c, .int .i64 bal, .int .i64 slot, .bool n, .int .i64 p, .int .i64 q, .slice a1 xs.length c1, .slice a2 ys.length c2, .int .i64 v, .int .i64 k] 87) := by show Blk _ _ _ _; rw [hW]; exact Blk.new _ _ _
  have HW : Hid (W = _) := hW
  clear hW
  have p2 : W.cell? ⟨w.heap.size, 2, none⟩ = some (.int .i64 bal) := by rw [PW.out.cell]; rfl
  go_enter Try.func48, Try.ntmps48
  go_wp2_with fail
  rw [← HW.out]
  refine (implIsBallot bal W).mono ?_
  rintro e w1 ⟨rfl, rfl⟩
  go_wp2_with fail
  go_ret
  exact ⟨rfl, BW.out⟩

set_option maxRecDepth 100000 in
set_option maxHeartbeats 800000 in
theorem bidKeeps (m : Int) (a : Option Addr) (c : Nat) (vs : List VM) (bal slot : Int) (n : Bool) (p q : Int) (a1 a2 : Option Addr) (c1 c2 : Nat) (xs ys : List P2) (v k : Int) (w : World) :
    Calls Try.prog 49 #[.agg #[.int .i64 m, .slice a vs.length c, .int .i64 bal, .int .i64 slot, .bool n, .int .i64 p, .int .i64 q, .slice a1 xs.length c1, .slice a2 ys.length c2, .int .i64 v, .int .i64 k]] w fun e w' => e = .returned (.bool (decide (m ≤ bal))) ∧ Below w.heap.size w w' := by
  obtain ⟨W, hW⟩ : ∃ W, W = w.alloc (.cells #[.int .i64 m, .slice a vs.length c, .int .i64 bal, .int .i64 slot, .bool n, .int .i64 p, .int .i64 q, .slice a1 xs.length c1, .slice a2 ys.length c2, .int .i64 v, .int .i64 k] 87) := ⟨_, rfl⟩
  have BW : Hid (Below w.heap.size w W) := by show Below _ _ _; rw [hW]; exact (Below.refl _ _).alloc (Nat.le_refl _) _
  have PW : Hid (Blk W w.heap.size #[.int .i64 m, .slice a vs.length c, .int .i64 bal, .int .i64 slot, .bool n, .int .i64 p, .int .i64 q, .slice a1 xs.length c1, .slice a2 ys.length c2, .int .i64 v, .int .i64 k] 87) := by show Blk _ _ _ _; rw [hW]; exact Blk.new _ _ _
  have HW : Hid (W = _) := hW
  clear hW
  have p0 : W.cell? ⟨w.heap.size, 0, none⟩ = some (.int .i64 m) := by rw [PW.out.cell]; rfl
  have p2 : W.cell? ⟨w.heap.size, 2, none⟩ = some (.int .i64 bal) := by rw [PW.out.cell]; rfl
  by_cases h : m ≤ bal
  · have h1 : decide (m ≤ bal) = true := decide_eq_true h
    go_enter Try.func49, Try.ntmps49
    go_upto_region 1 with fail
    rw [← HW.out]
    go_wp2_with fail
    go_ret
    exact ⟨by simp [h], BW.out⟩
  · have h1 : decide (m ≤ bal) = false := decide_eq_false h
    go_enter Try.func49, Try.ntmps49
    go_upto_region 1 with fail
    rw [← HW.out]
    go_wp2_with fail
    go_ret
    exact ⟨by simp [h], BW.out⟩

set_option maxRecDepth 100000 in
set_option maxHeartbeats 800000 in
theorem bidPlace (m : Int) (a : Option Addr) (c : Nat) (vs : List VM) (bal slot : Int) (n : Bool) (p q : Int) (a1 a2 : Option Addr) (c1 c2 : Nat) (xs ys : List P2) (v k : Int) (w : World) :
    Calls Try.prog 50 #[.agg #[.int .i64 m, .slice a vs.length c, .int .i64 bal, .int .i64 slot, .bool n, .int .i64 p, .int .i64 q, .slice a1 xs.length c1, .slice a2 ys.length c2, .int .i64 v, .int .i64 k]] w fun e w' => e = .returned (.bool (decide (0 ≤ slot) && decide (slot < 40))) ∧ Below w.heap.size w w' := by
  obtain ⟨W, hW⟩ : ∃ W, W = w.alloc (.cells #[.int .i64 m, .slice a vs.length c, .int .i64 bal, .int .i64 slot, .bool n, .int .i64 p, .int .i64 q, .slice a1 xs.length c1, .slice a2 ys.length c2, .int .i64 v, .int .i64 k] 87) := ⟨_, rfl⟩
  have BW : Hid (Below w.heap.size w W) := by show Below _ _ _; rw [hW]; exact (Below.refl _ _).alloc (Nat.le_refl _) _
  have PW : Hid (Blk W w.heap.size #[.int .i64 m, .slice a vs.length c, .int .i64 bal, .int .i64 slot, .bool n, .int .i64 p, .int .i64 q, .slice a1 xs.length c1, .slice a2 ys.length c2, .int .i64 v, .int .i64 k] 87) := by show Blk _ _ _ _; rw [hW]; exact Blk.new _ _ _
  have HW : Hid (W = _) := hW
  clear hW
  have p3 : W.cell? ⟨w.heap.size, 3, none⟩ = some (.int .i64 slot) := by rw [PW.out.cell]; rfl
  by_cases h : 0 ≤ slot
  · have h1 : decide (0 ≤ slot) = true := decide_eq_true h
    by_cases h2 : slot < 40
    · have h3 : decide (slot < 40) = true := decide_eq_true h2
      go_enter Try.func50, Try.ntmps50
      go_upto_region 1 with fail
      rw [← HW.out]
      go_wp2_with fail
      go_ret
      exact ⟨by simp [h, h2], BW.out⟩
    · have h3 : decide (slot < 40) = false := decide_eq_false h2
      go_enter Try.func50, Try.ntmps50
      go_upto_region 1 with fail
      rw [← HW.out]
      go_wp2_with fail
      go_ret
      exact ⟨by simp [h, h2], BW.out⟩
  · have h1 : decide (0 ≤ slot) = false := decide_eq_false h
    go_enter Try.func50, Try.ntmps50
    go_upto_region 1 with fail
    rw [← HW.out]
    go_wp2_with fail
    go_ret
    exact ⟨by simp [h], BW.out⟩

set_option maxRecDepth 100000 in
set_option maxHeartbeats 800000 in
theorem bidEntry (m : Int) (a : Option Addr) (c : Nat) (vs : List VM) (bal slot : Int) (n : Bool) (p q : Int) (a1 a2 : Option Addr) (c1 c2 : Nat) (xs ys : List P2) (v k : Int) (w : World) (h1 : Sl w a1 xs) (h2 : Sl w a2 ys) (n1 : xs.length ≤ 2 ^ 40) (n2 : ys.length ≤ 2 ^ 40) :
    Calls Try.prog 51 #[.agg #[.int .i64 m, .slice a vs.length c, .int .i64 bal, .int .i64 slot, .bool n, .int .i64 p, .int .i64 q, .slice a1 xs.length c1, .slice a2 ys.length c2, .int .i64 v, .int .i64 k]] w fun e w' => e = .returned (.bool (entOk n p q xs ys v k)) ∧ Below w.heap.size w w' := by
  obtain ⟨W, hW⟩ : ∃ W, W = w.alloc (.cells #[.int .i64 m, .slice a vs.length c, .int .i64 bal, .int .i64 slot, .bool n, .int .i64 p, .int .i64 q, .slice a1 xs.length c1, .slice a2 ys.length c2, .int .i64 v, .int .i64 k] 87) := ⟨_, rfl⟩
  have BW : Hid (Below w.heap.size w W) := by show Below _ _ _; rw [hW]; exact (Below.refl _ _).alloc (Nat.le_refl _) _
  have PW : Hid (Blk W w.heap.size #[.int .i64 m, .slice a vs.length c, .int .i64 bal, .int .i64 slot, .bool n, .int .i64 p, .int .i64 q, .slice a1 xs.length c1, .slice a2 ys.length c2, .int .i64 v, .int .i64 k] 87) := by show Blk _ _ _ _; rw [hW]; exact Blk.new _ _ _
  have HW : Hid (W = _) := hW
  clear hW
  have p4 : W.cell? ⟨w.heap.size, 4, none⟩ = some (.bool n) := by rw [PW.out.cell]; rfl
  have p5 : W.cell? ⟨w.heap.size, 5, none⟩ = some (.int .i64 p) := by rw [PW.out.cell]; rfl
  have p6 : W.cell? ⟨w.heap.size, 6, none⟩ = some (.int .i64 q) := by rw [PW.out.cell]; rfl
  have p7 : W.cell? ⟨w.heap.size, 7, none⟩ = some (.slice a1 xs.length c1) := by rw [PW.out.cell]; rfl
  have p8 : W.cell? ⟨w.heap.size, 8, none⟩ = some (.slice a2 ys.length c2) := by rw [PW.out.cell]; rfl
  have p9 : W.cell? ⟨w.heap.size, 9, none⟩ = some (.int .i64 v) := by rw [PW.out.cell]; rfl
  have p10 : W.cell? ⟨w.heap.size, 10, none⟩ = some (.int .i64 k) := by rw [PW.out.cell]; rfl
  have EC : Hid _ := implCertEntry n p q a1 a2 c1 c2 xs ys v k W (h1.below BW.out) (h2.below BW.out) n1 n2
  clear h1 h2
  go_enter Try.func51, Try.ntmps51
  go_upto_region 1 with fail
  rw [← HW.out]
  go_wp2_with fail
  refine Calls.mono EC.out ?_
  rintro e w1 ⟨rfl, b1⟩
  have B1 : Hid (Below w.heap.size w w1) := BW.out.trans (b1.mono BW.out.size)
  clear b1
  obtain ⟨r, hr⟩ : ∃ r, r = entOk n p q xs ys v k := ⟨_, rfl⟩
  rw [← hr]
  have HR : Hid (r = entOk n p q xs ys v k) := hr
  clear hr
  go_wp2_with fail
  go_ret
  exact ⟨ret_bool HR.out, B1.out⟩

/-- What a promise under conditions leaves: K: the acceptor is right; A: all conditions hold. -/
def BidPost (m bal : Int) (bs : List V) (K A : Bool) (w0 : World) (e : Ending) (w' : World) : Prop := ∃ lv us, e = .returned (.tuple #[.agg #[.int .i64 (if K then if A then bal else m else 0), lv], .bool (K && A)]) ∧ OwnL w' w0.heap.size lv us ∧ bodies us = (if K then bs else []) ∧ Below w0.heap.size w0 w'

set_option maxRecDepth 100000 in
set_option maxHeartbeats 1000000 in
/-- The conditions of a bid, in the order in which they are asked; each one's answer is known. -/
theorem bidPromise (m : Int) (a : Option Addr) (c : Nat) (vs : List VM) (bal slot : Int) (n : Bool) (p q : Int) (a1 a2 : Option Addr) (c1 c2 : Nat) (xs ys : List P2) (v k : Int) (w : World) (fs : List Nat) (rs : List Bool) (gb cap : Nat) (h1 : SlV w a vs) (l1 : VLs vs) (n1 : vs.length ≤ 2 ^ 30) (hg : gb < w.heap.size) (hfl : fs.length ≤ 100)
    (hfs : ∀ i, i < fs.length → fs.getD i 0 = 48 ∨ fs.getD i 0 = 49 ∨ fs.getD i 0 = 50 ∨ fs.getD i 0 = 51)
    (hf : ∀ i, i < fs.length → w.cell? ⟨gb, i, none⟩ = some (.func (.func (fs.getD i 0)) #[.agg #[.int .i64 m, .slice a vs.length c, .int .i64 bal, .int .i64 slot, .bool n, .int .i64 p, .int .i64 q, .slice a1 xs.length c1, .slice a2 ys.length c2, .int .i64 v, .int .i64 k]] #[]))
    (hc : ∀ i, i < fs.length → ∀ V, Below w.heap.size w V → Calls Try.prog (fs.getD i 0) #[.agg #[.int .i64 m, .slice a vs.length c, .int .i64 bal, .int .i64 slot, .bool n, .int .i64 p, .int .i64 q, .slice a1 xs.length c1, .slice a2 ys.length c2, .int .i64 v, .int .i64 k]] V fun e w' => e = .returned (.bool (rs.getD i false)) ∧ Below V.heap.size V w') :
    Calls Try.prog 47 #[.agg #[.int .i64 m, .slice a vs.length c, .int .i64 bal, .int .i64 slot, .bool n, .int .i64 p, .int .i64 q, .slice a1 xs.length c1, .slice a2 ys.length c2, .int .i64 v, .int .i64 k], .slice (some ⟨gb, 0, none⟩) fs.length cap] w fun e w' => BidPost m bal (bodies vs) (accOk m (bodies vs)) ((List.range fs.length).all fun i => rs.getD i false) w e w' := by
  have HC : Hid (∀ i, i < fs.length → ∀ V, Below w.heap.size w V → Calls Try.prog (fs.getD i 0) #[.agg #[.int .i64 m, .slice a vs.length c, .int .i64 bal, .int .i64 slot, .bool n, .int .i64 p, .int .i64 q, .slice a1 xs.length c1, .slice a2 ys.length c2, .int .i64 v, .int .i64 k]] V fun e w' => e = .returned (.bool (rs.getD i false)) ∧ Below V.heap.size V w') := hc
  have HF : Hid (∀ i, i < fs.length → w.cell? ⟨gb, i, none⟩ = some (.func (.func (fs.getD i 0)) #[.agg #[.int .i64 m, .slice a vs.length c, .int .i64 bal, .int .i64 slot, .bool n, .int .i64 p, .int .i64 q, .slice a1 xs.length c1, .slice a2 ys.length c2, .int .i64 v, .int .i64 k]] #[])) := hf
  have HG : Hid (gb < w.heap.size) := hg
  have H1 : Hid (SlV w a vs) := h1
  have L1 : Hid (VLs vs) := l1
  have FS : Hid (∀ i, i < fs.length → fs.getD i 0 = 48 ∨ fs.getD i 0 = 49 ∨ fs.getD i 0 = 50 ∨ fs.getD i 0 = 51) := hfs
  clear hc hf hg h1 l1 hfs
  obtain ⟨A, hA⟩ : ∃ A, A = (List.range fs.length).all fun i => rs.getD i false := ⟨_, rfl⟩
  have AN : Hid (∀ i, i < fs.length → rs.getD i false = false → A = false) := fun i hi hr => by
    rw [hA, List.all_eq_false]
    exact ⟨i, by simpa using hi, by rw [hr]; decide⟩
  have AY : Hid ((∀ i, i < fs.length → rs.getD i false = true) → A = true) := fun h => by
    rw [hA, List.all_eq_true]
    intro i hi
    exact h i (by simpa using hi)
  rw [← hA]
  clear hA
  obtain ⟨W, hW⟩ : ∃ W, W = (w.alloc (.cells #[.int .i64 m, .slice a vs.length c, .int .i64 bal, .int .i64 slot, .bool n, .int .i64 p, .int .i64 q, .slice a1 xs.length c1, .slice a2 ys.length c2, .int .i64 v, .int .i64 k] 87)).alloc (.cells #[.int .i64 0, .slice none 0 0] 25) := ⟨_, rfl⟩
  have BW : Hid (Below w.heap.size w W) := by show Below _ _ _; rw [hW]; exact ((Below.refl _ _).alloc (Nat.le_refl _) _).alloc (by simp) _
  have PW : Hid (Blk W w.heap.size #[.int .i64 m, .slice a vs.length c, .int .i64 bal, .int .i64 slot, .bool n, .int .i64 p, .int .i64 q, .slice a1 xs.length c1, .slice a2 ys.length c2, .int .i64 v, .int .i64 k] 87) := by show Blk _ _ _ _; rw [hW]; exact (Blk.new _ _ _).alloc _
  have ZW : Hid (Blk W (w.heap.size + 1) #[.int .i64 0, .slice none 0 0] 25) := by show Blk _ _ _ _; rw [hW]; exact Blk.new2 _ _ _ _
  have SW : Hid (W.heap.size = w.heap.size + 2) := by show _ = _; rw [hW]; simp
  have HW : Hid (W = _) := hW
  have CO : Hid _ := implAccOk m a c vs W (H1.out.below BW.out) (by omega) L1.out
  have P : Hid (∀ V, Below W.heap.size W V → V.cell? ⟨w.heap.size, 0, none⟩ = some (.int .i64 m) ∧ V.cell? ⟨w.heap.size, 1, none⟩ = some (.slice a vs.length c) ∧ V.cell? ⟨w.heap.size, 2, none⟩ = some (.int .i64 bal)) := fun V hV => by
    have := PW.out.keep hV
    exact ⟨by rw [this.cell]; rfl, by rw [this.cell]; rfl, by rw [this.cell]; rfl⟩
  clear hW
  obtain ⟨p0, p1, p2⟩ := P.out W (Below.refl _ _)
  generalize accOk m (bodies vs) = K at CO ⊢
  go_enter Try.func47, Try.ntmps47
  go_upto_region 1 with fail
  rw [← HW.out]
  go_wp2_with fail
  refine Calls.mono CO.out ?_
  rintro e w1 ⟨rfl, b1⟩
  have B1 : Hid (Below W.heap.size W w1) := b1
  have S1 : Hid (w.heap.size + 2 ≤ w1.heap.size) := by show _ ≤ _; have := b1.size; have := SW.out; omega
  have Z1 : Hid (Blk w1 (w.heap.size + 1) #[.int .i64 0, .slice none 0 0] 25) := ZW.out.keep b1
  have K1 : Hid (Below w.heap.size w w1) := BW.out.trans (b1.mono BW.out.size)
  clear b1 CO p0 p1 p2
  obtain ⟨p0, p1, p2⟩ := P.out w1 B1.out
  obtain ⟨z0, z1⟩ := Z1.out.cells2
  have fz := Z1.out.frozen
  cases K with
  | false =>
    go_wp2_with fail
    have zb := (((Z1.out.set 0 (.int .i64 0)).set 1 (.slice none 0 0)).eq (C' := #[.int .i64 0, .slice none 0 0]) (by simp)).cells2
    obtain ⟨y0, y1⟩ := zb
    refine bodyPost_ret (v := .tuple #[.agg #[.int .i64 0, .slice none 0 0], .bool false]) (by simp [results, Try.results47, go_sem, y0, y1]) rfl ?_
    exact ⟨_, [], rfl, OwnL.nil _ _, rfl, (K1.out.setCell (by show w.heap.size ≤ w.heap.size + 1; omega) _).setCell (by show w.heap.size ≤ w.heap.size + 1; omega) _⟩
  | true =>
    go_upto_region 4 with fail
    obtain ⟨X, hX⟩ : ∃ X, X = w1.alloc (.cells #[.int .i64 m, .slice a vs.length c] 25) := ⟨_, rfl⟩
    rw [← hX]
    have TX : Hid (Blk X w1.heap.size #[.int .i64 m, .slice a vs.length c] 25) := by show Blk _ _ _ _; rw [hX]; exact Blk.new _ _ _
    have BX : Hid (Below w1.heap.size w1 X) := by show Below _ _ _; rw [hX]; exact (Below.refl _ _).alloc (Nat.le_refl _) _
    have SX : Hid (X.heap.size = w1.heap.size + 1) := by show _ = _; rw [hX]; simp
    have KX : Hid (Below w.heap.size w X) := K1.out.trans (BX.out.mono K1.out.size)
    have WX : Hid (Below W.heap.size W X) := B1.out.trans (BX.out.mono B1.out.size)
    clear hX p0 p1 p2 z0 z1 fz
    obtain ⟨p0, p1, p2⟩ := P.out X WX.out
    go_wp2_with fail
    refine (listCopied a c vs X (H1.out.below KX.out) L1.out n1).mono ?_
    rintro e w2 ⟨lv, us, rfl, o2, e2, b2⟩
    obtain ⟨la, lc, rfl⟩ := o2.form
    have O2 : Hid (OwnL w2 X.heap.size (.slice la us.length lc) us) := o2
    have E2 : Hid (bodies us = bodies vs) := e2
    have B2 : Hid (Below X.heap.size X w2) := b2
    have T2 : Hid (Blk w2 w1.heap.size #[.int .i64 m, .slice a vs.length c] 25) := TX.out.keep b2
    have fr := T2.out.frozen
    clear o2 e2 b2 p0 p1 p2
    obtain ⟨t0, t1⟩ := T2.out.cells2
    go_upto_region 5 with fail
    obtain ⟨Y, hY⟩ : ∃ Y, Y = w2.setCell ⟨w1.heap.size, 1, none⟩ (.slice la us.length lc) := ⟨_, rfl⟩
    rw [← hY]
    have TY : Hid (Blk Y w1.heap.size #[.int .i64 m, .slice la us.length lc] 25) := by show Blk _ _ _ _; rw [hY]; exact (T2.out.set 1 (.slice la us.length lc)).eq (by simp)
    have SY : Hid (Y.heap.size = w2.heap.size) := by show _ = _; rw [hY]; simp [World.setCell]
    have OY : Hid (OwnL Y X.heap.size (.slice la us.length lc) us) := O2.out.high (Nat.le_of_eq SY.out.symm) fun b hb => by rw [hY]; exact Below.heap_setCell _ _ _ _ (by have := SX.out; show b ≠ w1.heap.size; omega)
    have BY : Hid (Below w1.heap.size w1 Y) := by show Below _ _ _; rw [hY]; exact (BX.out.trans (B2.out.mono BX.out.size)).setCell (Nat.le_refl _) _
    have ZY : Hid (Blk Y (w.heap.size + 1) #[.int .i64 0, .slice none 0 0] 25) := Z1.out.keep BY.out
    have KY : Hid (Below w.heap.size w Y) := K1.out.trans (BY.out.mono K1.out.size)
    have WY : Hid (Below W.heap.size W Y) := B1.out.trans (BY.out.mono B1.out.size)
    have S2 : Hid (w1.heap.size < X.heap.size ∧ X.heap.size ≤ Y.heap.size) := ⟨by have := SX.out; omega, by have := B2.out.size; have := SY.out; omega⟩
    clear hY t0 t1 fr
    go_wp2_with fail
    go_loopw [8, 23] (fun _ i wr => ∃ j : Nat, j ≤ fs.length ∧ i = .int .i64 j ∧ Hid (∀ l, l < j → rs.getD l false = true) ∧ Hid (Below Y.heap.size Y wr)) (fun _ i _ => fs.length - (intOf i).toNat)
    case atStart => exact ⟨0, Nat.zero_le _, rfl, fun l hl => absurd hl (Nat.not_lt_zero _), Below.refl _ _⟩
    case round =>
      obtain ⟨j, hj, rfl, LT, BR⟩ := hrel
      have TR : Hid (Blk wr w1.heap.size #[.int .i64 m, .slice la us.length lc] 25) := TY.out.keep BR.out
      have ZR : Hid (Blk wr (w.heap.size + 1) #[.int .i64 0, .slice none 0 0] 25) := ZY.out.keep BR.out
      have KR : Hid (Below w.heap.size w wr) := KY.out.trans (BR.out.mono KY.out.size)
      have OR : Hid (OwnL wr X.heap.size (.slice la us.length lc) us) := OY.out.keep BR.out
      by_cases hlt : j < fs.length
      · have hji : (j : Int) < (fs.length : Int) := by omega
        have f0 : wr.cell? ⟨gb, j, none⟩ = some (.func (.func (fs.getD j 0)) #[.agg #[.int .i64 m, .slice a vs.length c, .int .i64 bal, .int .i64 slot, .bool n, .int .i64 p, .int .i64 q, .slice a1 xs.length c1, .slice a2 ys.length c2, .int .i64 v, .int .i64 k]] #[]) := by
          rw [KR.out.cell (p := ⟨gb, j, none⟩) HG.out]; exact HF.out j hlt
        have CJ : Hid (Calls Try.prog (fs.getD j 0) #[.agg #[.int .i64 m, .slice a vs.length c, .int .i64 bal, .int .i64 slot, .bool n, .int .i64 p, .int .i64 q, .slice a1 xs.length c1, .slice a2 ys.length c2, .int .i64 v, .int .i64 k]] wr fun e w' => e = .returned (.bool (rs.getD j false)) ∧ Below wr.heap.size wr w') := HC.out j hlt wr KR.out
        have AJ : Hid (rs.getD j false = false → A = false) := AN.out j hlt
        have LJ : Hid (rs.getD j false = true → ∀ l, l < j + 1 → rs.getD l false = true) := fun h l hl => by
          by_cases e : l = j
          · rw [e]; exact h
          · exact LT.out l (by omega)
        have FJ : Hid (fs.getD j 0 = 48 ∨ fs.getD j 0 = 49 ∨ fs.getD j 0 = 50 ∨ fs.getD j 0 = 51) := FS.out j hlt
        generalize fs.getD j 0 = fj at f0 CJ FJ
        generalize rs.getD j false = rj at CJ AJ LJ
        go_upto_region 8 with fail
        go_cut [29] from 27 to 29 (fun q wx => q = .bool (!rj) ∧ Below wr.heap.size wr wx)
        case first =>
          rcases FJ.out with rfl | rfl | rfl | rfl
          all_goals
            go_wp2_with fail
            refine Calls.mono CJ.out ?_
            rintro e w3 ⟨rfl, b3⟩
            have B3 : Hid (Below wr.heap.size wr w3) := b3
            clear b3
            go_wp2_with fail
            go_meet
            exact ⟨rfl, B3.out⟩
        case rest =>
        obtain ⟨w3, hw3⟩ : ∃ w3, w3 = wc := ⟨_, rfl⟩
        subst hw3
        obtain ⟨rfl, b3⟩ := hcut
        have T3 : Hid (Blk w3 w1.heap.size #[.int .i64 m, .slice la us.length lc] 25) := TR.out.keep b3
        have Z3 : Hid (Blk w3 (w.heap.size + 1) #[.int .i64 0, .slice none 0 0] 25) := ZR.out.keep b3
        have K3 : Hid (Below w.heap.size w w3) := KR.out.trans (b3.mono KR.out.size)
        have O3 : Hid (OwnL w3 X.heap.size (.slice la us.length lc) us) := OR.out.keep b3
        have B3 : Hid (Below Y.heap.size Y w3) := BR.out.trans (b3.mono BR.out.size)
        clear b3 f0
        cases rj with
        | false =>
          have AF : Hid (A = false) := AJ.out rfl
          obtain ⟨t0, t1⟩ := T3.out.cells2
          obtain ⟨z0, z1⟩ := Z3.out.cells2
          have fz := Z3.out.frozen
          go_wp2_with fail
          have zb := (((Z3.out.set 0 (.int .i64 m)).set 1 (.slice la us.length lc)).eq (C' := #[.int .i64 m, .slice la us.length lc]) (by simp)).cells2
          obtain ⟨y0, y1⟩ := zb
          refine bodyPost_ret (v := .tuple #[.agg #[.int .i64 m, .slice la us.length lc], .bool false]) (by simp [results, Try.results47, go_sem, y0, y1]) rfl ?_
          have on : Only (w.heap.size + 1) w3 ((w3.setCell ⟨w.heap.size + 1, 0, none⟩ (.int .i64 m)).setCell ⟨w.heap.size + 1, 1, none⟩ (.slice la us.length lc)) := ((Only.refl _ _).setCell _).setCell _
          have s1 := S1.out
          have s2 := S2.out
          exact ⟨_, us, by rw [AF.out]; rfl, (O3.out.high (Nat.le_of_eq on.size.symm) fun b hb => on.block b (by omega)).low (by omega), E2.out, K3.out.trans (on.below (by omega))⟩
        | true =>
          have LN : Hid (∀ l, l < j + 1 → rs.getD l false = true) := LJ.out rfl
          go_wp2_with fail
          exact ⟨⟨j + 1, by omega, by go_num, LN.out, B3.out⟩, by simp only [intOf]; omega⟩
      · have hji : ¬ (j : Int) < (fs.length : Int) := by omega
        have AT : Hid (A = true) := AY.out fun i hi => LT.out i (by omega)
        obtain ⟨p0, p1, p2⟩ := P.out wr (WY.out.trans (BR.out.mono WY.out.size))
        obtain ⟨t0, t1⟩ := TR.out.cells2
        obtain ⟨z0, z1⟩ := ZR.out.cells2
        have fz := ZR.out.frozen
        have ft := TR.out.frozen
        have s1 := S1.out
        have s2 := S2.out
        have hne : w.heap.size + 1 ≠ w1.heap.size := by omega
        go_wp2_with fail
        have zo : Blk (wr.setCell ⟨w1.heap.size, 0, none⟩ (.int .i64 bal)) (w.heap.size + 1) #[.int .i64 0, .slice none 0 0] 25 := ZR.out.other hne _ _
        have zb := (((zo.set 0 (.int .i64 bal)).set 1 (.slice la us.length lc)).eq (C' := #[.int .i64 bal, .slice la us.length lc]) (by simp)).cells2
        obtain ⟨y0, y1⟩ := zb
        refine bodyPost_ret (v := .tuple #[.agg #[.int .i64 bal, .slice la us.length lc], .bool true]) (by simp [results, Try.results47, go_sem, y0, y1]) rfl ?_
        obtain ⟨Q, hQ⟩ : ∃ Q, Q = ((wr.setCell ⟨w1.heap.size, 0, none⟩ (.int .i64 bal)).setCell ⟨w.heap.size + 1, 0, none⟩ (.int .i64 bal)).setCell ⟨w.heap.size + 1, 1, none⟩ (.slice la us.length lc) := ⟨_, rfl⟩
        rw [← hQ]
        have OQ : OwnL Q X.heap.size (.slice la us.length lc) us := OR.out.high (by rw [hQ]; simp [World.setCell]) fun b hb => by
          rw [hQ, Below.heap_setCell _ _ _ _ (by show b ≠ w.heap.size + 1; omega), Below.heap_setCell _ _ _ _ (by show b ≠ w.heap.size + 1; omega), Below.heap_setCell _ _ _ _ (by show b ≠ w1.heap.size; omega)]
        have KQ : Below w.heap.size w Q := by
          rw [hQ]
          exact ((KR.out.setCell (by show w.heap.size ≤ w1.heap.size; omega) _).setCell (by show w.heap.size ≤ w.heap.size + 1; omega) _).setCell (by show w.heap.size ≤ w.heap.size + 1; omega) _
        exact ⟨_, us, by rw [AT.out]; rfl, OQ.low (by omega), E2.out, KQ⟩

end Go.Proofs.Ytfifiobcmdmefaa.Own

namespace Go.Proofs.Ytfifiobcmdmefaa.Own
open Go.RowKit
set_option linter.unusedVariables false

/-- A list of votes of one's own that fit. -/
def OwnC (w : World) (B T : Nat) (v : Value) (L : List VM) : Prop := OwnR w B T v L ∧ CapL L
theorem OwnC.ofL {w : World} {B : Nat} {v : Value} {L : List VM} (h : OwnL w B v L) : OwnC w B w.heap.size v L := ⟨OwnR.ofL h, h.cap⟩
theorem OwnC.nil (w : World) (B : Nat) (a : Option Addr) (c : Nat) : OwnC w B w.heap.size (.slice a 0 c) [] := ⟨OwnR.nil w B a c, fun i h => by simp at h⟩
end Go.Proofs.Ytfifiobcmdmefaa.Own

namespace Go.Proofs.Ytfifiobcmdmefaa.Own
open Go.RowKit
set_option linter.unusedVariables false
set_option linter.unusedSimpArgs false

/-- What AccPromise answers: the bound, the votes, whether it was promised. -/
def prM (m bal : Int) (bs : List V) : Int := if accOk m bs then promTo m bal else 0
def prB (m : Int) (bs : List V) : List V := if accOk m bs then bs else []
def prO (m bal : Int) (bs : List V) : Bool := accOk m bs && promOk m bal

set_option maxRecDepth 100000 in
set_option maxHeartbeats 800000 in
theorem specPromise (m : Int) (a : Option Addr) (c : Nat) (vs : List VM) (bal : Int) (w : World) (h1 : SlV w a vs) (l1 : VLs vs) (n1 : vs.length ≤ 2 ^ 30) :
    Calls Try.prog 14 #[.agg #[.int .i64 m, .slice a vs.length c], .int .i64 bal] w fun e w' => ∃ lv us, e = .returned (.tuple #[.agg #[.int .i64 (prM m bal (bodies vs)), lv], .bool (prO m bal (bodies vs))]) ∧ OwnC w' w.heap.size w'.heap.size lv us ∧ bodies us = prB m (bodies vs) ∧ Below w.heap.size w w' := by
  have H1 : Hid (SlV w a vs) := h1
  have L1 : Hid (VLs vs) := l1
  clear h1 l1
  obtain ⟨W, hW⟩ : ∃ W, W = (w.alloc (.cells #[.int .i64 m, .slice a vs.length c] 25)).alloc (.cells #[.int .i64 0, .slice none 0 0] 25) := ⟨_, rfl⟩
  have BW : Hid (Below w.heap.size w W) := by show Below _ _ _; rw [hW]; exact ((Below.refl _ _).alloc (Nat.le_refl _) _).alloc (by simp) _
  have PW : Hid (Blk W w.heap.size #[.int .i64 m, .slice a vs.length c] 25) := by show Blk _ _ _ _; rw [hW]; exact (Blk.new _ _ _).alloc _
  have ZW : Hid (Blk W (w.heap.size + 1) #[.int .i64 0, .slice none 0 0] 25) := by show Blk _ _ _ _; rw [hW]; exact Blk.new2 _ _ _ _
  have SW : Hid (W.heap.size = w.heap.size + 2) := by show _ = _; rw [hW]; simp
  have HW : Hid (W = _) := hW
  have CO : Hid _ := specAccOk m a c vs W (H1.out.below BW.out) (by omega) L1.out
  clear hW
  obtain ⟨p0, p1⟩ := PW.out.cells2
  obtain ⟨z0, z1⟩ := ZW.out.cells2
  have fz := ZW.out.frozen
  have E1 : Hid (prM m bal (bodies vs) = if accOk m (bodies vs) then promTo m bal else 0) := rfl
  have E2 : Hid (prB m (bodies vs) = if accOk m (bodies vs) then bodies vs else []) := rfl
  have E3 : Hid (prO m bal (bodies vs) = (accOk m (bodies vs) && promOk m bal)) := rfl
  generalize prM m bal (bodies vs) = M at E1 ⊢
  generalize prB m (bodies vs) = BB at E2 ⊢
  generalize prO m bal (bodies vs) = OO at E3 ⊢
  generalize accOk m (bodies vs) = K at CO E1 E2 E3
  go_enter Try.func14, Try.ntmps14
  go_wp2_with fail
  rw [← HW.out]
  refine Calls.mono CO.out ?_
  rintro e w1 ⟨rfl, b1⟩
  have B1 : Hid (Below W.heap.size W w1) := b1
  have K1 : Hid (Below w.heap.size w w1) := BW.out.trans (b1.mono BW.out.size)
  have P1 : Hid (Blk w1 w.heap.size #[.int .i64 m, .slice a vs.length c] 25) := PW.out.keep b1
  have Z1 : Hid (Blk w1 (w.heap.size + 1) #[.int .i64 0, .slice none 0 0] 25) := ZW.out.keep b1
  have S1 : Hid (w.heap.size + 2 ≤ w1.heap.size) := by show _ ≤ _; have := b1.size; have := SW.out; omega
  clear b1 p0 p1 z0 z1 fz CO
  obtain ⟨p0, p1⟩ := P1.out.cells2
  obtain ⟨z0, z1⟩ := Z1.out.cells2
  have fz := Z1.out.frozen
  cases K with
  | false =>
    go_wp2_with fail
    have zb := (((Z1.out.set 0 (.int .i64 0)).set 1 (.slice none 0 0)).eq (C' := #[.int .i64 0, .slice none 0 0]) (by simp)).cells2
    obtain ⟨y0, y1⟩ := zb
    refine bodyPost_ret (v := .tuple #[.agg #[.int .i64 0, .slice none 0 0], .bool false]) (by simp [results, Try.results14, go_sem, y0, y1]) rfl ?_
    refine ⟨_, [], by rw [E1.out, E3.out]; rfl, ?_, E2.out.symm, (K1.out.setCell (by show w.heap.size ≤ w.heap.size + 1; omega) _).setCell (by show w.heap.size ≤ w.heap.size + 1; omega) _⟩
    exact OwnC.nil _ _ _ _
  | true =>
    go_wp2_with fail
    refine (l6Copy m a c vs w1 (H1.out.below K1.out) L1.out n1).mono ?_
    rintro e w2 ⟨lv, us, rfl, o2, e2, b2⟩
    obtain ⟨la, lc, rfl⟩ := o2.form
    have O2 : Hid (OwnL w2 w1.heap.size (.slice la us.length lc) us) := o2
    have U2 : Hid (bodies us = bodies vs) := e2
    have B2 : Hid (Below w1.heap.size w1 w2) := b2
    clear o2 e2 b2
    go_wp2_with fail
    refine (l6Promise m la us.length lc bal w2).mono ?_
    rintro e w3 ⟨rfl, b3⟩
    have O3 : Hid (OwnL w3 w1.heap.size (.slice la us.length lc) us) := O2.out.keep b3
    have B3 : Hid (Below w1.heap.size w1 w3) := B2.out.trans (b3.mono B2.out.size)
    have Z3 : Hid (Blk w3 (w.heap.size + 1) #[.int .i64 0, .slice none 0 0] 25) := Z1.out.keep B3.out
    have F1 : Hid (M = promTo m bal) := E1.out
    have F3 : Hid (OO = promOk m bal) := E3.out
    clear b3 p0 p1 z0 z1 fz
    generalize promTo m bal = PT at F1 ⊢
    generalize promOk m bal = PO at F3 ⊢
    obtain ⟨z0, z1⟩ := Z3.out.cells2
    have fz := Z3.out.frozen
    go_wp2_with fail
    have zb := (((Z3.out.set 0 (.int .i64 PT)).set 1 (.slice la us.length lc)).eq (C' := #[.int .i64 PT, .slice la us.length lc]) (by simp)).cells2
    obtain ⟨y0, y1⟩ := zb
    refine bodyPost_ret (v := .tuple #[.agg #[.int .i64 PT, .slice la us.length lc], .bool PO]) (by simp [results, Try.results14, go_sem, y0, y1]) rfl ?_
    have on : Only (w.heap.size + 1) w3 ((w3.setCell ⟨w.heap.size + 1, 0, none⟩ (.int .i64 PT)).setCell ⟨w.heap.size + 1, 1, none⟩ (.slice la us.length lc)) := ((Only.refl _ _).setCell _).setCell _
    have s1 := S1.out
    refine ⟨_, us, by rw [F1.out, F3.out], OwnC.ofL ((O3.out.high (Nat.le_of_eq on.size.symm) fun b hb => on.block b (by omega)).low (by omega)), by rw [U2.out]; exact E2.out.symm, K1.out.trans ((B3.out.mono (by omega)).trans (on.below (by omega)))⟩
end Go.Proofs.Ytfifiobcmdmefaa.Own

namespace Go.Proofs.Ytfifiobcmdmefaa.Own
open Go.RowKit
set_option linter.unusedVariables false
set_option linter.unusedSimpArgs false

set_option maxRecDepth 100000 in
set_option maxHeartbeats 1000000 in
theorem implPromise (m : Int) (a : Option Addr) (c : Nat) (vs : List VM) (bal : Int) (w : World) (h1 : SlV w a vs) (l1 : VLs vs) (n1 : vs.length ≤ 2 ^ 30) :
    Calls Try.prog 13 #[.agg #[.int .i64 m, .slice a vs.length c], .int .i64 bal] w fun e w' => ∃ lv us, e = .returned (.tuple #[.agg #[.int .i64 (prM m bal (bodies vs)), lv], .bool (prO m bal (bodies vs))]) ∧ OwnC w' w.heap.size w'.heap.size lv us ∧ bodies us = prB m (bodies vs) ∧ Below w.heap.size w w' := by
  obtain ⟨BD, hBD⟩ : ∃ BD : Array Value, BD = #[.int .i64 m, .slice a vs.length c, .int .i64 bal, .int .i64 0, .bool false, .int .i64 0, .int .i64 0, .slice none 0 0, .slice none 0 0, .int .i64 0, .int .i64 0] := ⟨_, rfl⟩
  have HBD : Hid (BD = _) := hBD
  obtain ⟨W, hW⟩ : ∃ W, W = (w.alloc (.cells #[.int .i64 m, .slice a vs.length c] 25)).alloc (.cells #[.int .i64 0, .slice none 0 0] 25) := ⟨_, rfl⟩
  have BW : Below w.heap.size w W := by rw [hW]; exact ((Below.refl _ _).alloc (Nat.le_refl _) _).alloc (by simp) _
  have PW : Hid (Blk W w.heap.size #[.int .i64 m, .slice a vs.length c] 25) := by show Blk _ _ _ _; rw [hW]; exact (Blk.new _ _ _).alloc _
  have ZW : Hid (Blk W (w.heap.size + 1) #[.int .i64 0, .slice none 0 0] 25) := by show Blk _ _ _ _; rw [hW]; exact Blk.new2 _ _ _ _
  have SW : W.heap.size = w.heap.size + 2 := by rw [hW]; simp
  obtain ⟨Y, hY⟩ : ∃ Y, Y = W.alloc (.cells BD 87) := ⟨_, rfl⟩
  have BY : Below W.heap.size W Y := by rw [hY]; exact (Below.refl _ _).alloc (Nat.le_refl _) _
  have DY : Hid (Blk Y W.heap.size BD 87) := by show Blk _ _ _ _; rw [hY]; exact Blk.new _ _ _
  have SY : Y.heap.size = w.heap.size + 3 := by rw [hY]; simp [SW]
  obtain ⟨X, hX⟩ : ∃ X, X = Y.alloc (.cells #[.func (.func 48) #[.agg BD] #[], .func (.func 49) #[.agg BD] #[]] 64) := ⟨_, rfl⟩
  have BX : Below Y.heap.size Y X := by rw [hX]; exact (Below.refl _ _).alloc (Nat.le_refl _) _
  have RX : Blk X Y.heap.size #[.func (.func 48) #[.agg BD] #[], .func (.func 49) #[.agg BD] #[]] 64 := by rw [hX]; exact Blk.new _ _ _
  have KX : Below w.heap.size w X := (BW.trans (BY.mono (by omega))).trans (BX.mono (by omega))
  have AE : ((List.range 2).all fun i => [isBal bal, decide (m ≤ bal)].getD i false) = (isBal bal && decide (m ≤ bal)) := by
    simp [List.range, List.range.loop, List.getD]
  have CB : Hid (Calls Try.prog 47 #[.agg BD, .slice (some ⟨Y.heap.size, 0, none⟩) 2 2] X fun e w' => BidPost m bal (bodies vs) (accOk m (bodies vs)) (isBal bal && decide (m ≤ bal)) X e w') := by
    show Calls _ _ _ _ _
    have h := bidPromise m a c vs bal 0 false 0 0 none none 0 0 [] [] 0 0 X [48, 49] [isBal bal, decide (m ≤ bal)] Y.heap.size 2 (h1.below KX) l1 n1 RX.lt (by decide)
      (fun i hi => by
        match i, hi with
        | 0, _ => exact .inl rfl
        | 1, _ => exact .inr (.inl rfl))
      (fun i hi => by
        match i, hi with
        | 0, _ => rw [RX.cell, hBD]; rfl
        | 1, _ => rw [RX.cell, hBD]; rfl)
      (fun i hi V hV => by
        match i, hi with
        | 0, _ => exact bidInBallot m a c vs bal 0 false 0 0 none none 0 0 [] [] 0 0 V
        | 1, _ => exact bidKeeps m a c vs bal 0 false 0 0 none none 0 0 [] [] 0 0 V)
    rw [show ([48, 49] : List Nat).length = 2 from rfl, AE] at h
    rw [hBD]
    exact h
  have H3 : Hid (Y.heap.size = w.heap.size + 3 ∧ X.heap.size = w.heap.size + 4) := ⟨SY, by rw [hX]; simp [SY]⟩
  have HK : Hid (Below w.heap.size w X) := KX
  have ZX : Hid (Blk X (w.heap.size + 1) #[.int .i64 0, .slice none 0 0] 25) := (ZW.out.keep BY).keep BX
  have HW : Hid (W = _) := hW
  have HY : Hid (Y = _) := hY
  have HX : Hid (X = _) := hX
  have E1 : Hid (prM m bal (bodies vs) = if accOk m (bodies vs) then if (isBal bal && decide (m ≤ bal)) then bal else m else 0) := rfl
  have E2 : Hid (prB m (bodies vs) = if accOk m (bodies vs) then bodies vs else []) := rfl
  have E3 : Hid (prO m bal (bodies vs) = (accOk m (bodies vs) && (isBal bal && decide (m ≤ bal)))) := rfl
  generalize prM m bal (bodies vs) = M at E1 ⊢
  generalize prB m (bodies vs) = BB at E2 ⊢
  generalize prO m bal (bodies vs) = OO at E3 ⊢
  generalize (isBal bal && decide (m ≤ bal)) = A at CB E1 E3
  generalize accOk m (bodies vs) = K at CB E1 E2 E3
  obtain ⟨p0, p1⟩ := PW.out.cells2
  have SWH : Hid (W.heap.size = w.heap.size + 2) := SW
  clear AE h1 l1 BW SW BY SY BX RX KX hW hY hX
  go_enter Try.func13, Try.ntmps13
  go_upto_region 1 with fail
  rw [← HW.out]
  go_upto_region 2 with fail
  rw [← HBD.out, ← HY.out]
  have hmf : ∀ (fn : Fn) (first cap : Array Value) (w : World), (Instr.makeFunc fn first cap).run Try.prog w = .ok (.func fn first cap) w := fun _ _ _ _ => rfl
  have d0 : Y.cell? ⟨W.heap.size, 0, none⟩ = some (.int .i64 m) := by rw [DY.out.cell, HBD.out]; rfl
  have d1 : Y.cell? ⟨W.heap.size, 1, none⟩ = some (.slice a vs.length c) := by rw [DY.out.cell, HBD.out]; rfl
  have d2 : Y.cell? ⟨W.heap.size, 2, none⟩ = some (.int .i64 bal) := by rw [DY.out.cell, HBD.out]; rfl
  have d3 : Y.cell? ⟨W.heap.size, 3, none⟩ = some (.int .i64 0) := by rw [DY.out.cell, HBD.out]; rfl
  have d4 : Y.cell? ⟨W.heap.size, 4, none⟩ = some (.bool false) := by rw [DY.out.cell, HBD.out]; rfl
  have d5 : Y.cell? ⟨W.heap.size, 5, none⟩ = some (.int .i64 0) := by rw [DY.out.cell, HBD.out]; rfl
  have d6 : Y.cell? ⟨W.heap.size, 6, none⟩ = some (.int .i64 0) := by rw [DY.out.cell, HBD.out]; rfl
  have d7 : Y.cell? ⟨W.heap.size, 7, none⟩ = some (.slice none 0 0) := by rw [DY.out.cell, HBD.out]; rfl
  have d8 : Y.cell? ⟨W.heap.size, 8, none⟩ = some (.slice none 0 0) := by rw [DY.out.cell, HBD.out]; rfl
  have d9 : Y.cell? ⟨W.heap.size, 9, none⟩ = some (.int .i64 0) := by rw [DY.out.cell, HBD.out]; rfl
  have d10 : Y.cell? ⟨W.heap.size, 10, none⟩ = some (.int .i64 0) := by rw [DY.out.cell, HBD.out]; rfl
  clear hBD
  go_wp2_with fail
  rw [← HBD.out, ← HX.out]
  refine Calls.mono CB.out ?_
  rintro e w2 ⟨lv, us, rfl, o2, e2, b2⟩
  obtain ⟨la, lc, rfl⟩ := o2.form
  have O2 : Hid (OwnL w2 X.heap.size (.slice la us.length lc) us) := o2
  have U2 : Hid (bodies us = BB) := e2.trans E2.out.symm
  have K2 : Hid (Below w.heap.size w w2) := HK.out.trans (b2.mono HK.out.size)
  have Z2 : Hid (Blk w2 (w.heap.size + 1) #[.int .i64 0, .slice none 0 0] 25) := ZX.out.keep b2
  have M2 : Hid (M = if K then if A then bal else m else 0) := E1.out
  have O3 : Hid (OO = (K && A)) := E3.out
  clear o2 e2 b2 d0 d1 d2 d3 d4 d5 d6 d7 d8 d9 d10 p0 p1
  generalize (if K then if A then bal else m else 0) = PT at M2 ⊢
  generalize (K && A) = PO at O3 ⊢
  obtain ⟨z0, z1⟩ := Z2.out.cells2
  have fz := Z2.out.frozen
  go_wp2_with fail
  have zb := (((Z2.out.set 0 (.int .i64 PT)).set 1 (.slice la us.length lc)).eq (C' := #[.int .i64 PT, .slice la us.length lc]) (by simp)).cells2
  obtain ⟨y0, y1⟩ := zb
  refine bodyPost_ret (v := .tuple #[.agg #[.int .i64 PT, .slice la us.length lc], .bool PO]) (by simp [results, Try.results13, go_sem, y0, y1]) rfl ?_
  have on : Only (w.heap.size + 1) w2 ((w2.setCell ⟨w.heap.size + 1, 0, none⟩ (.int .i64 PT)).setCell ⟨w.heap.size + 1, 1, none⟩ (.slice la us.length lc)) := ((Only.refl _ _).setCell _).setCell _
  have s1 := H3.out
  exact ⟨_, us, by rw [M2.out, O3.out], OwnC.ofL ((O2.out.high (Nat.le_of_eq on.size.symm) fun b hb => on.block b (by omega)).low (by omega)), U2.out, K2.out.trans (on.below (by omega))⟩
end Go.Proofs.Ytfifiobcmdmefaa.Own

namespace Go.Proofs.Ytfifiobcmdmefaa.Own
open Go.RowKit
set_option linter.unusedVariables false

/-- What came in is of a length that the walks take. -/
def VM0 (vs : List VM) : Prop := ∀ i, i < vs.length → (vs.getD i v0).b.xs.length ≤ maxLen ∧ (vs.getD i v0).b.ys.length ≤ maxLen
def VL0 (vs : List VM) : Prop := ∀ i, i < vs.length → (vs.getD i v0).b.xs.length ≤ 2 ^ 40 ∧ (vs.getD i v0).b.ys.length ≤ 2 ^ 40
theorem VL0.ofSum {vs : List VM} {n : Nat} (h : sumV vs vs.length ≤ n) (hn : n ≤ 2 ^ 40) : VL0 vs := fun i hi => by
  have := sumV_at vs hi
  exact ⟨by omega, by omega⟩
theorem VL0.vms {vs : List VM} (h : VL0 vs) (gs : List (Nat × Nat)) : VL0 (vmsOf gs (bodies vs)) := fun i hi => by
  rw [vmsOf_len] at hi
  rw [vmsOf_at gs _ hi, bodies_getD]
  rw [bodies_len] at hi
  exact h i hi

theorem CopyV.keep {w w' : World} {N b : Nat} {gs : List (Nat × Nat)} {bs : List V} (h : CopyV w b gs bs) (hk : KeepFrom N w w') (hN : N ≤ b) : CopyV w' b gs bs := by
  have hb : w'.heap[b]? = w.heap[b]? := hk.2 b hN
  have e := fun o => World.cell?_of_block (w := w) (w' := w') (a := ⟨b, o, none⟩) hb
  have O : ∀ i, i < bs.length → RunOwn w' (b + 1) (gs.getD i (0, 0)).1 (gs.getD i (0, 0)).2 (bs.getD i (0, e0)).2.xs (bs.getD i (0, e0)).2.ys := fun i hi => (h.own i hi).keep hk (by have := (h.own i hi).1; omega) (by have := (h.own i hi).2.1; omega)
  refine ⟨h.len, by rw [hk.1]; exact h.lt, fun i hi => ?_, O, h.asc⟩
  have c := (h.cell i hi).1
  refine ⟨?_, .inr ⟨_, _, rfl, (O i hi).2.2.2.1⟩, .inr ⟨_, _, rfl, (O i hi).2.2.2.2.1⟩⟩
  rw [e, e, e, e, e, e, e, e]; exact c

theorem vls_of {vs : List VM} (h : VL0 vs) (gs : List (Nat × Nat)) : VLs (vmsOf gs (bodies vs)) := CopyV.vls fun i hi => by rw [bodies_len] at hi; rw [bodies_getD]; exact h i hi
end Go.Proofs.Ytfifiobcmdmefaa.Own

namespace Go.Proofs.Ytfifiobcmdmefaa.Own
open Go.RowKit
set_option linter.unusedVariables false

def PromT (f : FuncId) (m bal : Int) (bs : List V) : Prop := ∀ (V : World) (B T : Nat) (v : Value) (L : List VM), OwnR V B T v L → VLs L → L.length ≤ 2 ^ 30 → bodies L = bs →
    Calls Try.prog f #[.agg #[.int .i64 m, v], .int .i64 bal] V fun e w' => ∃ la lc us, e = .returned (.tuple #[.agg #[.int .i64 (prM m bal bs), .slice la (List.length (α := VM) us) lc], .bool (prO m bal bs)]) ∧ OwnR w' V.heap.size w'.heap.size (.slice la us.length lc) us ∧ bodies us = prB m bs ∧ Below V.heap.size V w'
theorem promS (m bal : Int) (bs : List V) : PromT 14 m bal bs := fun V B T v L h l n hb => by
  obtain ⟨a, c, rfl, s⟩ := h.form
  subst hb
  refine (specPromise m a c L bal V s l n).mono ?_
  rintro e w' ⟨lv, us, rfl, ho, hu, hw⟩
  obtain ⟨la, lc, rfl, _⟩ := ho.1.form
  exact ⟨la, lc, us, rfl, ho.1, hu, hw⟩
theorem promI (m bal : Int) (bs : List V) : PromT 13 m bal bs := fun V B T v L h l n hb => by
  obtain ⟨a, c, rfl, s⟩ := h.form
  subst hb
  refine (implPromise m a c L bal V s l n).mono ?_
  rintro e w' ⟨lv, us, rfl, ho, hu, hw⟩
  obtain ⟨la, lc, rfl, _⟩ := ho.1.form
  exact ⟨la, lc, us, rfl, ho.1, hu, hw⟩
theorem prB_short {n : Nat} {m : Int} {bs : List V} (h : Short n bs) : Short n (prB m bs) := by
  unfold prB
  split
  · exact h
  · intro i hi; simp at hi
theorem prB_len (m : Int) (bs : List V) : (prB m bs).length ≤ 40 := by
  unfold prB
  split
  · rename_i h
    have := (accOk_iff h).2.2.1
    unfold votesOk at this
    simp only [Bool.and_eq_true, decide_eq_true_eq] at this
    exact this.1
  · simp
theorem steps40 {L : List VM} {bs : List V} (h : bodies L = bs) (hl : bs.length ≤ 41) (hs : Short (2 ^ 21) bs) : L.length ≤ 2 ^ 30 ∧ stepsV L L.length ≤ 2 ^ 30 := by
  have hl' : L.length ≤ 41 := by rw [← bodies_len, h]; exact hl
  have hs' : Short (2 ^ 21) (bodies L) := by rw [h]; exact hs
  refine ⟨by omega, ?_⟩
  have := stepsV_le L (6 + 2 ^ 23) (fun i hi => by have := hs'.vm i hi; unfold stepV; omega) L.length (Nat.le_refl _)
  have : L.length * (6 + 2 ^ 23) ≤ 41 * (6 + 2 ^ 23) := Nat.mul_le_mul_right _ hl'
  omega
theorem vl0_short {L : List VM} {bs : List V} (h : bodies L = bs) (hs : Short (2 ^ 21) bs) : VL0 L := fun i hi => by
  have hs' : Short (2 ^ 21) (bodies L) := by rw [h]; exact hs
  have := hs'.vm i hi
  omega
end Go.Proofs.Ytfifiobcmdmefaa.Own

namespace Go.Proofs.Ytfifiobcmdmefaa.Own
open Go.RowKit
set_option linter.unusedVariables false
set_option linter.unusedSimpArgs false

def voM (m bal slot : Int) (x : EB) (bs : List V) : Int := if accOk m bs then (if castOk m bal slot x then bal else m) else 0
def voB (m bal slot : Int) (x : EB) (bs : List V) : List V := if accOk m bs then (if castOk m bal slot x then castB bs slot.toNat (bal, x) else bs) else []
def voO (m bal slot : Int) (x : EB) (bs : List V) : Bool := accOk m bs && castOk m bal slot x
theorem accOk_len {m : Int} {bs : List V} (h : accOk m bs = true) : bs.length ≤ 40 := by
  have := (accOk_iff h).2.2.1
  unfold votesOk at this
  simp only [Bool.and_eq_true, decide_eq_true_eq] at this
  exact this.1
theorem castOk_place {m bal slot : Int} {x : EB} (h : castOk m bal slot x = true) : 0 ≤ slot ∧ slot < 40 := by
  unfold castOk at h
  simp only [Bool.and_eq_true, decide_eq_true_eq] at h
  exact h.2.1
theorem castB_lenV (bs : List V) (s : Nat) (x : V) : (castB bs s x).length = max bs.length (s + 1) := by
  simp [castB]
  omega
theorem castB_at (bs : List V) (s i : Nat) (x : V) : (castB bs s x).getD i (0, e0) = if s = i then x else bs.getD i (0, e0) := by
  unfold castB
  simp only [List.getD_eq_getElem?_getD, List.getElem?_set, List.length_append, List.length_replicate]
  by_cases e : s = i
  · rw [if_pos e, if_pos e, if_pos (by omega)]
    rfl
  · rw [if_neg e, if_neg e]
    by_cases hi : i < bs.length
    · rw [List.getElem?_append_left hi]
    · rw [List.getElem?_append_right (Nat.le_of_not_lt hi), List.getElem?_eq_none (Nat.le_of_not_lt hi), List.getElem?_replicate]
      split <;> rfl
theorem castB_shortV {n : Nat} {bs : List V} {s : Nat} {x : V} (h : Short n bs) (hx : x.2.xs.length ≤ n ∧ x.2.ys.length ≤ n) : Short n (castB bs s x) := fun i hi => by
  rw [castB_at]
  split
  · exact hx
  · exact h.getD i
theorem voB_short {n : Nat} {m bal slot : Int} {x : EB} {bs : List V} (h : Short n bs) (hx : x.xs.length ≤ n ∧ x.ys.length ≤ n) : Short n (voB m bal slot x bs) := by
  unfold voB
  split
  · split
    · exact castB_shortV h hx
    · exact h
  · intro i hi; simp at hi
theorem voB_len (m bal slot : Int) (x : EB) (bs : List V) : (voB m bal slot x bs).length ≤ 40 := by
  unfold voB
  split
  · rename_i h
    have := accOk_len h
    split
    · rename_i h2
      have := castOk_place h2
      rw [castB_lenV]
      omega
    · exact this
  · simp
end Go.Proofs.Ytfifiobcmdmefaa.Own
