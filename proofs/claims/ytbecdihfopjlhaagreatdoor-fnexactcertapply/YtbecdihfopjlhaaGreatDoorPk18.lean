/-
  Own texts, bundled: LedLast, ExecOkS2.
-/
import Derived.Test.YtbecdihfopjlhaaGreatDoorPk17
import Derived.Test.YtbecdihfopjlhaaGreatDoorPk1
import Derived.Test.YtbecdihfopjlhaaGreatDoorPk15
import Derived.Tactics2
import Derived.Deep.Cut
import Derived.Test.YtbecdihfopjlhaaGreatDoorPk13
namespace Go.Proofs.YtbecdihfopjlhaaGreatDoor.Own
open Go.RowKit Go.Maps
set_option linter.unusedVariables false
set_option linter.unusedSimpArgs false

/-- The step of a range over a map, whatever the keys: the key's shape is the prover's to tell. -/
theorem wpList_next_keys {H : Type} {P : Program} (w : World) {ops : Array Oper} {rest : List Oper} {o : Oper} {a : Act} {Q : Exit → Act → World → Prop} (hg : o.guard = none) (it : Operand) (hop : o.op = Op.next it false) (k : TypeId) (K : Keyed P k) (R : Value → Option (DataW H × List MemPlace)) (b r n : Nat) (D : DataW H) (left : Lit → Bool) (cnt : Nat)
    (hit : a.eval it = .pointer (some ⟨r, 0, none⟩)) (h : w.ranges P k R b r n D left cnt)
    (hDone : cnt = 0 → (∀ kl, left kl = false) → wpList P ops Q rest (a.put o.dst (.tuple #[.bool false])) w)
    (hMore : ∀ (key v : Value) (kl : Lit) (y : DataW H × List MemPlace) (w' : World) (cnt' : Nat), keyOf P k key = some kl → left kl = true → R v = some y → w'.ranges P k R b r n D (fun z => left z && !z.sameKey kl) cnt' → cnt' < cnt →
      w.grownBy w' (some r) → w'.heap.size = w.heap.size → (Instr.entry (.pointer (some ⟨r, 0, none⟩))).run P w' = .ok (.tuple #[key, v]) w' → wpList P ops Q rest (a.put o.dst (.tuple #[.bool true, key, v])) w') :
    wpList P ops Q (o :: rest) a w := by
  refine wpList_plain hg fun K' hK' => ?_
  unfold Oper.wp
  rcases h.next K o.type with ⟨h0, hl, hrun⟩ | ⟨key, v, kl, y, w', cnt', hkey, hlk, hv, hat, hrun, hrg, hlt, hgr, hsz, hen⟩
  · simp [execOp, hop, hit, hrun, Result.andThen]
    exact hK' _ _ (hDone h0 hl)
  · simp [execOp, hop, hit, hrun, Result.andThen]
    exact hK' _ _ (hMore key v kl y w' cnt' hkey hlk hv hrg hlt hgr hsz hen)

/-- The last request of a node, and whether it has one. -/
def lastReq (m : Nat → Option T3) (j : Nat) : P2 := match m j with
  | some t => ((j : Int), t.1)
  | none => (0, 0)

set_option maxRecDepth 100000 in
set_option maxHeartbeats 4000000 in
theorem ledLast (b bm N : Nat) (m : Nat → Option T3) (j : Nat) (w : World) (hm : okM m) (hj : j < 3) (hb : w.cell? ⟨b, 9, none⟩ = some (.map (some bm))) (hlt : b < w.heap.size) (h : MapM w bm N m) :
    Calls Tryz.prog 81 #[.pointer (some ⟨b, 0, none⟩), .int .i64 (j : Int)] w fun e w' => e = .returned (.tuple #[.agg #[.int .i64 (lastReq m j).1, .int .i64 (lastReq m j).2], .bool (m j).isSome]) ∧ Below w.heap.size w w' := by
  obtain ⟨W, hW⟩ : ∃ W, W = w.alloc (.cells #[.int .i64 0, .int .i64 0] 46) := ⟨_, rfl⟩
  have BW : Hid (Below w.heap.size w W) := by show Below _ _ _; rw [hW]; exact (Below.refl _ _).alloc (Nat.le_refl _) _
  have ZW : Hid (Blk W w.heap.size #[.int .i64 0, .int .i64 0] 46) := by show Blk _ _ _ _; rw [hW]; exact Blk.new _ _ _
  have SW : Hid (W.heap.size = w.heap.size + 1) := by show _ = _; rw [hW]; simp
  have MW : MapM W bm N m := h.block (BW.out.block bm h.lt)
  have cW : W.cell? ⟨b, 9, none⟩ = some (.map (some bm)) := by rw [BW.out.cell (p := ⟨b, 9, none⟩) hlt]; exact hb
  have hbm : Hid (bm < w.heap.size) := h.lt
  obtain ⟨D, hown, r1, r2⟩ := MW
  have HR1 : Hid (∀ kl, Maps.has D kl = true ↔ ∃ j t, j < 3 ∧ m j = some t ∧ kl = kLit (j : Int) t.1) := r1
  have HM : Hid (okM m) := hm
  have HW : Hid (W = _) := hW
  clear hW h hb r1 r2 hm
  go_enter Tryz.func81, Tryz.ntmps81
  go_upto_region 1 with fail
  rw [← HW.out]
  go_wp2_with (first
    | (at_range; refine wpList_range_own _ rfl _ 134 rfl 46 139 reqKeys Tryz.underlying134 endR bm N D rfl hown ?_; intro w0 hrg0 hg0 hs0)
    | go_in)
  go_frame
  have FIN : Hid (∀ (w1 : World) (p q : Int) (ok : Bool), p = (lastReq m j).1 → q = (lastReq m j).2 → ok = (m j).isSome → Blk w1 w.heap.size #[.int .i64 p, .int .i64 q] 46 → Below w.heap.size w w1 → Below w.heap.size w w1) := fun _ _ _ _ _ _ _ _ h => h
  go_loopw [6] (fun _ wr => ∃ (left : Lit → Bool) (cnt : Nat), wr.ranges Tryz.prog 46 endR bm W.heap.size N D left cnt ∧ Hid ((∀ kl, left kl = true → Maps.has D kl = true) ∧ (∀ t, m j = some t → left (kLit (j : Int) t.1) = true) ∧ Below w.heap.size w wr ∧ Blk wr w.heap.size #[.int .i64 0, .int .i64 0] 46)) (fun _ wr => wr.rangeLeft bm W.heap.size)
  case atStart =>
    refine ⟨_, _, hrg0, fun kl h => h, fun t ht => (HR1.out _).2 ⟨j, t, hj, ht, rfl⟩, BW.out.trans ?_, ?_⟩
    · exact (⟨hg0.os, hg0.tape, hg0.output, hg0.size, fun k hk => hg0.block k hk (by simp)⟩ : Below W.heap.size W w0).mono BW.out.size
    · show w0.heap[w.heap.size]? = _
      rw [hg0.block _ ZW.out.lt (by simp)]; exact ZW.out
  case round =>
    obtain ⟨left, cnt, hrg, IV⟩ := hrel
    clear hrg0 hg0 hs0 hown cW
    have hrg' := hrg
    go_wp2_with (first
      | (at_next; refine wpList_next_keys _ rfl _ rfl 46 reqKeys endR bm W.heap.size N D left cnt rfl hrg ?_ ?_)
      | go_in)
    · intro hc0 hl0
      have NO : m j = none := by
        cases e : m j with
        | none => rfl
        | some t => have := IV.out.2.1 t e; rw [hl0] at this; cases this
      have LR : Hid (lastReq m j = (0, 0)) := by show _ = _; unfold lastReq; rw [NO]
      have LS : Hid ((m j).isSome = false) := by show _ = _; rw [NO]; rfl
      obtain ⟨z0, z1⟩ := IV.out.2.2.2.cells2
      have fz := IV.out.2.2.2.frozen
      have BR : Hid (Below w.heap.size w wr) := IV.out.2.2.1
      clear NO hrg hrg' hc0 hl0 IV
      go_wp2
      refine bodyPost_ret (v := .tuple #[.agg #[.int .i64 0, .int .i64 0], .bool false]) (by simp [results, Tryz.results81, go_sem, z0, z1]) rfl ?_
      rw [LR.out, LS.out]
      exact ⟨rfl, (BR.out.setCell (Nat.le_refl _) _).setCell (Nat.le_refl _) _⟩
    · intro key v kl yd yp w1 cnt1 hkey hlk hv hrg1 hlt1 hg1 hs1 hen
      obtain ⟨j', t', hj', ht', rfl⟩ := (HR1.out kl).1 (IV.out.1 kl hlk)
      have wt := HM.out j' t' hj' ht'
      obtain rfl : key = .agg #[.int .i64 (j' : Int), .int .i64 t'.1] := reqKeys.inj hkey (keyReq (wfWho hj') (wfSeq wt))
      obtain ⟨c, d, rfl, _⟩ := endR_inv hv
      have hne1 : W.heap.size ≠ w.heap.size := by have := SW.out; omega
      have Z1 : Blk w1 w.heap.size #[.int .i64 0, .int .i64 0] 46 := by
        show w1.heap[w.heap.size]? = _
        rw [hg1.block _ IV.out.2.2.2.lt (fun e => by injection e with e; exact hne1 e.symm)]; exact IV.out.2.2.2
      have B1 : Hid (Below w.heap.size w w1) := IV.out.2.2.1.grown hg1 (Nat.le_trans IV.out.2.2.1.size (Nat.le_refl _)) (fun k e => by injection e with e; have := SW.out; omega)
      by_cases e : j' = j
      · subst e
        have LR : Hid (lastReq m j' = ((j' : Int), t'.1)) := by show _ = _; unfold lastReq; rw [ht']
        have LS : Hid ((m j').isSome = true) := by show _ = _; rw [ht']; rfl
        have ejj : (((j' : Int)) == (j' : Int)) = true := by simp
        obtain ⟨z0, z1⟩ := Z1.cells2
        have fz := Z1.frozen
        have zl := Z1.lt
        have zn : ¬ w.heap.size = w1.heap.size := by omega
        have zn' : ¬ w1.heap.size = w.heap.size := by omega
        have HZZ : Hid (Blk (((w1.setCell ⟨w.heap.size, 0, none⟩ (.int .i64 (j' : Int))).setCell ⟨w.heap.size, 1, none⟩ (.int .i64 t'.1)).alloc (.cells #[.int .i64 (j' : Int), .int .i64 t'.1] 46)) w.heap.size #[.int .i64 (j' : Int), .int .i64 t'.1] 46) := ((Z1.set 0 (.int .i64 (j' : Int))).set 1 (.int .i64 t'.1)).alloc _
        clear hkey hlk hv hrg1 hlt1 hg1 hs1 IV hrg hrg' Z1 wt ht'
        go_wp2
        obtain ⟨c0, c1⟩ := HZZ.out.cells2
        refine bodyPost_ret (v := .tuple #[.agg #[.int .i64 (j' : Int), .int .i64 t'.1], .bool true]) (by simp [results, Tryz.results81, go_sem, c0, c1]) rfl ?_
        rw [LR.out, LS.out]
        exact ⟨rfl, (((B1.out.setCell (Nat.le_refl _) _).setCell (Nat.le_refl _) _).alloc (by have := B1.out.size; simp [World.setCell]; omega) _)⟩
      · have ejj : (((j' : Int)) == (j : Int)) = false := by simp; omega
        have NXT : Hid ((∀ kl, (left kl && !kl.sameKey (kLit (j' : Int) t'.1)) = true → Maps.has D kl = true) ∧ (∀ t, m j = some t → (left (kLit (j : Int) t.1) && !(kLit (j : Int) t.1).sameKey (kLit (j' : Int) t'.1)) = true)) := by
          refine ⟨fun kl h => IV.out.1 kl (by simp only [Bool.and_eq_true] at h; exact h.1), fun t ht => ?_⟩
          rw [IV.out.2.1 t ht, sameKey_ne (fun e' => e (kLit_who HM.out hj hj' ht ht' e').1.symm)]
          rfl
        have R1 : Hid (w1.ranges Tryz.prog 46 endR bm W.heap.size N D (fun z => left z && !z.sameKey (kLit (j' : Int) t'.1)) cnt1) := hrg1
        have LT : Hid (cnt1 < cnt) := hlt1
        have R0 : Hid (wr.ranges Tryz.prog 46 endR bm W.heap.size N D left cnt) := hrg'
        have HZ1 : Hid (Blk w1 w.heap.size #[.int .i64 0, .int .i64 0] 46) := Z1
        clear hkey hlk hv hrg1 hlt1 hg1 hs1 hrg hrg' IV Z1
        go_wp2
        go_roundw
        case rel => exact ⟨_, cnt1, R1.out.alloc _, NXT.out.1, NXT.out.2, B1.out.alloc B1.out.size _, HZ1.out.keep (below_new _ _)⟩
        case measure => rw [(R1.out.alloc _).left_eq, R0.out.left_eq]; exact LT.out
end Go.Proofs.YtbecdihfopjlhaaGreatDoor.Own

namespace Go.Proofs.YtbecdihfopjlhaaGreatDoor.Own
open Go.RowKit
set_option linter.unusedVariables false
set_option linter.unusedSimpArgs false

theorem BoxAt.pre {w : World} {b off : Nat} {xs : List P2} (h : BoxAt w b off xs) (n : Nat) (hn : n ≤ xs.length) : BoxAt w b off (xs.take n) := by
  refine ⟨h.1, fun i hi => ?_⟩
  rw [List.length_take] at hi
  have e : (xs.take n).getD i (0, 0) = xs.getD i (0, 0) := by simp [List.getD, show i < n by omega]
  rw [e]; exact h.2 i (by omega)

/-- The first test of spec.ExecOk. -/
theorem endOk_true {k v : Int} {nr np : Nat} (h : endOk k v nr np = true) : (k = 0 ∧ numOk v = true) ∨ ((k = 1 ∨ k = 2) ∧ v = 0 ∧ np = 0) ∨ (k = 3 ∧ v = 0 ∧ np = 0 ∧ nr = 0) := by
  unfold endOk at h
  split at h
  · exact .inl ⟨by assumption, h⟩
  split at h
  · simp at h; exact .inr (.inl ⟨by assumption, h.1, h.2⟩)
  split at h
  · simp at h; exact .inr (.inr ⟨by assumption, h.1.1, h.1.2, h.2⟩)
  · cases h
theorem endOk_falls {k v : Int} {nr np : Nat} (h : endOk k v nr np = false) : k < 0 ∨ 3 < k ∨ (0 ≤ k ∧ k ≤ 3 ∧ numOk v = false) ∨ (1 ≤ k ∧ k ≤ 3 ∧ numOk v = true ∧ v ≠ 0) ∨ (1 ≤ k ∧ k ≤ 3 ∧ v = 0 ∧ 0 < np) ∨ (k = 3 ∧ v = 0 ∧ np = 0 ∧ 0 < nr) := by
  by_cases h1 : k < 0
  · exact .inl h1
  by_cases h2 : 3 < k
  · exact .inr (.inl h2)
  cases hn : numOk v with
  | false => exact .inr (.inr (.inl ⟨by omega, by omega, rfl⟩))
  | true =>
    by_cases h0 : k = 0
    · subst h0; rw [endOk_0, hn] at h; cases h
    by_cases hv : v = 0
    · subst hv
      by_cases hp : 0 < np
      · exact .inr (.inr (.inr (.inr (.inl ⟨by omega, by omega, rfl, hp⟩))))
      by_cases h3 : k = 3
      · subst h3
        by_cases hr : 0 < nr
        · exact .inr (.inr (.inr (.inr (.inr ⟨rfl, rfl, by omega, hr⟩))))
        · rw [endOk_3] at h; simp at h; omega
      · have : k = 1 ∨ k = 2 := by omega
        rcases this with rfl | rfl
        · rw [endOk_1] at h; simp at h; omega
        · rw [endOk_2] at h; simp at h; omega
    · exact .inr (.inr (.inr (.inl ⟨by omega, by omega, rfl, hv⟩)))

set_option maxRecDepth 100000 in
set_option maxHeartbeats 2000000 in
theorem specExecOk_no (a1 a2 : Option Addr) (n1 c1 n2 c2 : Nat) (v k : Int) (w : World) (h : endOk k v n1 n2 = false) :
    Calls Tryz.prog 86 #[.agg #[.slice a1 n1 c1, .slice a2 n2 c2, .int .i64 v, .int .i64 k]] w fun e w' => e = .returned (.bool false) ∧ Below w.heap.size w w' := by
  have B0 : ∀ o, Hid (Below w.heap.size w (w.alloc o)) := fun o => (Below.refl _ _).alloc (Nat.le_refl _) _
  rcases endOk_falls h with h | h | ⟨h1, h2, h3⟩ | ⟨h1, h2, h3, h4⟩ | ⟨h1, h2, rfl, h4⟩ | ⟨rfl, rfl, rfl, h4⟩
  · go_enter Tryz.func86, Tryz.ntmps86
    go_wp2
    go_ret
    exact ⟨rfl, (B0 _).out⟩
  · have h' : ¬ k < 0 := by omega
    go_enter Tryz.func86, Tryz.ntmps86
    go_wp2
    go_ret
    exact ⟨rfl, (B0 _).out⟩
  · have H3 : Hid (numOk v = false) := h3
    clear h3
    go_enter Tryz.func86, Tryz.ntmps86
    go_wp2_with fail
    refine (l1Num v _).mono ?_
    rintro e w1 ⟨rfl, rfl⟩
    rw [H3.out]
    go_wp2
    go_ret
    exact ⟨rfl, (B0 _).out⟩
  · have H3 : Hid (numOk v = true) := h3
    have e0 : (k != 0) = true := by simp; omega
    have e1 : (v != 0) = true := by simpa using h4
    clear h3 h4
    go_enter Tryz.func86, Tryz.ntmps86
    go_wp2_with fail
    refine (l1Num v _).mono ?_
    rintro e w1 ⟨rfl, rfl⟩
    rw [H3.out]
    go_wp2
    go_ret
    exact ⟨rfl, (B0 _).out⟩
  · have e0 : (k != 0) = true := by simp; omega
    have e1 : decide ((0 : Int) < (n2 : Int)) = true := by simp; omega
    go_enter Tryz.func86, Tryz.ntmps86
    go_wp2_with fail
    refine (l1Num 0 _).mono ?_
    rintro e w1 ⟨rfl, rfl⟩
    rw [show numOk 0 = true from rfl]
    go_wp2
    go_ret
    exact ⟨rfl, (B0 _).out⟩
  · have e1 : decide ((0 : Int) < (n1 : Int)) = true := by simp; omega
    go_enter Tryz.func86, Tryz.ntmps86
    go_wp2_with fail
    refine (l1Num 0 _).mono ?_
    rintro e w1 ⟨rfl, rfl⟩
    rw [show numOk 0 = true from rfl]
    go_wp2
    go_ret
    exact ⟨rfl, (B0 _).out⟩
end Go.Proofs.YtbecdihfopjlhaaGreatDoor.Own
