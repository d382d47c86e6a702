/-
  Own texts, bundled: RunLoad, RunPut, RunDo, RunAll, RunTold, RunCatch, Form.
-/
import Derived.Test.YtiibonnchmphcaaPk6
import Derived.Deep.RegionHeld
import Derived.Deep.RegionLaw
import Derived.Deep.AppendLies
import Derived.OwnWalk
import Derived.Recover
import Derived.Laws.Pointers
import Derived.Test.YtiibonnchmphcaaPk1
namespace Go.Proofs.Ytiibonnchmphcaa.Own
open Go.RowKit
set_option linter.unusedVariables false
set_option linter.unusedSimpArgs false

set_option maxRecDepth 100000 in
set_option maxHeartbeats 4000000 in
theorem loadC (B nb bm : Nat) (bs : List P2) (k N : Nat) (s : RunSt) (rv ov : Value) (kd pn : Int) (na nb' : Nat) (w : World) (h : Now B nb bm w bs k N s rv ov) (hB : B ≤ w.heap.size) (ha : na < 4) (hb : nb' < 4) (lx : s.reads.length ≤ 1000) :
    Calls Try.prog 133 #[.pointer (some ⟨nb, 0, none⟩), .agg #[.int .i64 kd, .int .i64 na, .int .i64 nb', .int .i64 pn]] w fun e w' => SetPost B nb bm bs k N { s with reads := lookR bs s.reads s.puts nb' } na (inBox bs s.puts nb') w e w' := by
  obtain ⟨X, hX⟩ : ∃ X, X = w.alloc (.cells #[.int .i64 kd, .int .i64 na, .int .i64 nb', .int .i64 pn] 53) := ⟨_, rfl⟩
  have gX : X.heap[w.heap.size]? = some (.cells #[.int .i64 kd, .int .i64 na, .int .i64 nb', .int .i64 pn] 53 (0, 0)) := by rw [hX]; exact heap_new _ _
  have BX : Hid (Below w.heap.size w X) := by show Below _ _ _; rw [hX]; exact below_new _ _
  have HSX : Hid (X.heap.size = w.heap.size + 1) := by show _ = _; rw [hX]; simp
  have HX : Hid (X = _) := hX
  have HN : Hid (Now B nb bm X bs k N s rv ov) := h.below BX.out
  have HI : Hid (X.cell? ⟨w.heap.size, 1, none⟩ = some (.int .i64 na) ∧ X.cell? ⟨w.heap.size, 2, none⟩ = some (.int .i64 nb')) := ⟨(cell_heap gX 1).trans rfl, (cell_heap gX 2).trans rfl⟩
  have hBX : B ≤ X.heap.size := by have := BX.out.size; omega
  have KX : Hid (Kq B [nb, bm] w X) := (Turned.ofBelow (L := []) BX.out).kq hB (by simp)
  have hlt := h.lt
  have LK : Hid (∀ u, Turned [] X u → Calls Try.prog 140 #[.pointer (some ⟨nb, 0, none⟩), .int .i64 nb'] u fun e w' => e = .returned (.int .i64 (inBox bs s.puts nb')) ∧ (w'.cell? ⟨w.heap.size, 1, none⟩ = some (.int .i64 na) ∧ w'.cell? ⟨w.heap.size, 2, none⟩ = some (.int .i64 nb')) ∧ Kq B [nb, bm] X w' ∧ NowE B nb bm w' bs k N { s with reads := lookR bs s.reads s.puts nb' }) := by
    intro u hu
    have h0 := HN.out.turned hu (by simp) (by simp) (by simp) (by simp)
    refine (lookC B nb bm bs k N s rv ov nb' u h0 (Nat.le_trans hBX hu.size) hb lx).mono ?_
    rintro e w' ⟨rfl, ⟨k1, t1⟩, hn⟩
    have e1 : w'.heap[w.heap.size]? = X.heap[w.heap.size]? := by
      refine (t1.block _ (by have := hu.size; have := HSX.out; omega) ?_).trans (hu.block _ (by have := HSX.out; omega) (by simp))
      simp only [List.mem_cons, Option.mem_toList, not_or]
      refine ⟨by omega, fun e => ?_⟩
      have := (World.ownsRow.lt h.reads _ e).2
      omega
    exact ⟨rfl, ⟨(World.cell?_of_block (w := X) (a := ⟨w.heap.size, 1, none⟩) e1).trans HI.out.1, (World.cell?_of_block (w := X) (a := ⟨w.heap.size, 2, none⟩) e1).trans HI.out.2⟩, Kq.trans (hu.kq hBX (by simp)) k1, hn⟩
  clear hX gX h
  generalize inBox bs s.puts nb' = iv at LK ⊢
  generalize { s with reads := lookR bs s.reads s.puts nb' } = s1 at LK ⊢
  have HI1 := HI.out.1
  have HI2 := HI.out.2
  go_enter Try.func133, Try.ntmps133
  go_upto_region 1 with fail
  rw [← HX.out]
  refine wp_region_held_drew (S := (fun w' : World => w'.cell? ⟨w.heap.size, 1, none⟩ = some (.int .i64 na) ∧ w'.cell? ⟨w.heap.size, 2, none⟩ = some (.int .i64 nb'))) (by kernel_rfl) ⟨HI1, HI2⟩ (fun hHeld => ?_)
  refine wpAnyH_take (i := 0) (v := ?v0) rfl (by kernel_rfl) (by kernel_rfl) (by kernel_rfl) (fun _ _ _ h => h) (Or.inl ⟨by rfl, ?y0⟩) (by assumption) ?r0
  case y0 =>
    intro w' hSw
    try dsimp only at hSw
    go_simp
    try with_reducible rfl
  try simp only [Act.put, List.setIfInBounds_toArray, List.set_cons_zero, List.set_cons_succ]
  refine wpAnyH_take (i := 1) (v := ?v1) rfl (by kernel_rfl) (by kernel_rfl) (by kernel_rfl) (fun _ _ _ h => h) (Or.inl ⟨by rfl, ?y1⟩) (by assumption) ?r1
  case y1 =>
    intro w' hSw
    try dsimp only at hSw
    go_simp
    try with_reducible rfl
  try simp only [Act.put, List.setIfInBounds_toArray, List.set_cons_zero, List.set_cons_succ]
  refine wpAnyH_take (i := 2) (v := ?v2) rfl (by kernel_rfl) (by kernel_rfl) (by kernel_rfl) (fun _ _ _ h => h) (Or.inl ⟨by rfl, ?y2⟩) (by assumption) ?r2
  case y2 =>
    intro w' hSw
    try dsimp only at hSw
    go_simp
    try with_reducible rfl
  try simp only [Act.put, List.setIfInBounds_toArray, List.set_cons_zero, List.set_cons_succ]
  refine wpAnyH_take (i := 3) (v := ?v3) rfl (by kernel_rfl) (by kernel_rfl) (by kernel_rfl) (fun _ _ _ h => h) (Or.inl ⟨by rfl, ?y3⟩) (by assumption) ?r3
  case y3 =>
    intro w' hSw
    try dsimp only at hSw
    go_simp
    try with_reducible rfl
  try simp only [Act.put, List.setIfInBounds_toArray, List.set_cons_zero, List.set_cons_succ]
  refine wpAnyH_take (i := 4) (v := ?v4) rfl (by kernel_rfl) (by kernel_rfl) (by kernel_rfl) (fun _ _ _ h => h) (Or.inl ⟨by rfl, ?y4⟩) (by assumption) ?r4
  case y4 =>
    intro w' hSw
    try dsimp only at hSw
    go_simp
    try with_reducible rfl
  try simp only [Act.put, List.setIfInBounds_toArray, List.set_cons_zero, List.set_cons_succ]
  refine wpAnyH_take (i := 5) (v := ?v5) rfl (by kernel_rfl) (by kernel_rfl) (by kernel_rfl) (fun _ _ _ h => h) (Or.inl ⟨by rfl, ?y5⟩) (by assumption) ?r5
  case y5 =>
    intro w' hSw
    try dsimp only at hSw
    go_simp
    try with_reducible rfl
  try simp only [Act.put, List.setIfInBounds_toArray, List.set_cons_zero, List.set_cons_succ]
  refine wpAnyH_ready (rs := [6]) (by kernel_rfl) (by simp) ?_
  refine AllReadyH.cons rfl (fun K hK => ?_) AllReadyH.nil
  go_simp
  refine Calls.mono (LK.out _ (Turned.refl _ _).drew) ?_
  rintro e w1 ⟨rfl, hI, K1, rv1, ov1, hn1⟩
  have KW : Hid (Kq B [nb, bm] w w1) := KX.out.trans K1
  have hltw : w.heap.size < w1.heap.size := by have := K1.size; have := HSX.out; omega
  have SET : Hid (Calls Try.prog 135 #[.pointer (some ⟨nb, 0, none⟩), .int .i64 na, .int .i64 iv] w1 fun e w' => SetPost B nb bm bs k N s1 na iv w e w' ∧ (w'.cell? ⟨w.heap.size, 1, none⟩ = some (.int .i64 na) ∧ w'.cell? ⟨w.heap.size, 2, none⟩ = some (.int .i64 nb'))) := by
    refine (nowSet B nb bm bs k N s1 rv1 ov1 na _ w1 hn1 (Nat.le_trans hBX K1.size) ha).mono ?_
    rintro e w2 ⟨⟨k2, r2⟩, t2⟩
    have e1 : w2.heap[w.heap.size]? = w1.heap[w.heap.size]? := t2.block _ hltw (by simp; omega)
    exact ⟨⟨KW.out.trans k2, r2⟩, (World.cell?_of_block (w := w1) (a := ⟨w.heap.size, 1, none⟩) e1).trans hI.1, (World.cell?_of_block (w := w1) (a := ⟨w.heap.size, 2, none⟩) e1).trans hI.2⟩
  clear K1 hn1
  refine hK.out _ _ hI (fun hHeld1 => ?_)
  clear hK K hHeld hHeld1 hI
  refine wpAnyH_ready (rs := [7]) (by kernel_rfl) (by simp) ?_
  refine AllReadyH.cons rfl (fun K hK => ?_) AllReadyH.nil
  go_simp
  refine Calls.mono SET.out ?_
  rintro e w2 ⟨⟨K2, hc⟩, hI2⟩
  rcases hc with ⟨hv, rfl, hN⟩ | ⟨hv, rfl, hN⟩
  · have F : Hid (SetPost B nb bm bs k N s1 na iv w (.returned (.tuple #[])) w2) := ⟨K2, .inl ⟨hv, rfl, hN⟩⟩
    clear K2 hv hN
    refine hK.out _ _ hI2 (fun _ => ?_)
    clear hK K hI2
    refine wpAnyH_done (by kernel_rfl) ?_ _
    go_wp2_with fail
    go_end0
    exact F.out
  · have F : Hid (SetPost B nb bm bs k N s1 na iv w (thrown 2) w2) := ⟨K2, .inr ⟨hv, rfl, hN⟩⟩
    exact ⟨rfl, F.out⟩
end Go.Proofs.Ytiibonnchmphcaa.Own

namespace Go.Proofs.Ytiibonnchmphcaa.Own
open Go.RowKit
set_option linter.unusedVariables false
set_option linter.unusedSimpArgs false

theorem infoIntR : (Try.prog.info? 3).map (fun i => (i.zero, i.size, i.bytes)) = some (some (.int .i64 0), 1, 8) := by kernel_rfl

/-- Something has been put. -/
theorem Now.put {B nb bm : Nat} {w V w4 : World} {bs : List P2} {k N : Nat} {s : RunSt} {rv ov ov' : Value} {j : Nat} {n : Int} (h : Now B nb bm w bs k N s rv ov) (hB : B ≤ w.heap.size)
    (tV : Turned (nb :: ov.ownBlock.toList) w V) (cV : ∀ o, o ≠ 19 → V.cell? ⟨nb, o, none⟩ = w.cell? ⟨nb, o, none⟩) (c19 : V.cell? ⟨nb, 19, none⟩ = some ov') (fV : ∀ o, V.frozen? ⟨nb, o, none⟩ = false)
    (oV : OwnI V B ov' ((putP s.puts j n).map Prod.fst)) (hnew : ∀ g, ov'.ownBlock = some g → ov.ownBlock = some g ∨ w.heap.size ≤ g) (t4 : V.mapTurned w4 bm) (m4 : MapP w4 bm (N + 1) (putP s.puts j n)) :
    Now B nb bm w4 bs k (N + 1) { s with puts := putP s.puts j n } rv ov' ∧ Kq B [nb, bm] w w4 := by
  obtain ⟨o1, o2⟩ := h.own
  obtain ⟨l1, l2, l3⟩ := h.lt
  have t5 : Turned [bm] V w4 := mapTurned.turned t4
  have hnbV : nb < V.heap.size := Nat.lt_of_lt_of_le h.boxes.1 tV.size
  have b5 : w4.heap[nb]? = V.heap[nb]? := t5.block nb hnbV (by simp; omega)
  have e5 : ∀ o, w4.cell? ⟨nb, o, none⟩ = V.cell? ⟨nb, o, none⟩ := fun o => World.cell?_of_block (w := V) (a := ⟨nb, o, none⟩) b5
  have ek : ∀ o, o ≠ 19 → w4.cell? ⟨nb, o, none⟩ = w.cell? ⟨nb, o, none⟩ := fun o ho => (e5 o).trans (cV o ho)
  have tw : Turned (bm :: nb :: ov.ownBlock.toList) w w4 := (tV.mono (fun x hx => List.mem_cons_of_mem _ hx)).trans (t5.mono (by simp))
  have hs4 : nb < w4.heap.size := Nat.lt_of_lt_of_le hnbV t5.size
  have hov' : ∀ g, ov'.ownBlock = some g → B ≤ g := fun g e => by
    rcases hnew g e with h' | h'
    · exact (o2 g h').1
    · omega
  refine ⟨⟨⟨hs4, fun i hi => ?_⟩, h.len, ⟨hs4, fun i hi => ?_⟩, h.four, ?_, fun i hi => ?_, ?_, ?_, ?_, fun o => ?_, ?_, ?_, m4, ?_, h.lt⟩, ?_⟩
  · have hi' := hi
    rw [h.len] at hi'
    rw [ek _ (by omega), ek _ (by omega)]; exact h.boxes.2 i hi
  · have hi' : i < s.regs.length := hi
    have := h.four
    rw [ek _ (by omega)]; exact h.regs.2 i hi'
  · rw [ek _ (by omega)]; exact h.next
  · rw [ek _ (by omega)]; exact h.looked i hi
  · rw [ek _ (by omega)]; exact h.rdc
  · rw [ek _ (by omega)]; exact h.mpc
  · rw [e5]; exact c19
  · rw [World.frozen?_of_block (w := V) (a := ⟨nb, o, none⟩) b5]; exact fV o
  · refine h.reads.turned tw (fun g e => ?_)
    have := o1 g e
    simp only [List.mem_cons, Option.mem_toList, not_or]
    refine ⟨by omega, by omega, fun e' => ?_⟩
    rcases h.apart with h' | h'
    · rw [h'] at e; cases e
    · exact h' (by rw [e, e'])
  · exact oV.turned t5 (fun g e => by have := hov' g e; simp; omega)
  · cases hr : rv.ownBlock with
    | none => exact .inl rfl
    | some g =>
      refine .inr fun e => ?_
      rcases hnew g e.symm with h' | h'
      · rcases h.apart with h'' | h''
        · rw [h''] at hr; cases hr
        · exact h'' (by rw [hr, h'])
      · have := o1 g hr; omega
  · exact tw.kq hB (fun x hx => by
      simp only [List.mem_cons, Option.mem_toList] at hx
      rcases hx with rfl | rfl | hx
      · exact .inl (by simp)
      · exact .inl (by simp)
      · exact .inr (o2 x hx).1)

set_option maxRecDepth 100000 in
set_option maxHeartbeats 4000000 in
theorem putC (B nb bm : Nat) (bs : List P2) (k N : Nat) (s : RunSt) (rv ov : Value) (kd pn : Int) (j nb' : Nat) (w : World) (h : Now B nb bm w bs k N s rv ov) (hB : B ≤ w.heap.size) (hj : j < 4) (hb : nb' < 4) (lx : s.puts.length ≤ 1000) (hN : N ≤ 1000) (hnum : numOk (s.regs.getD nb' 0) = true) :
    Calls Try.prog 134 #[.pointer (some ⟨nb, 0, none⟩), .agg #[.int .i64 kd, .int .i64 j, .int .i64 nb', .int .i64 pn]] w fun e w' => e = .returned (.tuple #[]) ∧ Kq B [nb, bm] w w' ∧ NowE B nb bm w' bs k (N + 1) { s with puts := putP s.puts j (s.regs.getD nb' 0) } := by
  obtain ⟨X, hX⟩ : ∃ X, X = w.alloc (.cells #[.int .i64 kd, .int .i64 j, .int .i64 nb', .int .i64 pn] 53) := ⟨_, rfl⟩
  have gX : X.heap[w.heap.size]? = some (.cells #[.int .i64 kd, .int .i64 j, .int .i64 nb', .int .i64 pn] 53 (0, 0)) := by rw [hX]; exact heap_new _ _
  have BX : Hid (Below w.heap.size w X) := by show Below _ _ _; rw [hX]; exact below_new _ _
  have HSX : Hid (X.heap.size = w.heap.size + 1) := by show _ = _; rw [hX]; simp
  have HX : Hid (X = _) := hX
  have HN : Hid (Now B nb bm X bs k N s rv ov) := h.below BX.out
  have GX : Hid (X.heap[w.heap.size]? = some (.cells #[.int .i64 kd, .int .i64 j, .int .i64 nb', .int .i64 pn] 53 (0, 0))) := gX
  have v1 : X.cell? ⟨w.heap.size, 1, none⟩ = some (.int .i64 j) := (cell_heap gX 1).trans rfl
  have hBX : B ≤ X.heap.size := by have := BX.out.size; omega
  have KX : Hid (Kq B [nb, bm] w X) := (Turned.ofBelow (L := []) BX.out).kq hB (by simp)
  have mpc := HN.out.mpc
  have hlk : ∀ m, (Instr.lookup 92 (.map (some bm)) (.int .i64 (j : Int)) true).run Try.prog (X.drewN m) = .ok (.tuple #[.int .i64 (if hasBox s.puts j then inBox [] s.puts j else 0), .bool (hasBox s.puts j)]) (X.drewN m) := fun m => (HN.out.map.block (w' := X.drewN m) rfl).look_ok' j hj
  have hltn : nb < w.heap.size := h.boxes.1
  have hlt := h.lt
  have hbi : (nb' : Int) < 4 := by omega
  -- from the store of the order on
  have PUT : Hid (∀ (V : World) (ov' : Value), Turned (nb :: ov.ownBlock.toList) X V → (∀ o, o ≠ 19 → V.cell? ⟨nb, o, none⟩ = X.cell? ⟨nb, o, none⟩) → V.cell? ⟨nb, 19, none⟩ = some ov' → (∀ o, V.frozen? ⟨nb, o, none⟩ = false) → OwnI V B ov' ((putP s.puts j (s.regs.getD nb' 0)).map Prod.fst) → (∀ g, ov'.ownBlock = some g → ov.ownBlock = some g ∨ X.heap.size ≤ g) →
      ∃ w4, (Instr.mapUpdate 92 (.map (some bm)) (.int .i64 (j : Int)) (.int .i64 (s.regs.getD nb' 0))).run Try.prog V.drew = .ok () w4 ∧ Kq B [nb, bm] w w4 ∧ NowE B nb bm w4 bs k (N + 1) { s with puts := putP s.puts j (s.regs.getD nb' 0) }) := by
    intro V ov' tV cV c19 fV oV hnew
    have mV : MapP V.drew bm N s.puts := HN.out.map.block (tV.block bm HN.out.map.lt (by
      simp only [List.mem_cons, Option.mem_toList, not_or]
      exact ⟨by omega, fun e' => by have := HN.out.own.2 _ e'; omega⟩))
    obtain ⟨w4, hrun, m4, t4⟩ := mV.put hN j hj _ hnum
    obtain ⟨r1, r2⟩ := HN.out.put (V := V.drew) (n := s.regs.getD nb' 0) hBX tV.drew cV c19 fV oV hnew t4 m4
    exact ⟨w4, hrun, KX.out.trans r2, _, _, r1⟩
  have HXC : Hid (∀ o, X.cell? ⟨nb, o, none⟩ = X.cell? ⟨nb, o, none⟩) := fun _ => rfl
  have rgb := HN.out.regs.2 nb' (by rw [HN.out.four]; exact hb)
  have odc := HN.out.odc
  generalize hz : s.regs.getD nb' 0 = z at rgb PUT
  have v2 : X.cell? ⟨w.heap.size, 2, none⟩ = some (.int .i64 nb') := (cell_heap gX 2).trans rfl
  have nn : ¬ nb = w.heap.size := by omega
  have nn' : ¬ w.heap.size = nb := by omega
  have OVW : Hid (∀ g, ov.ownBlock = some g → B ≤ g ∧ g < w.heap.size) := h.own.2
  clear hX gX h hnum hz
  cases hy : hasBox s.puts j with
  | true =>
    rw [hy] at hlk
    have P1 := PUT.out
    go_enter Try.func134, Try.ntmps134
    go_upto_region 1 with fail
    rw [← HX.out]
    go_quiet (fail)
    obtain ⟨V, hV⟩ : ∃ V, V = X.drewN nq := ⟨_, rfl⟩
    obtain ⟨w4, hrun, F1, F2⟩ := P1 V ov (by rw [hV]; exact (Turned.refl _ _).drewN _) (fun o _ => by rw [hV]; rfl) (by rw [hV]; exact odc) (by rw [hV]; exact HN.out.free) (by rw [putP_fst, if_pos hy, hV]; exact HN.out.order.turned (L := []) ((Turned.refl _ _).drewN _) (by simp)) (fun g e => .inl e)
    have FF : Hid (Kq B [nb, bm] w w4 ∧ NowE B nb bm w4 bs k (N + 1) { s with puts := putP s.puts j z }) := ⟨F1, F2⟩
    have v1' : V.cell? ⟨w.heap.size, 1, none⟩ = some (.int .i64 j) := by rw [hV]; exact v1
    have v2' : V.cell? ⟨w.heap.size, 2, none⟩ = some (.int .i64 nb') := by rw [hV]; exact v2
    have mpc' : V.cell? ⟨nb, 18, none⟩ = some (.map (some bm)) := by rw [hV]; exact mpc
    have rgb' : V.cell? ⟨nb, 8 + nb', none⟩ = some (.int .i64 z) := by rw [hV]; exact rgb
    clear F1 F2 P1 PUT hy
    rw [← hV]
    clear hV v1 v2 mpc rgb hlk odc
    go_upto_region 4 with fail
    refine region_still_tail 13 (by kernel_rfl) (by kernel_rfl) ?_
    simp only [List.take_succ_cons, List.take_zero, List.drop_succ_cons, List.drop_zero]
    iterate 13 still_step
    refine wpStill_nil ?_
    go_wp2
    go_end0
    exact ⟨rfl, FF.out⟩
  | false =>
    rw [hy] at hlk
    have P1 := PUT.out
    obtain ⟨ao, co, hov, _, hco⟩ := HN.out.order.open
    have HOV : Hid (ov = .slice ao (s.puts.map Prod.fst).length co) := hov
    have OB : Hid (ov.ownBlock = (Value.slice ao (s.puts.map Prod.fst).length co).ownBlock) := by show _ = _; rw [hov]
    have EP : Hid ((putP s.puts j z).map Prod.fst = s.puts.map Prod.fst ++ [(j : Int)]) := by show _ = _; rw [putP_fst, hy]; rfl
    have lo : (s.puts.map Prod.fst).length ≤ 1000 := by simpa using lx
    rw [hov] at odc
    have HOX : Hid (OwnI X B (.slice ao (s.puts.map Prod.fst).length co) (s.puts.map Prod.fst)) := by show OwnI _ _ _ _; rw [← hov]; exact HN.out.order
    generalize s.puts.map Prod.fst = ord at odc HOV OB EP lo HOX
    clear hov hco hy
    go_enter Try.func134, Try.ntmps134
    go_upto_region 1 with fail
    rw [← HX.out]
    go_quiet (fail)
    obtain ⟨Y, hY⟩ : ∃ Y, Y = X.drewN nq := ⟨_, rfl⟩
    have v1' : Y.cell? ⟨w.heap.size, 1, none⟩ = some (.int .i64 j) := by rw [hY]; exact v1
    have q19 : Y.cell? ⟨nb, 19, none⟩ = some (.slice ao ord.length co) := by rw [hY]; exact odc
    have HYX : Hid (∀ i : Nat, Y.heap[i]? = X.heap[i]?) := by show ∀ i, _; rw [hY]; exact fun _ => rfl
    have TY : Hid (Turned [] X Y) := by show Turned _ _ _; rw [hY]; exact (Turned.refl _ _).drewN _
    have HOY : Hid (Y.ownsRow B 3 1 (.slice ao ord.length co) ord.length (ord.map (Value.int .i64))) := by show World.ownsRow _ _ _ _ _ _ _; rw [hY]; exact HOX.out.turned (L := []) ((Turned.refl _ _).drewN _) (by simp)
    have hsY : Y.heap.size = X.heap.size := by rw [hY]; rfl
    have HSY : Hid (Y.heap.size = X.heap.size) := hsY
    rw [← hY]
    clear hY v1 odc hlk
    obtain ⟨i0, hi0, hz0, hz1, hz2⟩ := info_parts infoIntR
    have hM : Hid (ord.length + 1 ≤ maxLen) := by show _ ≤ _; unfold maxLen; omega
    have hBy : Hid ((ord.length + 1) * 8 ≤ 140737488355328) := by show _ ≤ _; omega
    have hBY : B ≤ Y.heap.size := by omega
    have hnbY : nb < Y.heap.size := by have := HSX.out; omega
    have hwY : w.heap.size < Y.heap.size := by have := HSX.out; omega
    have nN : Hid ((Value.slice ao ord.length co).ownBlock ≠ some nb ∧ (Value.slice ao ord.length co).ownBlock ≠ some w.heap.size) := by
      show _ ∧ _
      rw [← OB.out]
      exact ⟨fun e => by have := OVW.out _ e; omega, fun e => by have := OVW.out _ e; omega⟩
    have AFT : Hid (∀ w1 : World, Y.grownBy w1 (Value.slice ao ord.length co).ownBlock → w1.heap[nb]? = Y.heap[nb]? ∧ w1.heap[w.heap.size]? = Y.heap[w.heap.size]?) := fun w1 hg => ⟨hg.block _ hnbY (Ne.symm nN.out.1), hg.block _ hwY (Ne.symm nN.out.2)⟩
    have qa : (Y.alloc (.cells #[.int .i64 j] 3)).cell? ⟨nb, 19, none⟩ = some (.slice ao ord.length co) := (World.cell?_of_block (w := Y) (a := ⟨nb, 19, none⟩) (heap_old _ _ _ (by show nb < _; omega))).trans q19
    have va : (Y.alloc (.cells #[.int .i64 j] 3)).cell? ⟨w.heap.size, 1, none⟩ = some (.int .i64 j) := (World.cell?_of_block (w := Y) (a := ⟨w.heap.size, 1, none⟩) (heap_old _ _ _ (by show w.heap.size < _; omega))).trans v1'
    have HQ19 : Hid (Y.cell? ⟨nb, 19, none⟩ = some (.slice ao ord.length co)) := q19
    have HFY : Hid (∀ o, Y.frozen? ⟨nb, o, none⟩ = false) := fun o => (World.frozen?_of_block (w := X) (a := ⟨nb, o, none⟩) (HYX.out nb)).trans (HN.out.free o)
    have PP : Hid _ := P1
    have vv2 : Hid (X.cell? ⟨w.heap.size, 2, none⟩ = some (.int .i64 nb')) := v2
    have vmp : Hid (X.cell? ⟨nb, 18, none⟩ = some (.map (some bm))) := mpc
    have vrg : Hid (X.cell? ⟨nb, 8 + nb', none⟩ = some (.int .i64 z)) := rgb
    clear P1 PUT hsY v2 mpc rgb
    go_upto_region 3 with fail
    go_region_law ((refine step_append_lies _ (by rfl) _ _ _ (by rfl) B 3 i0 _ 1 8 Try.underlying41 hi0 hz0 hz1 hz2 rfl (by omega) (.slice ao ord.length co) ord.length (ord.map (Value.int .i64)) (by rfl) ((HOY.out.alloc _).drew) ⟨Y.heap.size, 0, none⟩ 1 1 [.int .i64 j] (by rfl) (by rfl) (World.news_of_block (cs := #[.int .i64 j]) (t := 3) (fr := (0, 0)) (heap_alloc_new Y _)) (by simp [Value.oneCell']) (by omega) hM.out hBy.out (by simp; omega) (Y.heap.size + 1) (by simp) ?_; intro gg cap w1 hown1 hgrow hat hlt; have GW : Y.grownBy w1 (Value.slice ao ord.length co).ownBlock := World.grownBy.trans (grDrew (grAlloc (grR Y _) _)) hgrow; have f0 : w1.frozen? ⟨nb, 19, none⟩ = false := (World.frozen?_of_block (w := Y) (a := ⟨nb, 19, none⟩) (AFT.out w1 GW).1).trans (HFY.out 19); have c0 : w1.cell? ⟨nb, 19, none⟩ = some (.slice ao ord.length co) := (World.cell?_of_block (w := Y) (a := ⟨nb, 19, none⟩) (AFT.out w1 GW).1).trans HQ19.out))
    all_goals
      obtain ⟨A0, A1⟩ := AFT.out w1 GW
      have b0 : w1.heap[nb]? = X.heap[nb]? := A0.trans (HYX.out nb)
      have b1 : w1.heap[w.heap.size]? = X.heap[w.heap.size]? := A1.trans (HYX.out w.heap.size)
      have hs1 : Y.heap.size ≤ w1.heap.size := GW.size
      obtain ⟨V, hV⟩ : ∃ V, V = w1.setCell ⟨nb, 19, none⟩ (.slice (some ⟨gg, 0, none⟩) (ord.length + 1) cap) := ⟨_, rfl⟩
      have cV : ∀ o, o ≠ 19 → V.cell? ⟨nb, o, none⟩ = X.cell? ⟨nb, o, none⟩ := fun o ho => by
        rw [hV, setCell_cell_other _ _ _ _ _ (Ne.symm ho)]
        exact World.cell?_of_block (w := X) (a := ⟨nb, o, none⟩) b0
      have bV : V.heap[w.heap.size]? = X.heap[w.heap.size]? := by
        rw [hV, Below.heap_setCell _ _ _ _ (by show w.heap.size ≠ nb; omega)]; exact b1
      have t1 : Turned (nb :: ov.ownBlock.toList) X V := by
        have a1 : Turned (nb :: ov.ownBlock.toList) Y w1 := Turned.ofGrown GW (fun g e => by rw [← OB.out] at e; simp [e])
        rw [hV]
        exact Turned.set ((TY.out.mono (by simp)).trans a1) (by simp) _
      obtain ⟨w4, hrun, F1, F2⟩ := PP.out V (.slice (some ⟨gg, 0, none⟩) (ord.length + 1) cap) t1 cV
        (by rw [hV]; exact setCell_cell_same _ _ _ _ _ c0)
        (fun o => by
          have f1 : w1.frozen? ⟨nb, o, none⟩ = false := (World.frozen?_of_block (w := X) (a := ⟨nb, o, none⟩) b0).trans (HN.out.free o)
          rw [hV]; simpa using f1)
        (by
          rw [EP.out]
          have o : OwnI w1 B (.slice (some ⟨gg, 0, none⟩) (ord.length + 1) cap) (ord ++ [(j : Int)]) := by
            unfold OwnI
            rw [List.length_append, List.map_append]
            exact hown1
          rw [hV]
          refine o.turned (L := [nb]) ((Turned.refl _ _).set (by simp) _) (fun g e => ?_)
          have e' : gg = g := Option.some.inj e
          subst e'
          rcases hat with h | h
          · rw [← OB.out] at h; have := OVW.out _ h; simp; omega
          · simp; omega)
        (fun g e => by
          have e' : gg = g := Option.some.inj e
          subst e'
          rcases hat with h | h
          · exact .inl (by rw [OB.out]; exact h)
          · exact .inr (by have := HSY.out; omega))
      have FF : Hid (Kq B [nb, bm] w w4 ∧ NowE B nb bm w4 bs k (N + 1) { s with puts := putP s.puts j z }) := ⟨F1, F2⟩
      have v1V : V.cell? ⟨w.heap.size, 1, none⟩ = some (.int .i64 j) := (World.cell?_of_block (w := X) (a := ⟨w.heap.size, 1, none⟩) bV).trans ((cell_heap GX.out 1).trans rfl)
      have v2V : V.cell? ⟨w.heap.size, 2, none⟩ = some (.int .i64 nb') := (World.cell?_of_block (w := X) (a := ⟨w.heap.size, 2, none⟩) bV).trans vv2.out
      have mpV : V.cell? ⟨nb, 18, none⟩ = some (.map (some bm)) := (cV 18 (by omega)).trans vmp.out
      have rgV : V.cell? ⟨nb, 8 + nb', none⟩ = some (.int .i64 z) := (cV (8 + nb') (by omega)).trans vrg.out
      rw [← hV]
      clear F1 F2 hV cV bV t1 A0 A1 b0 b1 hown1 hgrow hat hlt GW f0 c0 v1' q19 qa va hs1
      go_upto_region 4 with fail
      refine region_still_tail 13 (by kernel_rfl) (by kernel_rfl) ?_
      simp only [List.take_succ_cons, List.take_zero, List.drop_succ_cons, List.drop_zero]
      iterate 13 still_step
      refine wpStill_nil ?_
      go_wp2
      go_end0
      exact ⟨rfl, FF.out⟩
end Go.Proofs.Ytiibonnchmphcaa.Own

namespace Go.Proofs.Ytiibonnchmphcaa.Own
open Go.RowKit
set_option linter.unusedVariables false
set_option linter.unusedSimpArgs false

theorem SetPost.todo {B nb bm : Nat} {bs : List P2} {k N : Nat} {s s' : RunSt} {p : Q4} {na : Nat} {v : Int} {w w' : World} {e : Ending} (h : SetPost B nb bm bs k N s' na v w e w') (h6 : ¬ p.1 = 6) (hc : s'.code = 0) (es : stepR bs s p = setReg s' na v) : DoPost B nb bm bs k N s p w e w' := by
  obtain ⟨hk, h⟩ := h
  refine ⟨hk, ?_⟩
  rw [if_neg h6, es]
  rcases h with ⟨hv, rfl, rv, ov, hn⟩ | ⟨hv, rfl, rv, ov, hn⟩
  · rw [if_pos (by simp [setReg, hv, hc])]
    exact ⟨rfl, rv, ov, hn.mono (by omega)⟩
  · have e2 : (setReg s' na v).code = 2 := by simp [setReg, hv]
    rw [if_neg (by rw [e2]; decide), e2]
    exact ⟨rfl, hn.left⟩
theorem SetPost.from {B nb bm : Nat} {bs : List P2} {k N : Nat} {s : RunSt} {na : Nat} {v : Int} {w X w' : World} {e : Ending} (h : SetPost B nb bm bs k N s na v X e w') (hk : Kq B [nb, bm] w X) : SetPost B nb bm bs k N s na v w e w' := ⟨hk.trans h.1, h.2⟩
/-- It returns, or panics with a code. -/
theorem DoPost.ends {B nb bm : Nat} {bs : List P2} {k N : Nat} {s : RunSt} {p : Q4} {w w' : World} {e : Ending} (h : DoPost B nb bm bs k N s p w e w') : e = .returned (.tuple #[]) ∨ e = thrown (stepR bs s p).code := by
  obtain ⟨_, h⟩ := h
  by_cases h6 : p.1 = 6
  · rw [if_pos h6] at h; exact .inl h.1
  · rw [if_neg h6] at h
    by_cases hc : (stepR bs s p).code = 0
    · rw [if_pos hc] at h; exact .inl h.1
    · rw [if_neg hc] at h; exact .inr h.1
theorem SetPost.ends {B nb bm : Nat} {bs : List P2} {k N : Nat} {s : RunSt} {na : Nat} {v : Int} {w w' : World} {e : Ending} (h : SetPost B nb bm bs k N s na v w e w') : e = .returned (.tuple #[]) ∨ e = thrown 2 := by
  obtain ⟨_, h⟩ := h
  rcases h with ⟨_, h, _⟩ | ⟨_, h, _⟩
  · exact .inl h
  · exact .inr h

set_option maxRecDepth 100000 in
set_option maxHeartbeats 4000000 in
theorem doC (B nb bm : Nat) (bs : List P2) (k N : Nat) (s : RunSt) (rv ov : Value) (p : Q4) (w : World) (h : Now B nb bm w bs k N s rv ov) (hB : B ≤ w.heap.size) (hp : insOk p = true) (hc : s.code = 0) (hnum : ∀ i, i < 4 → numOk (s.regs.getD i 0) = true) (lx : s.reads.length ≤ 1000) (ly : s.puts.length ≤ 1000) (hN : N ≤ 1000) (hk : k ≤ 100) :
    Calls Try.prog 113 #[.pointer (some ⟨nb, 0, none⟩), .agg #[.int .i64 p.1, .int .i64 p.2.1, .int .i64 p.2.2.1, .int .i64 p.2.2.2]] w fun e w' => DoPost B nb bm bs k N s p w e w' := by
  obtain ⟨kd, pa, pb, pn⟩ := p
  dsimp only
  obtain ⟨X, hX⟩ : ∃ X, X = w.alloc (.cells #[.int .i64 kd, .int .i64 pa, .int .i64 pb, .int .i64 pn] 53) := ⟨_, rfl⟩
  have gX : X.heap[w.heap.size]? = some (.cells #[.int .i64 kd, .int .i64 pa, .int .i64 pb, .int .i64 pn] 53 (0, 0)) := by rw [hX]; exact heap_new _ _
  have BX : Hid (Below w.heap.size w X) := by show Below _ _ _; rw [hX]; exact below_new _ _
  have HX : Hid (X = _) := hX
  have HN : Hid (Now B nb bm X bs k N s rv ov) := h.below BX.out
  have hBX : Hid (B ≤ X.heap.size) := by show _ ≤ _; have := BX.out.size; omega
  have KX : Hid (Kq B [nb, bm] w X) := (Turned.ofBelow (L := []) BX.out).kq hB (by simp)
  have v0 : X.cell? ⟨w.heap.size, 0, none⟩ = some (.int .i64 kd) := (cell_heap gX 0).trans rfl
  have v1 : X.cell? ⟨w.heap.size, 1, none⟩ = some (.int .i64 pa) := (cell_heap gX 1).trans rfl
  have v2 : X.cell? ⟨w.heap.size, 2, none⟩ = some (.int .i64 pb) := (cell_heap gX 2).trans rfl
  have v3 : X.cell? ⟨w.heap.size, 3, none⟩ = some (.int .i64 pn) := (cell_heap gX 3).trans rfl
  have HC : Hid (s.code = 0) := hc
  clear hX gX h hc
  by_cases h1 : kd = 1
  · subst h1
    rw [insOk_1] at hp
    simp only [Bool.and_eq_true] at hp
    obtain ⟨na, hna, rfl⟩ := regOk_nat hp.1.1
    obtain ⟨nb', hnb, rfl⟩ := regOk_nat hp.1.2
    have CL : Hid (Calls Try.prog 133 #[.pointer (some ⟨nb, 0, none⟩), .agg #[.int .i64 1, .int .i64 na, .int .i64 nb', .int .i64 pn]] X fun e w' => (e = .returned (.tuple #[]) ∨ e = thrown 2) ∧ DoPost B nb bm bs k N s (1, (na : Int), (nb' : Int), pn) w e w') := by
      refine (loadC B nb bm bs k N s rv ov 1 pn na nb' X HN.out hBX.out hna hnb lx).mono ?_
      intro e w' h
      exact ⟨h.ends, (h.from KX.out).todo (by simp) HC.out (by simp [stepR])⟩
    clear hp hnum
    go_enter Try.func113, Try.ntmps113
    go_upto_region 2 with fail
    rw [← HX.out]
    go_wp2_with fail
    refine Calls.mono CL.out ?_
    rintro e w1 ⟨rfl | rfl, hd⟩
    · have F : Hid (DoPost B nb bm bs k N s (1, (na : Int), (nb' : Int), pn) w (.returned (.tuple #[])) w1) := hd
      clear hd
      go_wp2_with fail
      go_end0
      exact F.out
    · exact ⟨rfl, hd⟩
  by_cases h2 : kd = 2
  · subst h2
    rw [insOk_2] at hp
    simp only [Bool.and_eq_true] at hp
    obtain ⟨na, hna, rfl⟩ := regOk_nat hp.1.1
    obtain ⟨nb', hnb, rfl⟩ := regOk_nat hp.1.2
    have CL : Hid (Calls Try.prog 134 #[.pointer (some ⟨nb, 0, none⟩), .agg #[.int .i64 2, .int .i64 na, .int .i64 nb', .int .i64 pn]] X fun e w' => e = .returned (.tuple #[]) ∧ DoPost B nb bm bs k N s (2, (na : Int), (nb' : Int), pn) w e w') := by
      refine (putC B nb bm bs k N s rv ov 2 pn na nb' X HN.out hBX.out hna hnb ly hN (hnum nb' hnb)).mono ?_
      rintro e w' ⟨rfl, hk, hn⟩
      refine ⟨rfl, KX.out.trans hk, ?_⟩
      have es : stepR bs s (2, (na : Int), (nb' : Int), pn) = { s with puts := putP s.puts na (s.regs.getD nb' 0) } := by simp [stepR]
      rw [if_neg (by simp), es, if_pos HC.out]
      exact ⟨rfl, hn⟩
    clear hp hnum
    go_enter Try.func113, Try.ntmps113
    go_upto_region 2 with fail
    rw [← HX.out]
    go_wp2_with fail
    refine Calls.mono CL.out ?_
    rintro e w1 ⟨rfl, hd⟩
    have F : Hid (DoPost B nb bm bs k N s (2, (na : Int), (nb' : Int), pn) w (.returned (.tuple #[])) w1) := hd
    clear hd
    go_wp2_with fail
    go_end0
    exact F.out
  by_cases h3 : kd = 3
  · subst h3
    rw [insOk_3] at hp
    simp only [Bool.and_eq_true] at hp
    obtain ⟨na, hna, rfl⟩ := regOk_nat hp.1.1
    have CL : Hid (Calls Try.prog 135 #[.pointer (some ⟨nb, 0, none⟩), .int .i64 na, .int .i64 pn] X fun e w' => (e = .returned (.tuple #[]) ∨ e = thrown 2) ∧ DoPost B nb bm bs k N s (3, (na : Int), pb, pn) w e w') := by
      refine (nowSet B nb bm bs k N s rv ov na pn X HN.out hBX.out hna).mono ?_
      rintro e w' ⟨h, _⟩
      exact ⟨h.ends, (h.from KX.out).todo (by simp) HC.out (by simp [stepR])⟩
    clear hp hnum
    go_enter Try.func113, Try.ntmps113
    go_upto_region 2 with fail
    rw [← HX.out]
    go_wp2_with fail
    refine Calls.mono CL.out ?_
    rintro e w1 ⟨rfl | rfl, hd⟩
    · have F : Hid (DoPost B nb bm bs k N s (3, (na : Int), pb, pn) w (.returned (.tuple #[])) w1) := hd
      clear hd
      go_wp2_with fail
      go_end0
      exact F.out
    · exact ⟨rfl, hd⟩
  by_cases h4 : kd = 4
  · subst h4
    rw [insOk_4] at hp
    simp only [Bool.and_eq_true] at hp
    obtain ⟨na, hna, rfl⟩ := regOk_nat hp.1.1
    obtain ⟨nb', hnb, rfl⟩ := regOk_nat hp.1.2
    have CL : Hid (Calls Try.prog 136 #[.pointer (some ⟨nb, 0, none⟩), .agg #[.int .i64 4, .int .i64 na, .int .i64 nb', .int .i64 pn], .int .i64 1] X fun e w' => (e = .returned (.tuple #[]) ∨ e = thrown 2) ∧ DoPost B nb bm bs k N s (4, (na : Int), (nb' : Int), pn) w e w') := by
      refine (addC B nb bm bs k N s rv ov 4 pn 1 na nb' X HN.out hBX.out hna hnb (.inl rfl) hnum).mono ?_
      intro e w' h
      exact ⟨h.ends, (h.from KX.out).todo (by simp) HC.out (by simp [stepR])⟩
    clear hp hnum
    go_enter Try.func113, Try.ntmps113
    go_upto_region 2 with fail
    rw [← HX.out]
    go_wp2_with fail
    refine Calls.mono CL.out ?_
    rintro e w1 ⟨rfl | rfl, hd⟩
    · have F : Hid (DoPost B nb bm bs k N s (4, (na : Int), (nb' : Int), pn) w (.returned (.tuple #[])) w1) := hd
      clear hd
      go_wp2_with fail
      go_end0
      exact F.out
    · exact ⟨rfl, hd⟩
  by_cases h5 : kd = 5
  · subst h5
    rw [insOk_5] at hp
    simp only [Bool.and_eq_true] at hp
    obtain ⟨na, hna, rfl⟩ := regOk_nat hp.1.1
    obtain ⟨nb', hnb, rfl⟩ := regOk_nat hp.1.2
    have CL : Hid (Calls Try.prog 136 #[.pointer (some ⟨nb, 0, none⟩), .agg #[.int .i64 5, .int .i64 na, .int .i64 nb', .int .i64 pn], .int .i64 (-1)] X fun e w' => (e = .returned (.tuple #[]) ∨ e = thrown 2) ∧ DoPost B nb bm bs k N s (5, (na : Int), (nb' : Int), pn) w e w') := by
      refine (addC B nb bm bs k N s rv ov 5 pn (-1) na nb' X HN.out hBX.out hna hnb (.inr rfl) hnum).mono ?_
      intro e w' h
      have ez : s.regs.getD na 0 + -1 * s.regs.getD nb' 0 = s.regs.getD na 0 - s.regs.getD nb' 0 := by omega
      rw [ez] at h
      exact ⟨h.ends, (h.from KX.out).todo (by simp) HC.out (by simp [stepR])⟩
    clear hp hnum
    go_enter Try.func113, Try.ntmps113
    go_upto_region 2 with fail
    rw [← HX.out]
    go_wp2_with fail
    refine Calls.mono CL.out ?_
    rintro e w1 ⟨rfl | rfl, hd⟩
    · have F : Hid (DoPost B nb bm bs k N s (5, (na : Int), (nb' : Int), pn) w (.returned (.tuple #[])) w1) := hd
      clear hd
      go_wp2_with fail
      go_end0
      exact F.out
    · exact ⟨rfl, hd⟩
  by_cases h6 : kd = 6
  · subst h6
    rw [insOk_6] at hp
    simp only [Bool.and_eq_true] at hp
    obtain ⟨na, hna, rfl⟩ := regOk_nat hp.1.1
    obtain ⟨nb', hnb, rfl⟩ := regOk_nat hp.1.2
    have hn := hp.2
    simp only [lessOk, Bool.and_eq_true, decide_eq_true_eq] at hn
    obtain ⟨n, hn1, hn2⟩ : ∃ n : Nat, pn = (n : Int) ∧ n ≤ 10 := ⟨pn.toNat, by omega, by omega⟩
    subst hn1
    have CL : Hid (Calls Try.prog 137 #[.pointer (some ⟨nb, 0, none⟩), .agg #[.int .i64 6, .int .i64 na, .int .i64 nb', .int .i64 n]] X fun e w' => e = .returned (.tuple #[]) ∧ DoPost B nb bm bs k N s (6, (na : Int), (nb' : Int), (n : Int)) w e w') := by
      refine (lessC B nb bm bs k N s rv ov na nb' n X HN.out hBX.out hna hnb hn2 hk).mono ?_
      rintro e w' ⟨rfl, hk, rv', ov', hn⟩
      refine ⟨rfl, KX.out.trans hk, ?_⟩
      rw [if_pos rfl]
      exact ⟨rfl, rv', ov', by simpa using hn.mono (by omega)⟩
    clear hp hnum hn
    go_enter Try.func113, Try.ntmps113
    go_upto_region 2 with fail
    rw [← HX.out]
    go_wp2_with fail
    refine Calls.mono CL.out ?_
    rintro e w1 ⟨rfl, hd⟩
    have F : Hid (DoPost B nb bm bs k N s (6, (na : Int), (nb' : Int), (n : Int)) w (.returned (.tuple #[])) w1) := hd
    clear hd
    go_wp2_with fail
    go_end0
    exact F.out
  by_cases h7 : kd = 7
  · subst h7
    have CL : Hid (Calls Try.prog 138 #[.pointer (some ⟨nb, 0, none⟩)] X fun e w' => e = thrown 1 ∧ DoPost B nb bm bs k N s (7, pa, pb, pn) w e w') := by
      refine (failC _ X).mono ?_
      rintro e w' ⟨rfl, rfl⟩
      refine ⟨rfl, KX.out, ?_⟩
      have es : stepR bs s (7, pa, pb, pn) = { s with code := 1 } := by simp [stepR]
      rw [if_neg (by simp), es, if_neg (by simp)]
      exact ⟨rfl, HN.out.left⟩
    clear hp hnum
    go_enter Try.func113, Try.ntmps113
    go_upto_region 2 with fail
    rw [← HX.out]
    go_wp2_with fail
    refine Calls.mono CL.out ?_
    rintro e w1 ⟨rfl, hd⟩
    exact ⟨rfl, hd⟩
  rw [insOk_no pa pb pn ⟨h1, h2, h3, h4, h5, h6, h7⟩] at hp
  cases hp
end Go.Proofs.Ytiibonnchmphcaa.Own

namespace Go.Proofs.Ytiibonnchmphcaa.Own
open Go.RowKit
set_option linter.unusedVariables false
set_option linter.unusedSimpArgs false

/-- The instruction that is next, as it lies in memory. -/
def atIn (nb : Nat) (w : World) : Nat := (intOf ((w.cell? ⟨nb, 12, none⟩).getD undef)).toNat
theorem atIn_of {nb k : Nat} {w : World} (h : w.cell? ⟨nb, 12, none⟩ = some (.int .i64 (k : Int))) : atIn nb w = k := by
  unfold atIn; rw [h]; simp [intOf]

def AllPost (B nb bm : Nat) (bs : List P2) (xs : List Q4) (w : World) (e : Ending) (w' : World) : Prop :=
  Kq B [nb, bm] w w' ∧ (((runR bs xs 0 initR).code = 0 ∧ e = .returned (.tuple #[]) ∧ ∃ k N, NowE B nb bm w' bs k N (runR bs xs 0 initR)) ∨ (¬ (runR bs xs 0 initR).code = 0 ∧ e = thrown (runR bs xs 0 initR).code ∧ Left B nb w' (runR bs xs 0 initR).reads))

set_option maxRecDepth 100000 in
set_option maxHeartbeats 4000000 in
theorem doAllC (B nb bm : Nat) (bs : List P2) (xs : List Q4) (pa : Option Addr) (pc : Nat) (rv ov : Value) (w : World) (h : Now B nb bm w bs 0 0 initR rv ov) (hB : B ≤ w.heap.size) (hb : boxOk bs = true) (hp : progOk xs = true) (n₀ : Nat) (hx : Sl4b n₀ w pa xs) (hn : n₀ ≤ nb ∧ n₀ ≤ bm) :
    Calls Try.prog 70 #[.pointer (some ⟨nb, 0, none⟩), .slice pa xs.length pc] w fun e w' => AllPost B nb bm bs xs w e w' := by
  have HN : Hid (Now B nb bm w bs 0 0 initR rv ov) := h
  have SX : Hid (Sl4b n₀ w pa xs) := hx
  have hltB := h.lt
  have HPO : Hid (progOk xs = true) := hp
  have l10 : xs.length ≤ 10 := by simp only [progOk, Bool.and_eq_true, decide_eq_true_eq] at hp; exact hp.1
  have nx := h.next
  clear h hx hp
  go_enter Try.func70, Try.ntmps70
  go_wp2_with fail
  go_loopw [4] (fun p wr => ∃ (k N : Nat) (s : RunSt) (rv ov : Value), Hid (Now B nb bm wr bs k N s rv ov) ∧ Hid (N ≤ k) ∧ Hid (runR bs xs k s = runR bs xs 0 initR) ∧ Hid (Inv bs xs s) ∧ Hid (s.code = 0) ∧ Hid (Kq B [nb, bm] w wr) ∧ Hid (k ≤ 30)) (fun _ wr => xs.length - atIn nb wr)
  case atStart => exact ⟨0, 0, initR, rv, ov, HN, Nat.le_refl _, rfl, Inv.init _ _, rfl, Kq.refl _ _ _, Nat.zero_le _⟩
  case round =>
    obtain ⟨k, N, s, rv', ov', HNr, HNk, ERk, IV, HC, KX, K30⟩ := hrel
    have nk := HNr.out.next
    have fr := HNr.out.free 12
    have hk30 : k ≤ 30 := K30.out
    have hsw : B ≤ wr.heap.size := by have := KX.out.size; omega
    clear nx
    by_cases hlt : k < xs.length
    · rcases SX.out with h | ⟨pb, po, rfl, hpb, h1⟩
      · subst h; simp at hlt
      have p1 : pb < B := by omega
      have p2 : pb ≠ nb := by omega
      have p3 : pb ≠ bm := by omega
      have AX : Hid (At4 wr pb po xs) := h1.kq KX.out p1 (by simp; exact ⟨p2, p3⟩)
      obtain ⟨ca, cb, cc, cd⟩ := AX.out.2 k hlt
      clear h1
      obtain ⟨p, hp⟩ : ∃ p, p = xs.getD k q0 := ⟨_, rfl⟩
      have HP : Hid (p = xs.getD k q0) := hp
      rw [← hp] at ca cb cc cd
      have HOK : Hid (insOk p = true) := by show _ = _; rw [hp]; exact progOk_ins HPO.out _ (getD_mem hlt)
      have HM : Hid (p ∈ xs) := by show _ ∈ _; rw [hp]; exact getD_mem hlt
      clear hp
      obtain ⟨kd, qa, qb, qn⟩ := p
      dsimp only at ca cb cc cd
      have hki : (k : Int) < (xs.length : Int) := by omega
      obtain ⟨V, hV⟩ : ∃ V, V = wr.alloc (.cells #[.int .i64 kd, .int .i64 qa, .int .i64 qb, .int .i64 qn] 53) := ⟨_, rfl⟩
      have gV : V.heap[wr.heap.size]? = some (.cells #[.int .i64 kd, .int .i64 qa, .int .i64 qb, .int .i64 qn] 53 (0, 0)) := by rw [hV]; exact heap_new _ _
      have BV : Hid (Below wr.heap.size wr V) := by show Below _ _ _; rw [hV]; exact below_new _ _
      have HSV : Hid (V.heap.size = wr.heap.size + 1) := by show _ = _; rw [hV]; simp
      have HV : Hid (V = _) := hV
      have HNV : Hid (Now B nb bm V bs k N s rv' ov') := HNr.out.below BV.out
      have hlt3 := HNr.out.lt
      have hnbr : nb < wr.heap.size := HNr.out.boxes.1
      go_upto_region 2 with fail
      rw [← HV.out]
      have nkV : V.cell? ⟨nb, 12, none⟩ = some (.int .i64 k) := HNV.out.next
      have frV := HNV.out.free 12
      have wk : IntKind.i64.wrap ((k : Int) + 1) = (k : Int) + 1 := by rw [IntKind.wrap_i64]; omega
      clear ca cb cc cd nk fr hV
      go_upto_region 3 with fail
      obtain ⟨Z, hZ⟩ : ∃ Z, Z = V.setCell ⟨nb, 12, none⟩ (.int .i64 ((k + 1 : Nat) : Int)) := ⟨_, rfl⟩
      have HNZ : Hid (Now B nb bm Z bs (k + 1) N s rv' ov') := by show Now _ _ _ _ _ _ _ _ _ _; rw [hZ]; exact HNV.out.step (k + 1)
      have gZ : Z.heap[wr.heap.size]? = some (.cells #[.int .i64 kd, .int .i64 qa, .int .i64 qb, .int .i64 qn] 53 (0, 0)) := by rw [hZ, Below.heap_setCell _ _ _ _ (by show wr.heap.size ≠ nb; omega)]; exact gV
      have z0 : Z.cell? ⟨wr.heap.size, 0, none⟩ = some (.int .i64 kd) := (cell_heap gZ 0).trans rfl
      have z1 : Z.cell? ⟨wr.heap.size, 1, none⟩ = some (.int .i64 qa) := (cell_heap gZ 1).trans rfl
      have z2 : Z.cell? ⟨wr.heap.size, 2, none⟩ = some (.int .i64 qb) := (cell_heap gZ 2).trans rfl
      have z3 : Z.cell? ⟨wr.heap.size, 3, none⟩ = some (.int .i64 qn) := (cell_heap gZ 3).trans rfl
      have hsZ : B ≤ Z.heap.size := by rw [hZ]; have : (V.setCell ⟨nb, 12, none⟩ (.int .i64 ((k + 1 : Nat) : Int))).heap.size = V.heap.size := by simp [World.setCell]
                                       rw [this]; have := HSV.out; omega
      have KZ : Hid (Kq B [nb, bm] w Z) := by
        show Kq _ _ _ _
        rw [hZ]
        exact KX.out.trans (((Turned.ofBelow (L := []) BV.out).kq hsw (by simp)).trans (Turned.kq (L' := [nb]) ((Turned.refl _ _).set (by simp) _) (by have := HSV.out; omega) (by simp)))
      have eZ : V.setCell ⟨nb, 12, none⟩ (.int .i64 ((k : Int) + 1)) = Z := by rw [hZ]; simp
      rw [eZ]
      clear hZ eZ gV gZ nkV frV
      have DO : Hid (Calls Try.prog 113 #[.pointer (some ⟨nb, 0, none⟩), .agg #[.int .i64 kd, .int .i64 qa, .int .i64 qb, .int .i64 qn]] Z fun e w' => DoPost B nb bm bs (k + 1) N s (kd, qa, qb, qn) Z e w') := by
        have f4 := reads_few IV.out
        have p4 := puts_few IV.out
        have b1 := boxesTo_len loadsQ xs 4
        have b2 := boxesTo_len putsQ xs 4
        have n1 := HNk.out
        exact doC B nb bm bs (k + 1) N s rv' ov' (kd, qa, qb, qn) Z HNZ.out hsZ HOK.out HC.out (IV.out.num HC.out) (by omega) (by omega) (by omega) (by omega)
      have hz := HNk.out
      go_wp2_with fail
      refine Calls.mono DO.out ?_
      intro e w3 hd
      obtain ⟨K3, hd⟩ := hd
      have K3' : Hid (Kq B [nb, bm] w w3) := KZ.out.trans K3
      clear z0 z1 z2 z3 K3
      by_cases h6 : kd = 6
      · subst h6
        rw [if_pos rfl] at hd
        obtain ⟨rfl, rv3, ov3, hn3⟩ := hd
        have ok := HOK.out
        rw [insOk_6] at ok
        simp only [Bool.and_eq_true] at ok
        have hn := ok.2
        simp only [lessOk, Bool.and_eq_true, decide_eq_true_eq] at hn
        obtain ⟨k3, hk3⟩ : ∃ k3 : Nat, k3 = (if s.regs.getD qa.toNat 0 < s.regs.getD qb.toNat 0 then k + 1 + qn.toNat else k + 1) := ⟨_, rfl⟩
        have hk3' : k + 1 ≤ k3 ∧ k3 ≤ k + 11 := by rw [hk3]; split <;> omega
        have E3 : Hid (runR bs xs k3 s = runR bs xs 0 initR) := by
          show _ = _
          rw [← ERk.out]
          by_cases hl : s.regs.getD qa.toNat 0 < s.regs.getD qb.toNat 0
          · rw [if_pos hl] at hk3
            have e := run_jump (bs := bs) (xs := xs) (k := k) (s := s) hlt HC.out (by rw [← HP.out]) (by rw [← HP.out]; exact hl)
            rw [← HP.out] at e
            rw [e, hk3]
            congr 1
            show k + 1 + qn.toNat = k + qn.toNat + 1
            omega
          · rw [if_neg hl] at hk3
            rw [hk3]
            exact (run_go (bs := bs) (xs := xs) (k := k) (s := s) hlt HC.out (by rw [← HP.out]) (by rw [← HP.out]; exact hl)).symm
        have HN3 : Hid (Now B nb bm w3 bs k3 (N + 1) s rv3 ov3) := by show Now _ _ _ _ _ _ _ _ _ _; rw [hk3]; exact hn3
        have AT3 : Hid (atIn nb w3 = k3) := atIn_of HN3.out.next
        have ATr : Hid (atIn nb wr = k) := atIn_of HNr.out.next
        clear hn3 hk3 ok hn
        go_wp2_with fail
        go_roundw
        case rel => exact ⟨k3, N + 1, s, rv3, ov3, HN3, by show _ ≤ _; omega, E3, IV, HC, K3', by show _ ≤ _; omega⟩
        case measure => rw [AT3.out, ATr.out]; omega
      · have E3 : Hid (runR bs xs (k + 1) (stepR bs s (kd, qa, qb, qn)) = runR bs xs 0 initR) := by
          show _ = _
          rw [← ERk.out, run_step (bs := bs) (xs := xs) (k := k) (s := s) hlt HC.out (by rw [← HP.out]; exact h6), ← HP.out]
        have I3 : Hid (Inv bs xs (stepR bs s (kd, qa, qb, qn))) := IV.out.step HC.out _ HOK.out HM.out h6
        rw [if_neg h6] at hd
        generalize stepR bs s (kd, qa, qb, qn) = s3 at hd E3 I3
        by_cases hc3 : s3.code = 0
        · rw [if_pos hc3] at hd
          obtain ⟨rfl, rv3, ov3, hn3⟩ := hd
          have HC3 : Hid (s3.code = 0) := hc3
          have HN3 : Hid (Now B nb bm w3 bs (k + 1) (N + 1) s3 rv3 ov3) := hn3
          have AT3 : Hid (atIn nb w3 = k + 1) := atIn_of HN3.out.next
          have ATr : Hid (atIn nb wr = k) := atIn_of HNr.out.next
          clear hn3 hc3
          go_wp2_with fail
          go_roundw
          case rel => exact ⟨k + 1, N + 1, s3, rv3, ov3, HN3, by show _ ≤ _; omega, E3, I3, HC3, K3', by show _ ≤ _; omega⟩
          case measure => rw [AT3.out, ATr.out]; omega
        · rw [if_neg hc3] at hd
          obtain ⟨rfl, hl⟩ := hd
          have es : runR bs xs 0 initR = s3 := by rw [← E3.out, run_stop hc3]
          refine ⟨rfl, K3'.out, .inr ?_⟩
          rw [es]
          exact ⟨hc3, rfl, hl⟩
    · have hki : ¬ (k : Int) < (xs.length : Int) := by omega
      have es : runR bs xs 0 initR = s := by rw [← ERk.out, run_end hlt]
      have F : Hid (AllPost B nb bm bs xs w (.returned (.tuple #[])) wr) := ⟨KX.out, .inl (by rw [es]; exact ⟨HC.out, rfl, k, N, rv', ov', HNr.out⟩)⟩
      clear es
      go_wp2_with fail
      go_end0
      exact F.out
end Go.Proofs.Ytiibonnchmphcaa.Own

namespace Go.Proofs.Ytiibonnchmphcaa.Own
open Go.RowKit
set_option linter.unusedVariables false
set_option linter.unusedSimpArgs false

theorem inBox_nth {ys : List P2} (hn : (ys.map Prod.fst).Nodup) {m j : Nat} (hm : m < ys.length) (e : (ys.getD m (0, 0)).1 = (j : Int)) : hasBox ys j = true ∧ inBox [] ys j = (ys.getD m (0, 0)).2 := by
  have hb : hasBox ys j = true := hasBox_iff.2 (by rw [← e, List.mem_map]; exact ⟨_, by simp [List.getD, hm], rfl⟩)
  refine ⟨hb, ?_⟩
  have hl := idx_lt hb
  have ea := idx_at hb
  have : idxBox ys j = m := by
    have hp := List.pairwise_iff_getElem.1 hn
    rcases Nat.lt_trichotomy (idxBox ys j) m with h | h | h
    · have := hp (idxBox ys j) m (by simpa using hl) (by simpa using hm) h
      simp only [List.getElem_map] at this
      rw [List.getD_eq_getElem?_getD, List.getElem?_eq_getElem hl] at ea
      rw [List.getD_eq_getElem?_getD, List.getElem?_eq_getElem hm] at e
      exact absurd (ea.trans e.symm) this
    · exact h
    · have := hp m (idxBox ys j) (by simpa using hm) (by simpa using hl) h
      simp only [List.getElem_map] at this
      rw [List.getD_eq_getElem?_getD, List.getElem?_eq_getElem hl] at ea
      rw [List.getD_eq_getElem?_getD, List.getElem?_eq_getElem hm] at e
      exact absurd (e.trans ea.symm) this
  unfold inBox
  rw [if_pos hb, this]
theorem two_newP (w : World) (x y : Value) (t : TypeId) : ∀ j u, [x, y][j]? = some u → (w.alloc (.cells #[x, y] t)).cell? ((⟨w.heap.size, 0, none⟩ : Addr).add j) = some u := by
  intro j u hu
  have e : (⟨w.heap.size, 0, none⟩ : Addr).add j = ⟨w.heap.size, j, none⟩ := by unfold Addr.add; split <;> simp_all
  rw [e, cell_heap (heap_new _ _)]
  simpa using hu
theorem take_succP (ys : List P2) (k : Nat) (h : k < ys.length) : ys.take (k + 1) = ys.take k ++ [ys.getD k (0, 0)] := by
  rw [List.take_succ_eq_append_getElem h]; simp [List.getD, h]

set_option maxRecDepth 100000 in
set_option maxHeartbeats 2000000 in
theorem toldC (B nb bm : Nat) (bs : List P2) (k N : Nat) (s : RunSt) (rv ov : Value) (w : World) (h : Now B nb bm w bs k N s rv ov) (hp : ∀ p, p ∈ s.puts → ∃ j : Nat, j < 4 ∧ p.1 = (j : Int)) (hn : (s.puts.map Prod.fst).Nodup) (hl : s.puts.length ≤ 4) :
    Calls Try.prog 71 #[.pointer (some ⟨nb, 0, none⟩)] w fun e w' => ∃ v, e = .returned v ∧ OwnP 50 w' w.heap.size v s.puts ∧ Below w.heap.size w w' := by
  have HN : Hid (Now B nb bm w bs k N s rv ov) := h
  have HP : Hid (∀ p, p ∈ s.puts → ∃ j : Nat, j < 4 ∧ p.1 = (j : Int)) := hp
  have HND : Hid ((s.puts.map Prod.fst).Nodup) := hn
  obtain ⟨ao, co, hov, so, _⟩ := h.order.open
  have SO : Hid (SlI w ao (s.puts.map Prod.fst)) := so
  have odc := h.odc
  rw [hov, List.length_map] at odc
  have nbl : nb < w.heap.size := h.boxes.1
  clear h hp hn hov so
  obtain ⟨i0, hi0, hz0, hz1, hz2⟩ := info_parts infoPut
  have HI : Hid (Try.prog.info? 50 = some i0 ∧ i0.zero = some (.agg #[.int .i64 0, .int .i64 0]) ∧ i0.size = 2 ∧ i0.bytes = 16) := ⟨hi0, hz0, hz1, hz2⟩
  clear hi0 hz0 hz1 hz2
  go_enter Try.func71, Try.ntmps71
  go_wp2_with fail
  go_loopw [3, 5, 11] (fun l b i wr => ∃ m : Nat, m ≤ s.puts.length ∧ i = .int .i64 m ∧ Hid (OwnP 50 wr w.heap.size l (s.puts.take m)) ∧ Below w.heap.size w wr) (fun _ _ i _ => s.puts.length - (intOf i).toNat)
  case atStart => exact ⟨0, Nat.zero_le _, rfl, OwnP.nil _ _ _, Below.refl _ _⟩
  case round =>
    obtain ⟨m, hm, rfl, HO, hB⟩ := hrel
    have HB : Hid (Below w.heap.size w wr) := hB
    clear hB odc
    by_cases hlt : m < s.puts.length
    · have hmi : (m : Int) < (s.puts.length : Int) := by omega
      rcases SO.out.below HB.out with h0 | ⟨b1, o1, rfl, h1⟩
      · rw [List.map_eq_nil_iff] at h0; rw [h0] at hlt; simp at hlt
      have ca := h1.2 m (by simpa using hlt)
      have eq : (s.puts.map Prod.fst).getD m 0 = (s.puts.getD m (0, 0)).1 := by simp [List.getD, hlt]
      rw [eq] at ca
      obtain ⟨j, hj, ej⟩ := HP.out (s.puts.getD m (0, 0)) (by simp [List.getD, hlt])
      obtain ⟨hb, ev⟩ := inBox_nth HND.out hlt ej
      have mp : MapP wr bm N s.puts := HN.out.map.block (HB.out.block bm HN.out.map.lt)
      have hlk := mp.look j hj hb
      rw [ev] at hlk
      have mpc : wr.cell? ⟨nb, 18, none⟩ = some (.map (some bm)) := (HB.out.cell (p := ⟨nb, 18, none⟩) nbl).trans HN.out.mpc
      have ET : Hid (s.puts.take (m + 1) = s.puts.take m ++ [s.puts.getD m (0, 0)]) := take_succP _ _ hlt
      rw [ej] at ca
      have EP : Hid (s.puts.getD m (0, 0) = ((j : Int), (s.puts.getD m (0, 0)).2)) := by show _ = _; rw [← ej]
      generalize (s.puts.getD m (0, 0)).2 = z at hlk EP
      have hlm : (s.puts.take m).length = m := by rw [List.length_take]; omega
      clear h1 eq hb ev mp ej
      go_wp2_with (at_builtin; refine wpList_append_own _ rfl _ _ 28 rfl w.heap.size 50 i0 (.agg #[.int .i64 0, .int .i64 0]) 2 16 Try.underlying28 HI.out.1 HI.out.2.1 HI.out.2.2.1 HI.out.2.2.2 rfl (by decide) _ _ _ rfl (World.ownsRow.alloc HO.out _) ⟨wr.heap.size, 0, none⟩ 1 1 [.int .i64 j, .int .i64 z] rfl rfl (two_newP _ _ _ _) (by simp [Value.oneCell']) (by unfold maxLen; omega) (by omega) (by have := HB.out.size; rw [size_new]; omega) ?_)
      intro v' w2 hown' hgrow _
      have OW : Hid (OwnP 50 w2 w.heap.size v' (s.puts.take (m + 1))) := by
        show OwnP _ _ _ _ _
        unfold OwnP
        rw [ET.out, EP.out, List.length_append, flat_snocP, List.length_singleton, hlm]
        exact hown'
      have BW : Hid (Below w.heap.size w w2) := (HB.out.alloc HB.out.size _).grown hgrow (by have := HB.out.size; rw [size_new]; omega) (fun k hk => (World.ownsRow.lt HO.out k hk).1)
      clear hown' hgrow
      go_wp2
      go_roundw
      case rel => exact ⟨m + 1, by omega, by go_num, OW, BW.out⟩
      case measure => simp [intOf]; omega
    · have hme : m = s.puts.length := by omega
      have hmi : ¬ (m : Int) < (s.puts.length : Int) := by omega
      have O1 := HO.out
      rw [hme, List.take_length] at O1
      have O2 : Hid _ := O1
      go_wp2
      go_ret
      exact ⟨_, rfl, O1, HB.out⟩
end Go.Proofs.Ytiibonnchmphcaa.Own

namespace Go.Proofs.Ytiibonnchmphcaa.Own
open Go.RowKit
set_option linter.unusedVariables false
set_option linter.unusedSimpArgs false

theorem assertYes (c : Int) (w : World) : (Instr.typeAssert (.iface 133 (.int .i64 c)) 20 133 true).run Try.prog w = .ok (.tuple #[.int .i64 c, .bool true]) w := by kernel_rfl
theorem assertNo (w : World) : (Instr.typeAssert .nilIface 20 133 true).run Try.prog w = .ok (.tuple #[.int .i64 0, .bool false]) w := by kernel_rfl

set_option maxRecDepth 100000 in
set_option maxHeartbeats 1000000 in
theorem codeOfC (c : Int) (w : World) : Calls Try.prog 69 #[.iface 133 (.int .i64 c)] w fun e w' => e = .returned (.int .i64 c) ∧ w' = w := by
  have h := assertYes c w
  go_enter Try.func69, Try.ntmps69
  go_wp2
  go_ret
  exact ⟨rfl, rfl⟩
set_option maxRecDepth 100000 in
set_option maxHeartbeats 1000000 in
theorem codeOfNil (w : World) : Calls Try.prog 69 #[.nilIface] w fun e w' => e = .returned (.int .i64 0) ∧ w' = w := by
  have h := assertNo w
  go_enter Try.func69, Try.ntmps69
  go_wp2
  go_ret
  exact ⟨rfl, rfl⟩

set_option maxRecDepth 100000 in
set_option maxHeartbeats 1000000 in
/-- The deferred function, of a frame that panics. -/
theorem catchPanic (nb ob : Nat) (c : Int) (ra : Option Addr) (rn rc : Nat) (w : World) (hc : ¬ c = 0) (h17 : w.cell? ⟨nb, 17, none⟩ = some (.slice ra rn rc)) (ho : C4 w ob (.slice none 0 0) (.slice none 0 0) (.int .i64 0) (.int .i64 0)) (hf : ∀ o, w.frozen? ⟨ob, o, none⟩ = false) :
    CallsD Try.prog 68 #[.pointer (some ⟨nb, 0, none⟩), .pointer (some ⟨ob, 0, none⟩)] (.panicking ({ v := .iface 133 (.int .i64 c), recovered := false } :: [])) w fun e u' w' =>
      e = .returned (.tuple #[]) ∧ u' = .panicking ({ v := .iface 133 (.int .i64 c), recovered := true } :: []) ∧ w' = (((w.setCell ⟨ob, 0, none⟩ (.slice ra rn rc)).setCell ⟨ob, 1, none⟩ (.slice none 0 0)).setCell ⟨ob, 2, none⟩ (.int .i64 0)).setCell ⟨ob, 3, none⟩ (.int .i64 c) := by
  obtain ⟨_, c0, c1, c2, c3⟩ := ho
  refine callsD_of_wpS Try.func68 rfl fun c₀ cs hu => ?_
  apply wpS_seq
  apply wpS_region
  simp [wpOpsS, go_sem, recoverD, hu, Try.ntmps68, Exit.thenS]
  refine (codeOfC c w).mono ?_
  rintro e w1 ⟨rfl, hw⟩
  rw [hw]
  clear hw
  have hcb : (c != 0) = true := by simpa using hc
  apply wpS_seq
  apply wpS_region
  simp [wpOpsS, go_sem, Exit.thenS, hcb]
  refine wpS_cond (t := true) (by simp [Act.eval, hc]) ?_
  simp only [if_true]
  apply wpS_region
  simp [wpOpsS, go_sem, h17, c0, c1, c2, c3, hf, bodyPostS, results, Try.results68]

set_option maxRecDepth 100000 in
set_option maxHeartbeats 1000000 in
/-- The deferred function, of a frame that returns. -/
theorem catchIdle (nb ob : Nat) (w : World) :
    CallsD Try.prog 68 #[.pointer (some ⟨nb, 0, none⟩), .pointer (some ⟨ob, 0, none⟩)] .returning w fun e u' w' => e = .returned (.tuple #[]) ∧ u' = .returning ∧ w' = w := by
  refine callsD_of_wpS Try.func68 rfl fun c₀ cs hu => ?_
  apply wpS_seq
  apply wpS_region
  simp [wpOpsS, go_sem, recoverD, hu, Try.ntmps68, Exit.thenS]
  refine (codeOfNil w).mono ?_
  rintro e w1 ⟨rfl, hw⟩
  rw [hw]
  clear hw
  apply wpS_seq
  apply wpS_region
  simp [wpOpsS, go_sem, Exit.thenS]
  refine wpS_cond (t := false) (by simp [Act.eval]) ?_
  simp only [Bool.false_eq_true, if_false]
  refine wpS_of_wp (wp_skip ?_)
  cases c₀
  simp_all [bodyPostS, results, Try.results68]
end Go.Proofs.Ytiibonnchmphcaa.Own

namespace Go.Proofs.Ytiibonnchmphcaa.Own
open Go.RowKit
set_option linter.unusedVariables false
set_option linter.unusedSimpArgs false

set_option maxRecDepth 100000 in
set_option maxHeartbeats 1000000 in
theorem form1 (w : World) : Calls Try.prog 131 #[.int .i64 1] w fun e w' => e = .returned (.agg #[.string ⟨#[108, 111, 97, 100]⟩, .int .i64 0, .int .i64 3, .int .i64 0, .int .i64 3, .int .i64 0, .int .i64 0]) ∧ Below w.heap.size w w' := by
  go_enter Try.func131, Try.ntmps131
  go_wp2
  refine bodyPost_ret (v := .agg #[.string ⟨#[108, 111, 97, 100]⟩, .int .i64 0, .int .i64 3, .int .i64 0, .int .i64 3, .int .i64 0, .int .i64 0]) (by simp [results, Try.results131, go_sem]) rfl ⟨rfl, ?_⟩
  exact (((Below.refl _ _).alloc (Nat.le_refl _) _).alloc (by simp) _).alloc (by simp; omega) _

set_option maxRecDepth 100000 in
set_option maxHeartbeats 1000000 in
theorem form2 (w : World) : Calls Try.prog 131 #[.int .i64 2] w fun e w' => e = .returned (.agg #[.string ⟨#[112, 117, 116]⟩, .int .i64 0, .int .i64 3, .int .i64 0, .int .i64 3, .int .i64 0, .int .i64 0]) ∧ Below w.heap.size w w' := by
  go_enter Try.func131, Try.ntmps131
  go_wp2
  refine bodyPost_ret (v := .agg #[.string ⟨#[112, 117, 116]⟩, .int .i64 0, .int .i64 3, .int .i64 0, .int .i64 3, .int .i64 0, .int .i64 0]) (by simp [results, Try.results131, go_sem]) rfl ⟨rfl, ?_⟩
  exact (((Below.refl _ _).alloc (Nat.le_refl _) _).alloc (by simp) _).alloc (by simp; omega) _

set_option maxRecDepth 100000 in
set_option maxHeartbeats 1000000 in
theorem form3 (w : World) : Calls Try.prog 131 #[.int .i64 3] w fun e w' => e = .returned (.agg #[.string ⟨#[110, 117, 109]⟩, .int .i64 0, .int .i64 3, .int .i64 0, .int .i64 0, .int .i64 (-1000000), .int .i64 1000000]) ∧ Below w.heap.size w w' := by
  go_enter Try.func131, Try.ntmps131
  go_wp2
  refine bodyPost_ret (v := .agg #[.string ⟨#[110, 117, 109]⟩, .int .i64 0, .int .i64 3, .int .i64 0, .int .i64 0, .int .i64 (-1000000), .int .i64 1000000]) (by simp [results, Try.results131, go_sem]) rfl ⟨rfl, ?_⟩
  exact (((Below.refl _ _).alloc (Nat.le_refl _) _).alloc (by simp) _).alloc (by simp; omega) _

set_option maxRecDepth 100000 in
set_option maxHeartbeats 1000000 in
theorem form4 (w : World) : Calls Try.prog 131 #[.int .i64 4] w fun e w' => e = .returned (.agg #[.string ⟨#[97, 100, 100]⟩, .int .i64 0, .int .i64 3, .int .i64 0, .int .i64 3, .int .i64 0, .int .i64 0]) ∧ Below w.heap.size w w' := by
  go_enter Try.func131, Try.ntmps131
  go_wp2
  refine bodyPost_ret (v := .agg #[.string ⟨#[97, 100, 100]⟩, .int .i64 0, .int .i64 3, .int .i64 0, .int .i64 3, .int .i64 0, .int .i64 0]) (by simp [results, Try.results131, go_sem]) rfl ⟨rfl, ?_⟩
  exact (((Below.refl _ _).alloc (Nat.le_refl _) _).alloc (by simp) _).alloc (by simp; omega) _

set_option maxRecDepth 100000 in
set_option maxHeartbeats 1000000 in
theorem form5 (w : World) : Calls Try.prog 131 #[.int .i64 5] w fun e w' => e = .returned (.agg #[.string ⟨#[115, 117, 98]⟩, .int .i64 0, .int .i64 3, .int .i64 0, .int .i64 3, .int .i64 0, .int .i64 0]) ∧ Below w.heap.size w w' := by
  go_enter Try.func131, Try.ntmps131
  go_wp2
  refine bodyPost_ret (v := .agg #[.string ⟨#[115, 117, 98]⟩, .int .i64 0, .int .i64 3, .int .i64 0, .int .i64 3, .int .i64 0, .int .i64 0]) (by simp [results, Try.results131, go_sem]) rfl ⟨rfl, ?_⟩
  exact (((Below.refl _ _).alloc (Nat.le_refl _) _).alloc (by simp) _).alloc (by simp; omega) _

set_option maxRecDepth 100000 in
set_option maxHeartbeats 1000000 in
theorem form6 (w : World) : Calls Try.prog 131 #[.int .i64 6] w fun e w' => e = .returned (.agg #[.string ⟨#[108, 101, 115, 115]⟩, .int .i64 0, .int .i64 3, .int .i64 0, .int .i64 3, .int .i64 1, .int .i64 10]) ∧ Below w.heap.size w w' := by
  go_enter Try.func131, Try.ntmps131
  go_wp2
  refine bodyPost_ret (v := .agg #[.string ⟨#[108, 101, 115, 115]⟩, .int .i64 0, .int .i64 3, .int .i64 0, .int .i64 3, .int .i64 1, .int .i64 10]) (by simp [results, Try.results131, go_sem]) rfl ⟨rfl, ?_⟩
  exact (((Below.refl _ _).alloc (Nat.le_refl _) _).alloc (by simp) _).alloc (by simp; omega) _

set_option maxRecDepth 100000 in
set_option maxHeartbeats 1000000 in
theorem form7 (w : World) : Calls Try.prog 131 #[.int .i64 7] w fun e w' => e = .returned (.agg #[.string ⟨#[102, 97, 105, 108]⟩, .int .i64 0, .int .i64 0, .int .i64 0, .int .i64 0, .int .i64 0, .int .i64 0]) ∧ Below w.heap.size w w' := by
  go_enter Try.func131, Try.ntmps131
  go_wp2
  refine bodyPost_ret (v := .agg #[.string ⟨#[102, 97, 105, 108]⟩, .int .i64 0, .int .i64 0, .int .i64 0, .int .i64 0, .int .i64 0, .int .i64 0]) (by simp [results, Try.results131, go_sem]) rfl ⟨rfl, ?_⟩
  exact (((Below.refl _ _).alloc (Nat.le_refl _) _).alloc (by simp) _).alloc (by simp; omega) _

/-- A kind that there is not. -/
def NoKind (k : Int) : Prop := (k == 1) = false ∧ (k == 2) = false ∧ (k == 3) = false ∧ (k == 4) = false ∧ (k == 5) = false ∧ (k == 6) = false ∧ (k == 7) = false

set_option maxRecDepth 100000 in
set_option maxHeartbeats 1000000 in
theorem formNo (k : Int) (w : World) (h : NoKind k) : Calls Try.prog 131 #[.int .i64 k] w fun e w' => e = .returned (.agg #[.string ⟨#[]⟩, .int .i64 0, .int .i64 0, .int .i64 0, .int .i64 0, .int .i64 0, .int .i64 0]) ∧ Below w.heap.size w w' := by
  obtain ⟨h1, h2, h3, h4, h5, h6, h7⟩ := h
  go_enter Try.func131, Try.ntmps131
  go_wp2
  refine bodyPost_ret (v := .agg #[.string ⟨#[]⟩, .int .i64 0, .int .i64 0, .int .i64 0, .int .i64 0, .int .i64 0, .int .i64 0]) (by simp [results, Try.results131, go_sem]) rfl ⟨rfl, ?_⟩
  exact (((Below.refl _ _).alloc (Nat.le_refl _) _).alloc (by simp) _).alloc (by simp; omega) _

def within (lo hi n : Int) : Bool := decide (lo ≤ n) && decide (n ≤ hi)

set_option maxRecDepth 100000 in
set_option maxHeartbeats 1000000 in
theorem holdsC (lo hi n : Int) (w : World) : Calls Try.prog 132 #[.agg #[.int .i64 lo, .int .i64 hi], .int .i64 n] w fun e w' => e = .returned (.bool (within lo hi n)) ∧ Below w.heap.size w w' := by
  have E : Hid (within lo hi n = (decide (lo ≤ n) && decide (n ≤ hi))) := rfl
  generalize within lo hi n = r at E ⊢
  by_cases h1 : lo ≤ n
  · by_cases h2 : n ≤ hi
    all_goals
      go_enter Try.func132, Try.ntmps132
      go_wp2
      go_ret
      exact ⟨ret_bool (by rw [E.out]; simp [h1, h2]), (Below.refl _ _).alloc (Nat.le_refl _) _⟩
  · have h1' : n < lo := by omega
    have h1'' : decide (lo ≤ n) = false := by simpa using h1
    go_enter Try.func132, Try.ntmps132
    go_wp2
    go_ret
    exact ⟨ret_bool (by rw [E.out, h1'']; rfl), (Below.refl _ _).alloc (Nat.le_refl _) _⟩
end Go.Proofs.Ytiibonnchmphcaa.Own
