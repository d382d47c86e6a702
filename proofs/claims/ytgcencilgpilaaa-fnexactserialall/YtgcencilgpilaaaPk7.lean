/-
  Own texts, bundled: RunTold, RunCatch, Form, InsOk, ProgOkI, ImplRun, RunB.
-/
import Derived.Test.YtgcencilgpilaaaPk6
import Derived.OwnWalk
import Derived.Recover
import Derived.Laws.Pointers
import Derived.Test.YtgcencilgpilaaaPk2
import Derived.Test.YtgcencilgpilaaaPk3
import Derived.Laws.Tables
import Derived.Deep.RegionHeld
import Derived.Test.YtgcencilgpilaaaPk5
namespace Go.Proofs.Ytgcencilgpilaaa.Own
open Go.RowKit
set_option linter.unusedVariables false
set_option linter.unusedSimpArgs false

theorem inBox_nth {ys : List P2} (hn : (ys.map Prod.fst).Nodup) {m j : Nat} (hm : m < ys.length) (e : (ys.getD m (0, 0)).1 = (j : Int)) : hasBox ys j = true ∧ inBox [] ys j = (ys.getD m (0, 0)).2 := by
  have hb : hasBox ys j = true := hasBox_iff.2 (by rw [← e, List.mem_map]; exact ⟨_, by simp [List.getD, hm], rfl⟩)
  refine ⟨hb, ?_⟩
  have hl := idx_lt hb
  have ea := idx_at hb
  have : idxBox ys j = m := by
    have hp := List.pairwise_iff_getElem.1 hn
    rcases Nat.lt_trichotomy (idxBox ys j) m with h | h | h
    · have := hp (idxBox ys j) m (by simpa using hl) (by simpa using hm) h
      simp only [List.getElem_map] at this
      rw [List.getD_eq_getElem?_getD, List.getElem?_eq_getElem hl] at ea
      rw [List.getD_eq_getElem?_getD, List.getElem?_eq_getElem hm] at e
      exact absurd (ea.trans e.symm) this
    · exact h
    · have := hp m (idxBox ys j) (by simpa using hm) (by simpa using hl) h
      simp only [List.getElem_map] at this
      rw [List.getD_eq_getElem?_getD, List.getElem?_eq_getElem hl] at ea
      rw [List.getD_eq_getElem?_getD, List.getElem?_eq_getElem hm] at e
      exact absurd (e.trans ea.symm) this
  unfold inBox
  rw [if_pos hb, this]
theorem two_newP (w : World) (x y : Value) (t : TypeId) : ∀ j u, [x, y][j]? = some u → (w.alloc (.cells #[x, y] t)).cell? ((⟨w.heap.size, 0, none⟩ : Addr).add j) = some u := by
  intro j u hu
  have e : (⟨w.heap.size, 0, none⟩ : Addr).add j = ⟨w.heap.size, j, none⟩ := by unfold Addr.add; split <;> simp_all
  rw [e, cell_heap (heap_new _ _)]
  simpa using hu
theorem take_succP (ys : List P2) (k : Nat) (h : k < ys.length) : ys.take (k + 1) = ys.take k ++ [ys.getD k (0, 0)] := by
  rw [List.take_succ_eq_append_getElem h]; simp [List.getD, h]

set_option maxRecDepth 100000 in
set_option maxHeartbeats 2000000 in
theorem toldC (B nb bm : Nat) (bs : List P2) (k N : Nat) (s : RunSt) (rv ov : Value) (w : World) (h : Now B nb bm w bs k N s rv ov) (hp : ∀ p, p ∈ s.puts → ∃ j : Nat, j < 4 ∧ p.1 = (j : Int)) (hn : (s.puts.map Prod.fst).Nodup) (hl : s.puts.length ≤ 4) :
    Calls Try.prog 146 #[.pointer (some ⟨nb, 0, none⟩)] w fun e w' => ∃ v, e = .returned v ∧ OwnP 36 w' w.heap.size v s.puts ∧ Below w.heap.size w w' := by
  have HN : Hid (Now B nb bm w bs k N s rv ov) := h
  have HP : Hid (∀ p, p ∈ s.puts → ∃ j : Nat, j < 4 ∧ p.1 = (j : Int)) := hp
  have HND : Hid ((s.puts.map Prod.fst).Nodup) := hn
  obtain ⟨ao, co, hov, so, _⟩ := h.order.open
  have SO : Hid (SlI w ao (s.puts.map Prod.fst)) := so
  have odc := h.odc
  rw [hov, List.length_map] at odc
  have nbl : nb < w.heap.size := h.boxes.1
  clear h hp hn hov so
  obtain ⟨i0, hi0, hz0, hz1, hz2⟩ := info_parts infoPut
  have HI : Hid (Try.prog.info? 36 = some i0 ∧ i0.zero = some (.agg #[.int .i64 0, .int .i64 0]) ∧ i0.size = 2 ∧ i0.bytes = 16) := ⟨hi0, hz0, hz1, hz2⟩
  clear hi0 hz0 hz1 hz2
  go_enter Try.func146, Try.ntmps146
  go_wp2_with fail
  go_loopw [3, 5, 11] (fun l b i wr => ∃ m : Nat, m ≤ s.puts.length ∧ i = .int .i64 m ∧ Hid (OwnP 36 wr w.heap.size l (s.puts.take m)) ∧ Below w.heap.size w wr) (fun _ _ i _ => s.puts.length - (intOf i).toNat)
  case atStart => exact ⟨0, Nat.zero_le _, rfl, OwnP.nil _ _ _, Below.refl _ _⟩
  case round =>
    obtain ⟨m, hm, rfl, HO, hB⟩ := hrel
    have HB : Hid (Below w.heap.size w wr) := hB
    clear hB odc
    by_cases hlt : m < s.puts.length
    · have hmi : (m : Int) < (s.puts.length : Int) := by omega
      rcases SO.out.below HB.out with h0 | ⟨b1, o1, rfl, h1⟩
      · rw [List.map_eq_nil_iff] at h0; rw [h0] at hlt; simp at hlt
      have ca := h1.2 m (by simpa using hlt)
      have eq : (s.puts.map Prod.fst).getD m 0 = (s.puts.getD m (0, 0)).1 := by simp [List.getD, hlt]
      rw [eq] at ca
      obtain ⟨j, hj, ej⟩ := HP.out (s.puts.getD m (0, 0)) (by simp [List.getD, hlt])
      obtain ⟨hb, ev⟩ := inBox_nth HND.out hlt ej
      have mp : MapP wr bm N s.puts := HN.out.map.block (HB.out.block bm HN.out.map.lt)
      have hlk := mp.look j hj hb
      rw [ev] at hlk
      have mpc : wr.cell? ⟨nb, 18, none⟩ = some (.map (some bm)) := (HB.out.cell (p := ⟨nb, 18, none⟩) nbl).trans HN.out.mpc
      have ET : Hid (s.puts.take (m + 1) = s.puts.take m ++ [s.puts.getD m (0, 0)]) := take_succP _ _ hlt
      rw [ej] at ca
      have EP : Hid (s.puts.getD m (0, 0) = ((j : Int), (s.puts.getD m (0, 0)).2)) := by show _ = _; rw [← ej]
      generalize (s.puts.getD m (0, 0)).2 = z at hlk EP
      have hlm : (s.puts.take m).length = m := by rw [List.length_take]; omega
      clear h1 eq hb ev mp ej
      go_wp2_with (at_builtin; refine wpList_append_own _ rfl _ _ 25 rfl w.heap.size 36 i0 (.agg #[.int .i64 0, .int .i64 0]) 2 16 Try.underlying25 HI.out.1 HI.out.2.1 HI.out.2.2.1 HI.out.2.2.2 rfl (by decide) _ _ _ rfl (World.ownsRow.alloc HO.out _) ⟨wr.heap.size, 0, none⟩ 1 1 [.int .i64 j, .int .i64 z] rfl rfl (two_newP _ _ _ _) (by simp [Value.oneCell']) (by unfold maxLen; omega) (by omega) (by have := HB.out.size; rw [size_new]; omega) ?_)
      intro v' w2 hown' hgrow _
      have OW : Hid (OwnP 36 w2 w.heap.size v' (s.puts.take (m + 1))) := by
        show OwnP _ _ _ _ _
        unfold OwnP
        rw [ET.out, EP.out, List.length_append, flat_snocP, List.length_singleton, hlm]
        exact hown'
      have BW : Hid (Below w.heap.size w w2) := (HB.out.alloc HB.out.size _).grown hgrow (by have := HB.out.size; rw [size_new]; omega) (fun k hk => (World.ownsRow.lt HO.out k hk).1)
      clear hown' hgrow
      go_wp2
      go_roundw
      case rel => exact ⟨m + 1, by omega, by go_num, OW, BW.out⟩
      case measure => simp [intOf]; omega
    · have hme : m = s.puts.length := by omega
      have hmi : ¬ (m : Int) < (s.puts.length : Int) := by omega
      have O1 := HO.out
      rw [hme, List.take_length] at O1
      have O2 : Hid _ := O1
      go_wp2
      go_ret
      exact ⟨_, rfl, O1, HB.out⟩
end Go.Proofs.Ytgcencilgpilaaa.Own

namespace Go.Proofs.Ytgcencilgpilaaa.Own
open Go.RowKit
set_option linter.unusedVariables false
set_option linter.unusedSimpArgs false

theorem assertYes (c : Int) (w : World) : (Instr.typeAssert (.iface 206 (.int .i64 c)) 20 206 true).run Try.prog w = .ok (.tuple #[.int .i64 c, .bool true]) w := by kernel_rfl
theorem assertNo (w : World) : (Instr.typeAssert .nilIface 20 206 true).run Try.prog w = .ok (.tuple #[.int .i64 0, .bool false]) w := by kernel_rfl

set_option maxRecDepth 100000 in
set_option maxHeartbeats 1000000 in
theorem codeOfC (c : Int) (w : World) : Calls Try.prog 144 #[.iface 206 (.int .i64 c)] w fun e w' => e = .returned (.int .i64 c) ∧ w' = w := by
  have h := assertYes c w
  go_enter Try.func144, Try.ntmps144
  go_wp2
  go_ret
  exact ⟨rfl, rfl⟩
set_option maxRecDepth 100000 in
set_option maxHeartbeats 1000000 in
theorem codeOfNil (w : World) : Calls Try.prog 144 #[.nilIface] w fun e w' => e = .returned (.int .i64 0) ∧ w' = w := by
  have h := assertNo w
  go_enter Try.func144, Try.ntmps144
  go_wp2
  go_ret
  exact ⟨rfl, rfl⟩

set_option maxRecDepth 100000 in
set_option maxHeartbeats 1000000 in
/-- The deferred function, of a frame that panics. -/
theorem catchPanic (nb ob : Nat) (c : Int) (ra : Option Addr) (rn rc : Nat) (w : World) (hc : ¬ c = 0) (h17 : w.cell? ⟨nb, 17, none⟩ = some (.slice ra rn rc)) (ho : C4 w ob (.slice none 0 0) (.slice none 0 0) (.int .i64 0) (.int .i64 0)) (hf : ∀ o, w.frozen? ⟨ob, o, none⟩ = false) :
    CallsD Try.prog 143 #[.pointer (some ⟨nb, 0, none⟩), .pointer (some ⟨ob, 0, none⟩)] (.panicking ({ v := .iface 206 (.int .i64 c), recovered := false } :: [])) w fun e u' w' =>
      e = .returned (.tuple #[]) ∧ u' = .panicking ({ v := .iface 206 (.int .i64 c), recovered := true } :: []) ∧ w' = (((w.setCell ⟨ob, 0, none⟩ (.slice ra rn rc)).setCell ⟨ob, 1, none⟩ (.slice none 0 0)).setCell ⟨ob, 2, none⟩ (.int .i64 0)).setCell ⟨ob, 3, none⟩ (.int .i64 c) := by
  obtain ⟨_, c0, c1, c2, c3⟩ := ho
  refine callsD_of_wpS Try.func143 rfl fun c₀ cs hu => ?_
  apply wpS_seq
  apply wpS_region
  simp [wpOpsS, go_sem, recoverD, hu, Try.ntmps143, Exit.thenS]
  refine (codeOfC c w).mono ?_
  rintro e w1 ⟨rfl, hw⟩
  rw [hw]
  clear hw
  have hcb : (c != 0) = true := by simpa using hc
  apply wpS_seq
  apply wpS_region
  simp [wpOpsS, go_sem, Exit.thenS, hcb]
  refine wpS_cond (t := true) (by simp [Act.eval, hc]) ?_
  simp only [if_true]
  apply wpS_region
  simp [wpOpsS, go_sem, h17, c0, c1, c2, c3, hf, bodyPostS, results, Try.results143]

set_option maxRecDepth 100000 in
set_option maxHeartbeats 1000000 in
/-- The deferred function, of a frame that returns. -/
theorem catchIdle (nb ob : Nat) (w : World) :
    CallsD Try.prog 143 #[.pointer (some ⟨nb, 0, none⟩), .pointer (some ⟨ob, 0, none⟩)] .returning w fun e u' w' => e = .returned (.tuple #[]) ∧ u' = .returning ∧ w' = w := by
  refine callsD_of_wpS Try.func143 rfl fun c₀ cs hu => ?_
  apply wpS_seq
  apply wpS_region
  simp [wpOpsS, go_sem, recoverD, hu, Try.ntmps143, Exit.thenS]
  refine (codeOfNil w).mono ?_
  rintro e w1 ⟨rfl, hw⟩
  rw [hw]
  clear hw
  apply wpS_seq
  apply wpS_region
  simp [wpOpsS, go_sem, Exit.thenS]
  refine wpS_cond (t := false) (by simp [Act.eval]) ?_
  simp only [Bool.false_eq_true, if_false]
  refine wpS_of_wp (wp_skip ?_)
  cases c₀
  simp_all [bodyPostS, results, Try.results143]
end Go.Proofs.Ytgcencilgpilaaa.Own

namespace Go.Proofs.Ytgcencilgpilaaa.Own
open Go.RowKit
set_option linter.unusedVariables false
set_option linter.unusedSimpArgs false

set_option maxRecDepth 100000 in
set_option maxHeartbeats 1000000 in
theorem form1 (w : World) : Calls Try.prog 147 #[.int .i64 1] w fun e w' => e = .returned (.agg #[.string ⟨#[108, 111, 97, 100]⟩, .int .i64 0, .int .i64 3, .int .i64 0, .int .i64 3, .int .i64 0, .int .i64 0]) ∧ Below w.heap.size w w' := by
  go_enter Try.func147, Try.ntmps147
  go_wp2
  refine bodyPost_ret (v := .agg #[.string ⟨#[108, 111, 97, 100]⟩, .int .i64 0, .int .i64 3, .int .i64 0, .int .i64 3, .int .i64 0, .int .i64 0]) (by simp [results, Try.results147, go_sem]) rfl ⟨rfl, ?_⟩
  exact (((Below.refl _ _).alloc (Nat.le_refl _) _).alloc (by simp) _).alloc (by simp; omega) _

set_option maxRecDepth 100000 in
set_option maxHeartbeats 1000000 in
theorem form2 (w : World) : Calls Try.prog 147 #[.int .i64 2] w fun e w' => e = .returned (.agg #[.string ⟨#[112, 117, 116]⟩, .int .i64 0, .int .i64 3, .int .i64 0, .int .i64 3, .int .i64 0, .int .i64 0]) ∧ Below w.heap.size w w' := by
  go_enter Try.func147, Try.ntmps147
  go_wp2
  refine bodyPost_ret (v := .agg #[.string ⟨#[112, 117, 116]⟩, .int .i64 0, .int .i64 3, .int .i64 0, .int .i64 3, .int .i64 0, .int .i64 0]) (by simp [results, Try.results147, go_sem]) rfl ⟨rfl, ?_⟩
  exact (((Below.refl _ _).alloc (Nat.le_refl _) _).alloc (by simp) _).alloc (by simp; omega) _

set_option maxRecDepth 100000 in
set_option maxHeartbeats 1000000 in
theorem form3 (w : World) : Calls Try.prog 147 #[.int .i64 3] w fun e w' => e = .returned (.agg #[.string ⟨#[110, 117, 109]⟩, .int .i64 0, .int .i64 3, .int .i64 0, .int .i64 0, .int .i64 (-1000000), .int .i64 1000000]) ∧ Below w.heap.size w w' := by
  go_enter Try.func147, Try.ntmps147
  go_wp2
  refine bodyPost_ret (v := .agg #[.string ⟨#[110, 117, 109]⟩, .int .i64 0, .int .i64 3, .int .i64 0, .int .i64 0, .int .i64 (-1000000), .int .i64 1000000]) (by simp [results, Try.results147, go_sem]) rfl ⟨rfl, ?_⟩
  exact (((Below.refl _ _).alloc (Nat.le_refl _) _).alloc (by simp) _).alloc (by simp; omega) _

set_option maxRecDepth 100000 in
set_option maxHeartbeats 1000000 in
theorem form4 (w : World) : Calls Try.prog 147 #[.int .i64 4] w fun e w' => e = .returned (.agg #[.string ⟨#[97, 100, 100]⟩, .int .i64 0, .int .i64 3, .int .i64 0, .int .i64 3, .int .i64 0, .int .i64 0]) ∧ Below w.heap.size w w' := by
  go_enter Try.func147, Try.ntmps147
  go_wp2
  refine bodyPost_ret (v := .agg #[.string ⟨#[97, 100, 100]⟩, .int .i64 0, .int .i64 3, .int .i64 0, .int .i64 3, .int .i64 0, .int .i64 0]) (by simp [results, Try.results147, go_sem]) rfl ⟨rfl, ?_⟩
  exact (((Below.refl _ _).alloc (Nat.le_refl _) _).alloc (by simp) _).alloc (by simp; omega) _

set_option maxRecDepth 100000 in
set_option maxHeartbeats 1000000 in
theorem form5 (w : World) : Calls Try.prog 147 #[.int .i64 5] w fun e w' => e = .returned (.agg #[.string ⟨#[115, 117, 98]⟩, .int .i64 0, .int .i64 3, .int .i64 0, .int .i64 3, .int .i64 0, .int .i64 0]) ∧ Below w.heap.size w w' := by
  go_enter Try.func147, Try.ntmps147
  go_wp2
  refine bodyPost_ret (v := .agg #[.string ⟨#[115, 117, 98]⟩, .int .i64 0, .int .i64 3, .int .i64 0, .int .i64 3, .int .i64 0, .int .i64 0]) (by simp [results, Try.results147, go_sem]) rfl ⟨rfl, ?_⟩
  exact (((Below.refl _ _).alloc (Nat.le_refl _) _).alloc (by simp) _).alloc (by simp; omega) _

set_option maxRecDepth 100000 in
set_option maxHeartbeats 1000000 in
theorem form6 (w : World) : Calls Try.prog 147 #[.int .i64 6] w fun e w' => e = .returned (.agg #[.string ⟨#[108, 101, 115, 115]⟩, .int .i64 0, .int .i64 3, .int .i64 0, .int .i64 3, .int .i64 1, .int .i64 10]) ∧ Below w.heap.size w w' := by
  go_enter Try.func147, Try.ntmps147
  go_wp2
  refine bodyPost_ret (v := .agg #[.string ⟨#[108, 101, 115, 115]⟩, .int .i64 0, .int .i64 3, .int .i64 0, .int .i64 3, .int .i64 1, .int .i64 10]) (by simp [results, Try.results147, go_sem]) rfl ⟨rfl, ?_⟩
  exact (((Below.refl _ _).alloc (Nat.le_refl _) _).alloc (by simp) _).alloc (by simp; omega) _

set_option maxRecDepth 100000 in
set_option maxHeartbeats 1000000 in
theorem form7 (w : World) : Calls Try.prog 147 #[.int .i64 7] w fun e w' => e = .returned (.agg #[.string ⟨#[102, 97, 105, 108]⟩, .int .i64 0, .int .i64 0, .int .i64 0, .int .i64 0, .int .i64 0, .int .i64 0]) ∧ Below w.heap.size w w' := by
  go_enter Try.func147, Try.ntmps147
  go_wp2
  refine bodyPost_ret (v := .agg #[.string ⟨#[102, 97, 105, 108]⟩, .int .i64 0, .int .i64 0, .int .i64 0, .int .i64 0, .int .i64 0, .int .i64 0]) (by simp [results, Try.results147, go_sem]) rfl ⟨rfl, ?_⟩
  exact (((Below.refl _ _).alloc (Nat.le_refl _) _).alloc (by simp) _).alloc (by simp; omega) _

/-- A kind that there is not. -/
def NoKind (k : Int) : Prop := (k == 1) = false ∧ (k == 2) = false ∧ (k == 3) = false ∧ (k == 4) = false ∧ (k == 5) = false ∧ (k == 6) = false ∧ (k == 7) = false

set_option maxRecDepth 100000 in
set_option maxHeartbeats 1000000 in
theorem formNo (k : Int) (w : World) (h : NoKind k) : Calls Try.prog 147 #[.int .i64 k] w fun e w' => e = .returned (.agg #[.string ⟨#[]⟩, .int .i64 0, .int .i64 0, .int .i64 0, .int .i64 0, .int .i64 0, .int .i64 0]) ∧ Below w.heap.size w w' := by
  obtain ⟨h1, h2, h3, h4, h5, h6, h7⟩ := h
  go_enter Try.func147, Try.ntmps147
  go_wp2
  refine bodyPost_ret (v := .agg #[.string ⟨#[]⟩, .int .i64 0, .int .i64 0, .int .i64 0, .int .i64 0, .int .i64 0, .int .i64 0]) (by simp [results, Try.results147, go_sem]) rfl ⟨rfl, ?_⟩
  exact (((Below.refl _ _).alloc (Nat.le_refl _) _).alloc (by simp) _).alloc (by simp; omega) _

def within (lo hi n : Int) : Bool := decide (lo ≤ n) && decide (n ≤ hi)

set_option maxRecDepth 100000 in
set_option maxHeartbeats 1000000 in
theorem holdsC (lo hi n : Int) (w : World) : Calls Try.prog 148 #[.agg #[.int .i64 lo, .int .i64 hi], .int .i64 n] w fun e w' => e = .returned (.bool (within lo hi n)) ∧ Below w.heap.size w w' := by
  have E : Hid (within lo hi n = (decide (lo ≤ n) && decide (n ≤ hi))) := rfl
  generalize within lo hi n = r at E ⊢
  by_cases h1 : lo ≤ n
  · by_cases h2 : n ≤ hi
    all_goals
      go_enter Try.func148, Try.ntmps148
      go_wp2
      go_ret
      exact ⟨ret_bool (by rw [E.out]; simp [h1, h2]), (Below.refl _ _).alloc (Nat.le_refl _) _⟩
  · have h1' : n < lo := by omega
    have h1'' : decide (lo ≤ n) = false := by simpa using h1
    go_enter Try.func148, Try.ntmps148
    go_wp2
    go_ret
    exact ⟨ret_bool (by rw [E.out, h1'']; rfl), (Below.refl _ _).alloc (Nat.le_refl _) _⟩
end Go.Proofs.Ytgcencilgpilaaa.Own

namespace Go.Proofs.Ytgcencilgpilaaa.Own
open Go.RowKit
set_option linter.unusedVariables false
set_option linter.unusedSimpArgs false

theorem within_reg (n : Int) : within 0 3 n = regOk n := rfl
theorem within_num (n : Int) : within (-1000000) 1000000 n = numOk2 n := rfl
theorem within_less (n : Int) : within 1 10 n = lessOk n := rfl
theorem within_zero (n : Int) : within 0 0 n = (n == 0) := by
  unfold within
  by_cases h : n = 0
  · subst h; rfl
  · have : (n == 0) = false := by simpa using h
    rw [this]; simp; omega

set_option maxRecDepth 100000 in
set_option maxHeartbeats 2000000 in
theorem insOkC1 (a b n : Int) (w : World) : Calls Try.prog 124 #[.agg #[.int .i64 1, .int .i64 a, .int .i64 b, .int .i64 n]] w fun e w' => e = .returned (.bool (within 0 3 a && within 0 3 b && within 0 0 n)) ∧ Below w.heap.size w w' := by
  cases ha : within 0 3 a with
  | false =>
    go_enter Try.func124, Try.ntmps124
    go_wp2_with fail
    refine (form1 _).mono ?_
    rintro e w1 ⟨rfl, hb1⟩
    obtain ⟨c1, f1⟩ := bcell hb1
    have hz1 : w.heap.size < w1.heap.size := by have := hb1.size; simp at this; omega
    have B1 : Hid (Below w.heap.size w w1) := ((Below.refl _ _).alloc (Nat.le_refl _) _).trans (hb1.mono (by simp))
    clear hb1
    go_wp2_with fail
    refine (holdsC _ _ _ _).mono ?_
    rintro e w2 ⟨rfl, hb2⟩
    obtain ⟨c2, f2⟩ := bcell hb2
    have hz2 : w1.heap.size < w2.heap.size := by have := hb2.size; simp at this; omega
    have hy2 : w.heap.size < w2.heap.size := by omega
    have B2 : Hid (Below w.heap.size w w2) := (B1.out.alloc B1.out.size _).trans (hb2.mono (by have := B1.out.size; simp; omega))
    clear hb2
    go_wp2_with fail
    go_ret
    exact ⟨rfl, B2.out⟩
  | true =>
    cases hb : within 0 3 b with
    | false =>
      go_enter Try.func124, Try.ntmps124
      go_wp2_with fail
      refine (form1 _).mono ?_
      rintro e w1 ⟨rfl, hb1⟩
      obtain ⟨c1, f1⟩ := bcell hb1
      have hz1 : w.heap.size < w1.heap.size := by have := hb1.size; simp at this; omega
      have B1 : Hid (Below w.heap.size w w1) := ((Below.refl _ _).alloc (Nat.le_refl _) _).trans (hb1.mono (by simp))
      clear hb1
      go_wp2_with fail
      refine (holdsC _ _ _ _).mono ?_
      rintro e w2 ⟨rfl, hb2⟩
      obtain ⟨c2, f2⟩ := bcell hb2
      have hz2 : w1.heap.size < w2.heap.size := by have := hb2.size; simp at this; omega
      have hy2 : w.heap.size < w2.heap.size := by omega
      have B2 : Hid (Below w.heap.size w w2) := (B1.out.alloc B1.out.size _).trans (hb2.mono (by have := B1.out.size; simp; omega))
      clear hb2
      go_wp2_with fail
      refine (holdsC _ _ _ _).mono ?_
      rintro e w3 ⟨rfl, hb3⟩
      obtain ⟨c3, f3⟩ := bcell hb3
      have hz3 : w1.heap.size < w3.heap.size := by have := hb3.size; omega
      have hy3 : w.heap.size < w3.heap.size := by omega
      have B3 : Hid (Below w.heap.size w w3) := B2.out.trans (hb3.mono (by have := B2.out.size; simp; omega))
      clear hb3
      go_wp2_with fail
      go_ret
      exact ⟨rfl, B3.out⟩
    | true =>
      go_enter Try.func124, Try.ntmps124
      go_wp2_with fail
      refine (form1 _).mono ?_
      rintro e w1 ⟨rfl, hb1⟩
      obtain ⟨c1, f1⟩ := bcell hb1
      have hz1 : w.heap.size < w1.heap.size := by have := hb1.size; simp at this; omega
      have B1 : Hid (Below w.heap.size w w1) := ((Below.refl _ _).alloc (Nat.le_refl _) _).trans (hb1.mono (by simp))
      clear hb1
      go_wp2_with fail
      refine (holdsC _ _ _ _).mono ?_
      rintro e w2 ⟨rfl, hb2⟩
      obtain ⟨c2, f2⟩ := bcell hb2
      have hz2 : w1.heap.size < w2.heap.size := by have := hb2.size; simp at this; omega
      have hy2 : w.heap.size < w2.heap.size := by omega
      have B2 : Hid (Below w.heap.size w w2) := (B1.out.alloc B1.out.size _).trans (hb2.mono (by have := B1.out.size; simp; omega))
      clear hb2
      go_wp2_with fail
      refine (holdsC _ _ _ _).mono ?_
      rintro e w3 ⟨rfl, hb3⟩
      obtain ⟨c3, f3⟩ := bcell hb3
      have hz3 : w1.heap.size < w3.heap.size := by have := hb3.size; omega
      have hy3 : w.heap.size < w3.heap.size := by omega
      have B3 : Hid (Below w.heap.size w w3) := B2.out.trans (hb3.mono (by have := B2.out.size; simp; omega))
      clear hb3
      go_wp2_with fail
      refine (holdsC _ _ _ _).mono ?_
      rintro e w4 ⟨rfl, hb4⟩
      obtain ⟨c4, f4⟩ := bcell hb4
      have hz4 : w1.heap.size < w4.heap.size := by have := hb4.size; omega
      have hy4 : w.heap.size < w4.heap.size := by omega
      have B4 : Hid (Below w.heap.size w w4) := B3.out.trans (hb4.mono (by have := B3.out.size; simp; omega))
      clear hb4
      go_wp2_with fail
      go_ret
      exact ⟨rfl, B4.out⟩

set_option maxRecDepth 100000 in
set_option maxHeartbeats 2000000 in
theorem insOkC2 (a b n : Int) (w : World) : Calls Try.prog 124 #[.agg #[.int .i64 2, .int .i64 a, .int .i64 b, .int .i64 n]] w fun e w' => e = .returned (.bool (within 0 3 a && within 0 3 b && within 0 0 n)) ∧ Below w.heap.size w w' := by
  cases ha : within 0 3 a with
  | false =>
    go_enter Try.func124, Try.ntmps124
    go_wp2_with fail
    refine (form2 _).mono ?_
    rintro e w1 ⟨rfl, hb1⟩
    obtain ⟨c1, f1⟩ := bcell hb1
    have hz1 : w.heap.size < w1.heap.size := by have := hb1.size; simp at this; omega
    have B1 : Hid (Below w.heap.size w w1) := ((Below.refl _ _).alloc (Nat.le_refl _) _).trans (hb1.mono (by simp))
    clear hb1
    go_wp2_with fail
    refine (holdsC _ _ _ _).mono ?_
    rintro e w2 ⟨rfl, hb2⟩
    obtain ⟨c2, f2⟩ := bcell hb2
    have hz2 : w1.heap.size < w2.heap.size := by have := hb2.size; simp at this; omega
    have hy2 : w.heap.size < w2.heap.size := by omega
    have B2 : Hid (Below w.heap.size w w2) := (B1.out.alloc B1.out.size _).trans (hb2.mono (by have := B1.out.size; simp; omega))
    clear hb2
    go_wp2_with fail
    go_ret
    exact ⟨rfl, B2.out⟩
  | true =>
    cases hb : within 0 3 b with
    | false =>
      go_enter Try.func124, Try.ntmps124
      go_wp2_with fail
      refine (form2 _).mono ?_
      rintro e w1 ⟨rfl, hb1⟩
      obtain ⟨c1, f1⟩ := bcell hb1
      have hz1 : w.heap.size < w1.heap.size := by have := hb1.size; simp at this; omega
      have B1 : Hid (Below w.heap.size w w1) := ((Below.refl _ _).alloc (Nat.le_refl _) _).trans (hb1.mono (by simp))
      clear hb1
      go_wp2_with fail
      refine (holdsC _ _ _ _).mono ?_
      rintro e w2 ⟨rfl, hb2⟩
      obtain ⟨c2, f2⟩ := bcell hb2
      have hz2 : w1.heap.size < w2.heap.size := by have := hb2.size; simp at this; omega
      have hy2 : w.heap.size < w2.heap.size := by omega
      have B2 : Hid (Below w.heap.size w w2) := (B1.out.alloc B1.out.size _).trans (hb2.mono (by have := B1.out.size; simp; omega))
      clear hb2
      go_wp2_with fail
      refine (holdsC _ _ _ _).mono ?_
      rintro e w3 ⟨rfl, hb3⟩
      obtain ⟨c3, f3⟩ := bcell hb3
      have hz3 : w1.heap.size < w3.heap.size := by have := hb3.size; omega
      have hy3 : w.heap.size < w3.heap.size := by omega
      have B3 : Hid (Below w.heap.size w w3) := B2.out.trans (hb3.mono (by have := B2.out.size; simp; omega))
      clear hb3
      go_wp2_with fail
      go_ret
      exact ⟨rfl, B3.out⟩
    | true =>
      go_enter Try.func124, Try.ntmps124
      go_wp2_with fail
      refine (form2 _).mono ?_
      rintro e w1 ⟨rfl, hb1⟩
      obtain ⟨c1, f1⟩ := bcell hb1
      have hz1 : w.heap.size < w1.heap.size := by have := hb1.size; simp at this; omega
      have B1 : Hid (Below w.heap.size w w1) := ((Below.refl _ _).alloc (Nat.le_refl _) _).trans (hb1.mono (by simp))
      clear hb1
      go_wp2_with fail
      refine (holdsC _ _ _ _).mono ?_
      rintro e w2 ⟨rfl, hb2⟩
      obtain ⟨c2, f2⟩ := bcell hb2
      have hz2 : w1.heap.size < w2.heap.size := by have := hb2.size; simp at this; omega
      have hy2 : w.heap.size < w2.heap.size := by omega
      have B2 : Hid (Below w.heap.size w w2) := (B1.out.alloc B1.out.size _).trans (hb2.mono (by have := B1.out.size; simp; omega))
      clear hb2
      go_wp2_with fail
      refine (holdsC _ _ _ _).mono ?_
      rintro e w3 ⟨rfl, hb3⟩
      obtain ⟨c3, f3⟩ := bcell hb3
      have hz3 : w1.heap.size < w3.heap.size := by have := hb3.size; omega
      have hy3 : w.heap.size < w3.heap.size := by omega
      have B3 : Hid (Below w.heap.size w w3) := B2.out.trans (hb3.mono (by have := B2.out.size; simp; omega))
      clear hb3
      go_wp2_with fail
      refine (holdsC _ _ _ _).mono ?_
      rintro e w4 ⟨rfl, hb4⟩
      obtain ⟨c4, f4⟩ := bcell hb4
      have hz4 : w1.heap.size < w4.heap.size := by have := hb4.size; omega
      have hy4 : w.heap.size < w4.heap.size := by omega
      have B4 : Hid (Below w.heap.size w w4) := B3.out.trans (hb4.mono (by have := B3.out.size; simp; omega))
      clear hb4
      go_wp2_with fail
      go_ret
      exact ⟨rfl, B4.out⟩

set_option maxRecDepth 100000 in
set_option maxHeartbeats 2000000 in
theorem insOkC3 (a b n : Int) (w : World) : Calls Try.prog 124 #[.agg #[.int .i64 3, .int .i64 a, .int .i64 b, .int .i64 n]] w fun e w' => e = .returned (.bool (within 0 3 a && within 0 0 b && within (-1000000) 1000000 n)) ∧ Below w.heap.size w w' := by
  cases ha : within 0 3 a with
  | false =>
    go_enter Try.func124, Try.ntmps124
    go_wp2_with fail
    refine (form3 _).mono ?_
    rintro e w1 ⟨rfl, hb1⟩
    obtain ⟨c1, f1⟩ := bcell hb1
    have hz1 : w.heap.size < w1.heap.size := by have := hb1.size; simp at this; omega
    have B1 : Hid (Below w.heap.size w w1) := ((Below.refl _ _).alloc (Nat.le_refl _) _).trans (hb1.mono (by simp))
    clear hb1
    go_wp2_with fail
    refine (holdsC _ _ _ _).mono ?_
    rintro e w2 ⟨rfl, hb2⟩
    obtain ⟨c2, f2⟩ := bcell hb2
    have hz2 : w1.heap.size < w2.heap.size := by have := hb2.size; simp at this; omega
    have hy2 : w.heap.size < w2.heap.size := by omega
    have B2 : Hid (Below w.heap.size w w2) := (B1.out.alloc B1.out.size _).trans (hb2.mono (by have := B1.out.size; simp; omega))
    clear hb2
    go_wp2_with fail
    go_ret
    exact ⟨rfl, B2.out⟩
  | true =>
    cases hb : within 0 0 b with
    | false =>
      go_enter Try.func124, Try.ntmps124
      go_wp2_with fail
      refine (form3 _).mono ?_
      rintro e w1 ⟨rfl, hb1⟩
      obtain ⟨c1, f1⟩ := bcell hb1
      have hz1 : w.heap.size < w1.heap.size := by have := hb1.size; simp at this; omega
      have B1 : Hid (Below w.heap.size w w1) := ((Below.refl _ _).alloc (Nat.le_refl _) _).trans (hb1.mono (by simp))
      clear hb1
      go_wp2_with fail
      refine (holdsC _ _ _ _).mono ?_
      rintro e w2 ⟨rfl, hb2⟩
      obtain ⟨c2, f2⟩ := bcell hb2
      have hz2 : w1.heap.size < w2.heap.size := by have := hb2.size; simp at this; omega
      have hy2 : w.heap.size < w2.heap.size := by omega
      have B2 : Hid (Below w.heap.size w w2) := (B1.out.alloc B1.out.size _).trans (hb2.mono (by have := B1.out.size; simp; omega))
      clear hb2
      go_wp2_with fail
      refine (holdsC _ _ _ _).mono ?_
      rintro e w3 ⟨rfl, hb3⟩
      obtain ⟨c3, f3⟩ := bcell hb3
      have hz3 : w1.heap.size < w3.heap.size := by have := hb3.size; omega
      have hy3 : w.heap.size < w3.heap.size := by omega
      have B3 : Hid (Below w.heap.size w w3) := B2.out.trans (hb3.mono (by have := B2.out.size; simp; omega))
      clear hb3
      go_wp2_with fail
      go_ret
      exact ⟨rfl, B3.out⟩
    | true =>
      go_enter Try.func124, Try.ntmps124
      go_wp2_with fail
      refine (form3 _).mono ?_
      rintro e w1 ⟨rfl, hb1⟩
      obtain ⟨c1, f1⟩ := bcell hb1
      have hz1 : w.heap.size < w1.heap.size := by have := hb1.size; simp at this; omega
      have B1 : Hid (Below w.heap.size w w1) := ((Below.refl _ _).alloc (Nat.le_refl _) _).trans (hb1.mono (by simp))
      clear hb1
      go_wp2_with fail
      refine (holdsC _ _ _ _).mono ?_
      rintro e w2 ⟨rfl, hb2⟩
      obtain ⟨c2, f2⟩ := bcell hb2
      have hz2 : w1.heap.size < w2.heap.size := by have := hb2.size; simp at this; omega
      have hy2 : w.heap.size < w2.heap.size := by omega
      have B2 : Hid (Below w.heap.size w w2) := (B1.out.alloc B1.out.size _).trans (hb2.mono (by have := B1.out.size; simp; omega))
      clear hb2
      go_wp2_with fail
      refine (holdsC _ _ _ _).mono ?_
      rintro e w3 ⟨rfl, hb3⟩
      obtain ⟨c3, f3⟩ := bcell hb3
      have hz3 : w1.heap.size < w3.heap.size := by have := hb3.size; omega
      have hy3 : w.heap.size < w3.heap.size := by omega
      have B3 : Hid (Below w.heap.size w w3) := B2.out.trans (hb3.mono (by have := B2.out.size; simp; omega))
      clear hb3
      go_wp2_with fail
      refine (holdsC _ _ _ _).mono ?_
      rintro e w4 ⟨rfl, hb4⟩
      obtain ⟨c4, f4⟩ := bcell hb4
      have hz4 : w1.heap.size < w4.heap.size := by have := hb4.size; omega
      have hy4 : w.heap.size < w4.heap.size := by omega
      have B4 : Hid (Below w.heap.size w w4) := B3.out.trans (hb4.mono (by have := B3.out.size; simp; omega))
      clear hb4
      go_wp2_with fail
      go_ret
      exact ⟨rfl, B4.out⟩

set_option maxRecDepth 100000 in
set_option maxHeartbeats 2000000 in
theorem insOkC4 (a b n : Int) (w : World) : Calls Try.prog 124 #[.agg #[.int .i64 4, .int .i64 a, .int .i64 b, .int .i64 n]] w fun e w' => e = .returned (.bool (within 0 3 a && within 0 3 b && within 0 0 n)) ∧ Below w.heap.size w w' := by
  cases ha : within 0 3 a with
  | false =>
    go_enter Try.func124, Try.ntmps124
    go_wp2_with fail
    refine (form4 _).mono ?_
    rintro e w1 ⟨rfl, hb1⟩
    obtain ⟨c1, f1⟩ := bcell hb1
    have hz1 : w.heap.size < w1.heap.size := by have := hb1.size; simp at this; omega
    have B1 : Hid (Below w.heap.size w w1) := ((Below.refl _ _).alloc (Nat.le_refl _) _).trans (hb1.mono (by simp))
    clear hb1
    go_wp2_with fail
    refine (holdsC _ _ _ _).mono ?_
    rintro e w2 ⟨rfl, hb2⟩
    obtain ⟨c2, f2⟩ := bcell hb2
    have hz2 : w1.heap.size < w2.heap.size := by have := hb2.size; simp at this; omega
    have hy2 : w.heap.size < w2.heap.size := by omega
    have B2 : Hid (Below w.heap.size w w2) := (B1.out.alloc B1.out.size _).trans (hb2.mono (by have := B1.out.size; simp; omega))
    clear hb2
    go_wp2_with fail
    go_ret
    exact ⟨rfl, B2.out⟩
  | true =>
    cases hb : within 0 3 b with
    | false =>
      go_enter Try.func124, Try.ntmps124
      go_wp2_with fail
      refine (form4 _).mono ?_
      rintro e w1 ⟨rfl, hb1⟩
      obtain ⟨c1, f1⟩ := bcell hb1
      have hz1 : w.heap.size < w1.heap.size := by have := hb1.size; simp at this; omega
      have B1 : Hid (Below w.heap.size w w1) := ((Below.refl _ _).alloc (Nat.le_refl _) _).trans (hb1.mono (by simp))
      clear hb1
      go_wp2_with fail
      refine (holdsC _ _ _ _).mono ?_
      rintro e w2 ⟨rfl, hb2⟩
      obtain ⟨c2, f2⟩ := bcell hb2
      have hz2 : w1.heap.size < w2.heap.size := by have := hb2.size; simp at this; omega
      have hy2 : w.heap.size < w2.heap.size := by omega
      have B2 : Hid (Below w.heap.size w w2) := (B1.out.alloc B1.out.size _).trans (hb2.mono (by have := B1.out.size; simp; omega))
      clear hb2
      go_wp2_with fail
      refine (holdsC _ _ _ _).mono ?_
      rintro e w3 ⟨rfl, hb3⟩
      obtain ⟨c3, f3⟩ := bcell hb3
      have hz3 : w1.heap.size < w3.heap.size := by have := hb3.size; omega
      have hy3 : w.heap.size < w3.heap.size := by omega
      have B3 : Hid (Below w.heap.size w w3) := B2.out.trans (hb3.mono (by have := B2.out.size; simp; omega))
      clear hb3
      go_wp2_with fail
      go_ret
      exact ⟨rfl, B3.out⟩
    | true =>
      go_enter Try.func124, Try.ntmps124
      go_wp2_with fail
      refine (form4 _).mono ?_
      rintro e w1 ⟨rfl, hb1⟩
      obtain ⟨c1, f1⟩ := bcell hb1
      have hz1 : w.heap.size < w1.heap.size := by have := hb1.size; simp at this; omega
      have B1 : Hid (Below w.heap.size w w1) := ((Below.refl _ _).alloc (Nat.le_refl _) _).trans (hb1.mono (by simp))
      clear hb1
      go_wp2_with fail
      refine (holdsC _ _ _ _).mono ?_
      rintro e w2 ⟨rfl, hb2⟩
      obtain ⟨c2, f2⟩ := bcell hb2
      have hz2 : w1.heap.size < w2.heap.size := by have := hb2.size; simp at this; omega
      have hy2 : w.heap.size < w2.heap.size := by omega
      have B2 : Hid (Below w.heap.size w w2) := (B1.out.alloc B1.out.size _).trans (hb2.mono (by have := B1.out.size; simp; omega))
      clear hb2
      go_wp2_with fail
      refine (holdsC _ _ _ _).mono ?_
      rintro e w3 ⟨rfl, hb3⟩
      obtain ⟨c3, f3⟩ := bcell hb3
      have hz3 : w1.heap.size < w3.heap.size := by have := hb3.size; omega
      have hy3 : w.heap.size < w3.heap.size := by omega
      have B3 : Hid (Below w.heap.size w w3) := B2.out.trans (hb3.mono (by have := B2.out.size; simp; omega))
      clear hb3
      go_wp2_with fail
      refine (holdsC _ _ _ _).mono ?_
      rintro e w4 ⟨rfl, hb4⟩
      obtain ⟨c4, f4⟩ := bcell hb4
      have hz4 : w1.heap.size < w4.heap.size := by have := hb4.size; omega
      have hy4 : w.heap.size < w4.heap.size := by omega
      have B4 : Hid (Below w.heap.size w w4) := B3.out.trans (hb4.mono (by have := B3.out.size; simp; omega))
      clear hb4
      go_wp2_with fail
      go_ret
      exact ⟨rfl, B4.out⟩

set_option maxRecDepth 100000 in
set_option maxHeartbeats 2000000 in
theorem insOkC5 (a b n : Int) (w : World) : Calls Try.prog 124 #[.agg #[.int .i64 5, .int .i64 a, .int .i64 b, .int .i64 n]] w fun e w' => e = .returned (.bool (within 0 3 a && within 0 3 b && within 0 0 n)) ∧ Below w.heap.size w w' := by
  cases ha : within 0 3 a with
  | false =>
    go_enter Try.func124, Try.ntmps124
    go_wp2_with fail
    refine (form5 _).mono ?_
    rintro e w1 ⟨rfl, hb1⟩
    obtain ⟨c1, f1⟩ := bcell hb1
    have hz1 : w.heap.size < w1.heap.size := by have := hb1.size; simp at this; omega
    have B1 : Hid (Below w.heap.size w w1) := ((Below.refl _ _).alloc (Nat.le_refl _) _).trans (hb1.mono (by simp))
    clear hb1
    go_wp2_with fail
    refine (holdsC _ _ _ _).mono ?_
    rintro e w2 ⟨rfl, hb2⟩
    obtain ⟨c2, f2⟩ := bcell hb2
    have hz2 : w1.heap.size < w2.heap.size := by have := hb2.size; simp at this; omega
    have hy2 : w.heap.size < w2.heap.size := by omega
    have B2 : Hid (Below w.heap.size w w2) := (B1.out.alloc B1.out.size _).trans (hb2.mono (by have := B1.out.size; simp; omega))
    clear hb2
    go_wp2_with fail
    go_ret
    exact ⟨rfl, B2.out⟩
  | true =>
    cases hb : within 0 3 b with
    | false =>
      go_enter Try.func124, Try.ntmps124
      go_wp2_with fail
      refine (form5 _).mono ?_
      rintro e w1 ⟨rfl, hb1⟩
      obtain ⟨c1, f1⟩ := bcell hb1
      have hz1 : w.heap.size < w1.heap.size := by have := hb1.size; simp at this; omega
      have B1 : Hid (Below w.heap.size w w1) := ((Below.refl _ _).alloc (Nat.le_refl _) _).trans (hb1.mono (by simp))
      clear hb1
      go_wp2_with fail
      refine (holdsC _ _ _ _).mono ?_
      rintro e w2 ⟨rfl, hb2⟩
      obtain ⟨c2, f2⟩ := bcell hb2
      have hz2 : w1.heap.size < w2.heap.size := by have := hb2.size; simp at this; omega
      have hy2 : w.heap.size < w2.heap.size := by omega
      have B2 : Hid (Below w.heap.size w w2) := (B1.out.alloc B1.out.size _).trans (hb2.mono (by have := B1.out.size; simp; omega))
      clear hb2
      go_wp2_with fail
      refine (holdsC _ _ _ _).mono ?_
      rintro e w3 ⟨rfl, hb3⟩
      obtain ⟨c3, f3⟩ := bcell hb3
      have hz3 : w1.heap.size < w3.heap.size := by have := hb3.size; omega
      have hy3 : w.heap.size < w3.heap.size := by omega
      have B3 : Hid (Below w.heap.size w w3) := B2.out.trans (hb3.mono (by have := B2.out.size; simp; omega))
      clear hb3
      go_wp2_with fail
      go_ret
      exact ⟨rfl, B3.out⟩
    | true =>
      go_enter Try.func124, Try.ntmps124
      go_wp2_with fail
      refine (form5 _).mono ?_
      rintro e w1 ⟨rfl, hb1⟩
      obtain ⟨c1, f1⟩ := bcell hb1
      have hz1 : w.heap.size < w1.heap.size := by have := hb1.size; simp at this; omega
      have B1 : Hid (Below w.heap.size w w1) := ((Below.refl _ _).alloc (Nat.le_refl _) _).trans (hb1.mono (by simp))
      clear hb1
      go_wp2_with fail
      refine (holdsC _ _ _ _).mono ?_
      rintro e w2 ⟨rfl, hb2⟩
      obtain ⟨c2, f2⟩ := bcell hb2
      have hz2 : w1.heap.size < w2.heap.size := by have := hb2.size; simp at this; omega
      have hy2 : w.heap.size < w2.heap.size := by omega
      have B2 : Hid (Below w.heap.size w w2) := (B1.out.alloc B1.out.size _).trans (hb2.mono (by have := B1.out.size; simp; omega))
      clear hb2
      go_wp2_with fail
      refine (holdsC _ _ _ _).mono ?_
      rintro e w3 ⟨rfl, hb3⟩
      obtain ⟨c3, f3⟩ := bcell hb3
      have hz3 : w1.heap.size < w3.heap.size := by have := hb3.size; omega
      have hy3 : w.heap.size < w3.heap.size := by omega
      have B3 : Hid (Below w.heap.size w w3) := B2.out.trans (hb3.mono (by have := B2.out.size; simp; omega))
      clear hb3
      go_wp2_with fail
      refine (holdsC _ _ _ _).mono ?_
      rintro e w4 ⟨rfl, hb4⟩
      obtain ⟨c4, f4⟩ := bcell hb4
      have hz4 : w1.heap.size < w4.heap.size := by have := hb4.size; omega
      have hy4 : w.heap.size < w4.heap.size := by omega
      have B4 : Hid (Below w.heap.size w w4) := B3.out.trans (hb4.mono (by have := B3.out.size; simp; omega))
      clear hb4
      go_wp2_with fail
      go_ret
      exact ⟨rfl, B4.out⟩

set_option maxRecDepth 100000 in
set_option maxHeartbeats 2000000 in
theorem insOkC6 (a b n : Int) (w : World) : Calls Try.prog 124 #[.agg #[.int .i64 6, .int .i64 a, .int .i64 b, .int .i64 n]] w fun e w' => e = .returned (.bool (within 0 3 a && within 0 3 b && within 1 10 n)) ∧ Below w.heap.size w w' := by
  cases ha : within 0 3 a with
  | false =>
    go_enter Try.func124, Try.ntmps124
    go_wp2_with fail
    refine (form6 _).mono ?_
    rintro e w1 ⟨rfl, hb1⟩
    obtain ⟨c1, f1⟩ := bcell hb1
    have hz1 : w.heap.size < w1.heap.size := by have := hb1.size; simp at this; omega
    have B1 : Hid (Below w.heap.size w w1) := ((Below.refl _ _).alloc (Nat.le_refl _) _).trans (hb1.mono (by simp))
    clear hb1
    go_wp2_with fail
    refine (holdsC _ _ _ _).mono ?_
    rintro e w2 ⟨rfl, hb2⟩
    obtain ⟨c2, f2⟩ := bcell hb2
    have hz2 : w1.heap.size < w2.heap.size := by have := hb2.size; simp at this; omega
    have hy2 : w.heap.size < w2.heap.size := by omega
    have B2 : Hid (Below w.heap.size w w2) := (B1.out.alloc B1.out.size _).trans (hb2.mono (by have := B1.out.size; simp; omega))
    clear hb2
    go_wp2_with fail
    go_ret
    exact ⟨rfl, B2.out⟩
  | true =>
    cases hb : within 0 3 b with
    | false =>
      go_enter Try.func124, Try.ntmps124
      go_wp2_with fail
      refine (form6 _).mono ?_
      rintro e w1 ⟨rfl, hb1⟩
      obtain ⟨c1, f1⟩ := bcell hb1
      have hz1 : w.heap.size < w1.heap.size := by have := hb1.size; simp at this; omega
      have B1 : Hid (Below w.heap.size w w1) := ((Below.refl _ _).alloc (Nat.le_refl _) _).trans (hb1.mono (by simp))
      clear hb1
      go_wp2_with fail
      refine (holdsC _ _ _ _).mono ?_
      rintro e w2 ⟨rfl, hb2⟩
      obtain ⟨c2, f2⟩ := bcell hb2
      have hz2 : w1.heap.size < w2.heap.size := by have := hb2.size; simp at this; omega
      have hy2 : w.heap.size < w2.heap.size := by omega
      have B2 : Hid (Below w.heap.size w w2) := (B1.out.alloc B1.out.size _).trans (hb2.mono (by have := B1.out.size; simp; omega))
      clear hb2
      go_wp2_with fail
      refine (holdsC _ _ _ _).mono ?_
      rintro e w3 ⟨rfl, hb3⟩
      obtain ⟨c3, f3⟩ := bcell hb3
      have hz3 : w1.heap.size < w3.heap.size := by have := hb3.size; omega
      have hy3 : w.heap.size < w3.heap.size := by omega
      have B3 : Hid (Below w.heap.size w w3) := B2.out.trans (hb3.mono (by have := B2.out.size; simp; omega))
      clear hb3
      go_wp2_with fail
      go_ret
      exact ⟨rfl, B3.out⟩
    | true =>
      go_enter Try.func124, Try.ntmps124
      go_wp2_with fail
      refine (form6 _).mono ?_
      rintro e w1 ⟨rfl, hb1⟩
      obtain ⟨c1, f1⟩ := bcell hb1
      have hz1 : w.heap.size < w1.heap.size := by have := hb1.size; simp at this; omega
      have B1 : Hid (Below w.heap.size w w1) := ((Below.refl _ _).alloc (Nat.le_refl _) _).trans (hb1.mono (by simp))
      clear hb1
      go_wp2_with fail
      refine (holdsC _ _ _ _).mono ?_
      rintro e w2 ⟨rfl, hb2⟩
      obtain ⟨c2, f2⟩ := bcell hb2
      have hz2 : w1.heap.size < w2.heap.size := by have := hb2.size; simp at this; omega
      have hy2 : w.heap.size < w2.heap.size := by omega
      have B2 : Hid (Below w.heap.size w w2) := (B1.out.alloc B1.out.size _).trans (hb2.mono (by have := B1.out.size; simp; omega))
      clear hb2
      go_wp2_with fail
      refine (holdsC _ _ _ _).mono ?_
      rintro e w3 ⟨rfl, hb3⟩
      obtain ⟨c3, f3⟩ := bcell hb3
      have hz3 : w1.heap.size < w3.heap.size := by have := hb3.size; omega
      have hy3 : w.heap.size < w3.heap.size := by omega
      have B3 : Hid (Below w.heap.size w w3) := B2.out.trans (hb3.mono (by have := B2.out.size; simp; omega))
      clear hb3
      go_wp2_with fail
      refine (holdsC _ _ _ _).mono ?_
      rintro e w4 ⟨rfl, hb4⟩
      obtain ⟨c4, f4⟩ := bcell hb4
      have hz4 : w1.heap.size < w4.heap.size := by have := hb4.size; omega
      have hy4 : w.heap.size < w4.heap.size := by omega
      have B4 : Hid (Below w.heap.size w w4) := B3.out.trans (hb4.mono (by have := B3.out.size; simp; omega))
      clear hb4
      go_wp2_with fail
      go_ret
      exact ⟨rfl, B4.out⟩

set_option maxRecDepth 100000 in
set_option maxHeartbeats 2000000 in
theorem insOkC7 (a b n : Int) (w : World) : Calls Try.prog 124 #[.agg #[.int .i64 7, .int .i64 a, .int .i64 b, .int .i64 n]] w fun e w' => e = .returned (.bool (within 0 0 a && within 0 0 b && within 0 0 n)) ∧ Below w.heap.size w w' := by
  cases ha : within 0 0 a with
  | false =>
    go_enter Try.func124, Try.ntmps124
    go_wp2_with fail
    refine (form7 _).mono ?_
    rintro e w1 ⟨rfl, hb1⟩
    obtain ⟨c1, f1⟩ := bcell hb1
    have hz1 : w.heap.size < w1.heap.size := by have := hb1.size; simp at this; omega
    have B1 : Hid (Below w.heap.size w w1) := ((Below.refl _ _).alloc (Nat.le_refl _) _).trans (hb1.mono (by simp))
    clear hb1
    go_wp2_with fail
    refine (holdsC _ _ _ _).mono ?_
    rintro e w2 ⟨rfl, hb2⟩
    obtain ⟨c2, f2⟩ := bcell hb2
    have hz2 : w1.heap.size < w2.heap.size := by have := hb2.size; simp at this; omega
    have hy2 : w.heap.size < w2.heap.size := by omega
    have B2 : Hid (Below w.heap.size w w2) := (B1.out.alloc B1.out.size _).trans (hb2.mono (by have := B1.out.size; simp; omega))
    clear hb2
    go_wp2_with fail
    go_ret
    exact ⟨rfl, B2.out⟩
  | true =>
    cases hb : within 0 0 b with
    | false =>
      go_enter Try.func124, Try.ntmps124
      go_wp2_with fail
      refine (form7 _).mono ?_
      rintro e w1 ⟨rfl, hb1⟩
      obtain ⟨c1, f1⟩ := bcell hb1
      have hz1 : w.heap.size < w1.heap.size := by have := hb1.size; simp at this; omega
      have B1 : Hid (Below w.heap.size w w1) := ((Below.refl _ _).alloc (Nat.le_refl _) _).trans (hb1.mono (by simp))
      clear hb1
      go_wp2_with fail
      refine (holdsC _ _ _ _).mono ?_
      rintro e w2 ⟨rfl, hb2⟩
      obtain ⟨c2, f2⟩ := bcell hb2
      have hz2 : w1.heap.size < w2.heap.size := by have := hb2.size; simp at this; omega
      have hy2 : w.heap.size < w2.heap.size := by omega
      have B2 : Hid (Below w.heap.size w w2) := (B1.out.alloc B1.out.size _).trans (hb2.mono (by have := B1.out.size; simp; omega))
      clear hb2
      go_wp2_with fail
      refine (holdsC _ _ _ _).mono ?_
      rintro e w3 ⟨rfl, hb3⟩
      obtain ⟨c3, f3⟩ := bcell hb3
      have hz3 : w1.heap.size < w3.heap.size := by have := hb3.size; omega
      have hy3 : w.heap.size < w3.heap.size := by omega
      have B3 : Hid (Below w.heap.size w w3) := B2.out.trans (hb3.mono (by have := B2.out.size; simp; omega))
      clear hb3
      go_wp2_with fail
      go_ret
      exact ⟨rfl, B3.out⟩
    | true =>
      go_enter Try.func124, Try.ntmps124
      go_wp2_with fail
      refine (form7 _).mono ?_
      rintro e w1 ⟨rfl, hb1⟩
      obtain ⟨c1, f1⟩ := bcell hb1
      have hz1 : w.heap.size < w1.heap.size := by have := hb1.size; simp at this; omega
      have B1 : Hid (Below w.heap.size w w1) := ((Below.refl _ _).alloc (Nat.le_refl _) _).trans (hb1.mono (by simp))
      clear hb1
      go_wp2_with fail
      refine (holdsC _ _ _ _).mono ?_
      rintro e w2 ⟨rfl, hb2⟩
      obtain ⟨c2, f2⟩ := bcell hb2
      have hz2 : w1.heap.size < w2.heap.size := by have := hb2.size; simp at this; omega
      have hy2 : w.heap.size < w2.heap.size := by omega
      have B2 : Hid (Below w.heap.size w w2) := (B1.out.alloc B1.out.size _).trans (hb2.mono (by have := B1.out.size; simp; omega))
      clear hb2
      go_wp2_with fail
      refine (holdsC _ _ _ _).mono ?_
      rintro e w3 ⟨rfl, hb3⟩
      obtain ⟨c3, f3⟩ := bcell hb3
      have hz3 : w1.heap.size < w3.heap.size := by have := hb3.size; omega
      have hy3 : w.heap.size < w3.heap.size := by omega
      have B3 : Hid (Below w.heap.size w w3) := B2.out.trans (hb3.mono (by have := B2.out.size; simp; omega))
      clear hb3
      go_wp2_with fail
      refine (holdsC _ _ _ _).mono ?_
      rintro e w4 ⟨rfl, hb4⟩
      obtain ⟨c4, f4⟩ := bcell hb4
      have hz4 : w1.heap.size < w4.heap.size := by have := hb4.size; omega
      have hy4 : w.heap.size < w4.heap.size := by omega
      have B4 : Hid (Below w.heap.size w w4) := B3.out.trans (hb4.mono (by have := B3.out.size; simp; omega))
      clear hb4
      go_wp2_with fail
      go_ret
      exact ⟨rfl, B4.out⟩
set_option maxRecDepth 100000 in
set_option maxHeartbeats 2000000 in
theorem insOkCno (k a b n : Int) (w : World) (h : NoKind k) : Calls Try.prog 124 #[.agg #[.int .i64 k, .int .i64 a, .int .i64 b, .int .i64 n]] w fun e w' => e = .returned (.bool false) ∧ Below w.heap.size w w' := by
  go_enter Try.func124, Try.ntmps124
  go_wp2_with fail
  refine (formNo k _ h).mono ?_
  rintro e w1 ⟨rfl, hb1⟩
  obtain ⟨c1, f1⟩ := bcell hb1
  have hz1 : w.heap.size < w1.heap.size := by have := hb1.size; simp at this; omega
  have B1 : Hid (Below w.heap.size w w1) := ((Below.refl _ _).alloc (Nat.le_refl _) _).trans (hb1.mono (by simp))
  clear hb1
  go_wp2_with fail
  go_ret
  exact ⟨rfl, B1.out.alloc B1.out.size _⟩

theorem noKind_of {k : Int} (h1 : k ≠ 1) (h2 : k ≠ 2) (h3 : k ≠ 3) (h4 : k ≠ 4) (h5 : k ≠ 5) (h6 : k ≠ 6) (h7 : k ≠ 7) : NoKind k := by
  simp [NoKind, h1, h2, h3, h4, h5, h6, h7]

theorem insOkC (p : Q4) (w : World) : Calls Try.prog 124 #[.agg #[.int .i64 p.1, .int .i64 p.2.1, .int .i64 p.2.2.1, .int .i64 p.2.2.2]] w fun e w' => e = .returned (.bool (insOk p)) ∧ Below w.heap.size w w' := by
  obtain ⟨k, a, b, n⟩ := p
  by_cases h1 : k = 1
  · subst h1
    rw [insOk_1, ← within_reg, ← within_reg, ← within_zero]
    exact insOkC1 a b n w
  by_cases h2 : k = 2
  · subst h2
    rw [insOk_2, ← within_reg, ← within_reg, ← within_zero]
    exact insOkC2 a b n w
  by_cases h3 : k = 3
  · subst h3
    rw [insOk_3, ← within_reg, ← within_zero, ← within_num]
    exact insOkC3 a b n w
  by_cases h4 : k = 4
  · subst h4
    rw [insOk_4, ← within_reg, ← within_reg, ← within_zero]
    exact insOkC4 a b n w
  by_cases h5 : k = 5
  · subst h5
    rw [insOk_5, ← within_reg, ← within_reg, ← within_zero]
    exact insOkC5 a b n w
  by_cases h6 : k = 6
  · subst h6
    rw [insOk_6, ← within_reg, ← within_reg, ← within_less]
    exact insOkC6 a b n w
  by_cases h7 : k = 7
  · subst h7
    rw [insOk_7, ← within_zero, ← within_zero, ← within_zero]
    exact insOkC7 a b n w
  · rw [insOk_no a b n ⟨h1, h2, h3, h4, h5, h6, h7⟩]
    exact insOkCno k a b n w (noKind_of h1 h2 h3 h4 h5 h6 h7)

end Go.Proofs.Ytgcencilgpilaaa.Own

namespace Go.Proofs.Ytgcencilgpilaaa.Own
open Go.RowKit
set_option linter.unusedVariables false
set_option linter.unusedSimpArgs false

set_option maxRecDepth 100000 in
set_option maxHeartbeats 1000000 in
theorem implProgOk (a : Option Addr) (c : Nat) (xs : List Q4) (w : World) (h : Sl4 w a xs) (hn : xs.length ≤ 2 ^ 40) :
    Calls Try.prog 86 #[.slice a xs.length c] w fun e w' => e = .returned (.bool (progOk xs)) ∧ Below w.heap.size w w' := by
  have E : Hid (progOk xs = (decide (xs.length ≤ 10) && xs.all insOk)) := rfl
  have H1 : Hid (Sl4 w a xs) := h
  clear h
  by_cases hl : xs.length ≤ 10
  · have HL : Hid (decide (xs.length ≤ 10) = true) := by show _ = _; simpa using hl
    go_enter Try.func86, Try.ntmps86
    go_wp2
    go_loopw [10] (fun i wr => ∃ k : Nat, k ≤ xs.length ∧ i = .int .i64 k ∧ Hid ((xs.take k).all insOk = true) ∧ Below w.heap.size w wr) (fun i _ => xs.length - (intOf i).toNat)
    case atStart => exact ⟨0, Nat.zero_le _, rfl, rfl, Below.refl _ _⟩
    case round =>
      obtain ⟨k, hk, rfl, hA, hB⟩ := hrel
      by_cases hlt : k < xs.length
      · rcases H1.out with h | ⟨b1, o1, rfl, h1⟩
        · subst h; simp at hlt
        have H1' : Hid (At4 w b1 o1 xs) := h1
        clear h1
        obtain ⟨p, hp⟩ : ∃ p, p = xs.getD k q0 := ⟨_, rfl⟩
        obtain ⟨ca, cb, cc, cd⟩ := H1'.out.2 k hlt
        rw [← hB.cell H1'.out.1, ← hp] at ca cb cc cd
        have HP : Hid (p = xs.getD k q0) := hp
        have HB : Hid (Below w.heap.size w wr) := hB
        clear hp hB
        have CP := fun W => insOkC p W
        have N : Hid (insOk p = true → (xs.take (k + 1)).all insOk = true) := by
          intro t
          rw [all_take_succ q0 hlt, hA.out, ← HP.out, t]; rfl
        have F : Hid (insOk p = false → xs.all insOk = false) := fun t => all_false (k := k) q0 hlt (by rw [← HP.out]; exact t)
        generalize insOk p = r at CP N F
        obtain ⟨p1, p2, p3, p4⟩ := p
        have CP' : Hid (∀ W, Calls Try.prog 124 #[.agg #[.int .i64 p1, .int .i64 p2, .int .i64 p3, .int .i64 p4]] W fun e w' => e = .returned (.bool r) ∧ Below W.heap.size W w') := CP
        clear CP
        cases r with
        | true =>
          have N' : Hid ((xs.take (k + 1)).all insOk = true) := N.out rfl
          clear N F
          go_wp2_with fail
          refine (CP'.out _).mono ?_
          rintro e w1 ⟨rfl, hb1⟩
          have B1 : Hid (Below w.heap.size w w1) := (HB.out.alloc HB.out.size _).trans (hb1.mono (by rw [size_new]; have := HB.out.size; omega))
          clear hb1
          go_wp2
          go_roundw
          case rel => exact ⟨k + 1, by omega, by go_num, N'.out, B1.out⟩
          case measure => simp [intOf]; omega
        | false =>
          have F' : Hid (xs.all insOk = false) := F.out rfl
          clear N F
          go_wp2_with fail
          refine (CP'.out _).mono ?_
          rintro e w1 ⟨rfl, hb1⟩
          have B1 : Hid (Below w.heap.size w w1) := (HB.out.alloc HB.out.size _).trans (hb1.mono (by rw [size_new]; have := HB.out.size; omega))
          clear hb1
          go_wp2
          go_ret
          exact ⟨ret_bool (by rw [E.out, F'.out]; simp), B1.out⟩
      · go_wp2
        go_ret
        have : k = xs.length := by omega
        subst this
        refine ⟨ret_bool ?_, hB⟩
        have h := hA.out
        rw [List.take_length] at h
        rw [E.out, HL.out, h]; rfl
  · have HL : Hid (decide (xs.length ≤ 10) = false) := by show _ = _; simpa using hl
    have hl' : (10 : Int) < (xs.length : Int) := by omega
    go_enter Try.func86, Try.ntmps86
    go_wp2
    go_ret
    exact ⟨ret_bool (by rw [E.out, HL.out]; rfl), Below.refl _ _⟩
end Go.Proofs.Ytgcencilgpilaaa.Own

namespace Go.Proofs.Ytgcencilgpilaaa.Own
open Go.RowKit
set_option linter.unusedVariables false
set_option linter.unusedSimpArgs false

/-- The cells of a run that begins. -/
def cells20 (b0 b1 b2 b3 : P2) (bm : Nat) : Array Value := #[.int .i64 b0.1, .int .i64 b0.2, .int .i64 b1.1, .int .i64 b1.2, .int .i64 b2.1, .int .i64 b2.2, .int .i64 b3.1, .int .i64 b3.2, .int .i64 0, .int .i64 0, .int .i64 0, .int .i64 0, .int .i64 0, .bool false, .bool false, .bool false, .bool false, .slice none 0 0, .map (some bm), .slice none 0 0]
theorem nowInit (w3 : World) (bs : List P2) (h4 : bs.length = 4) : Now (w3.heap.size + 2) (w3.heap.size + 1) w3.heap.size ((w3.alloc (.map #[] 0)).alloc (.cells (cells20 (bs.getD 0 (0, 0)) (bs.getD 1 (0, 0)) (bs.getD 2 (0, 0)) (bs.getD 3 (0, 0)) w3.heap.size) 182)) bs 0 0 initR (.slice none 0 0) (.slice none 0 0) := by
  have g := heap_new2 w3 (.map #[] 0) (.cells (cells20 (bs.getD 0 (0, 0)) (bs.getD 1 (0, 0)) (bs.getD 2 (0, 0)) (bs.getD 3 (0, 0)) w3.heap.size) 182)
  have hs : ((w3.alloc (.map #[] 0)).alloc (.cells (cells20 (bs.getD 0 (0, 0)) (bs.getD 1 (0, 0)) (bs.getD 2 (0, 0)) (bs.getD 3 (0, 0)) w3.heap.size) 182)).heap.size = w3.heap.size + 2 := by simp
  have m0 : MapP ((w3.alloc (.map #[] 0)).alloc (.cells (cells20 (bs.getD 0 (0, 0)) (bs.getD 1 (0, 0)) (bs.getD 2 (0, 0)) (bs.getD 3 (0, 0)) w3.heap.size) 182)) w3.heap.size 0 [] := (MapP.made w3).block (heap_old _ _ _ (by rw [size_new]; omega))
  refine ⟨⟨by omega, fun i hi => ?_⟩, h4, ⟨by omega, fun i hi => ?_⟩, rfl, (cell_heap g 12).trans rfl, fun i hi => ?_, (cell_heap g 17).trans rfl, (cell_heap g 18).trans rfl, (cell_heap g 19).trans rfl, fun o => frozen_heap g o, OwnP.nil _ _ _, World.ownsRow_nil _ _ _ _, m0, .inl rfl, by omega, by omega, by omega⟩
  · rw [h4] at hi
    have : i = 0 ∨ i = 1 ∨ i = 2 ∨ i = 3 := by omega
    rcases this with rfl | rfl | rfl | rfl <;> exact ⟨(cell_heap g _).trans rfl, (cell_heap g _).trans rfl⟩
  · have hi' : i < 4 := hi
    have : i = 0 ∨ i = 1 ∨ i = 2 ∨ i = 3 := by omega
    rcases this with rfl | rfl | rfl | rfl <;> exact (cell_heap g _).trans rfl
  · have : i = 0 ∨ i = 1 ∨ i = 2 ∨ i = 3 := by omega
    rcases this with rfl | rfl | rfl | rfl <;> exact (cell_heap g _).trans rfl

section
variable {P : Program} {ops : Array Oper} {rest : List Oper} {o : Oper} {a : Act} {w : World} {Q : Exit → Act → World → Prop}
theorem wpList_build_is (hg : o.guard = none) (t : TypeId) (parts : Array (Nat × Operand)) (ho : o.op = .build t parts) (cells : Array Value) (hb : P.built t (parts.map fun (i, x) => (i, a.eval x)).toList = some cells) (h : wpList P ops Q rest (a.put o.dst (.agg cells)) w) : wpList P ops Q (o :: rest) a w :=
  wpList_build hg t parts ho (by rw [hb]; rfl) (by rw [hb]; exact h)
theorem setRow_new (w : World) (old cells : Array Value) (t : TypeId) : (w.alloc (.cells old t)).setRow w.heap.size cells = w.alloc (.cells cells t) := by
  unfold World.setRow World.alloc
  congr 1
  apply Array.ext
  · simp
  · intro k h1 h2
    simp only [Array.getElem_modify]
    by_cases e : w.heap.size = k
    · subst e
      simp
    · have hk : k < w.heap.size := by simp at h2; omega
      simp [e, Array.getElem_push_lt hk]
end
def zeros20 : Array Value := #[.int .i64 0, .int .i64 0, .int .i64 0, .int .i64 0, .int .i64 0, .int .i64 0, .int .i64 0, .int .i64 0, .int .i64 0, .int .i64 0, .int .i64 0, .int .i64 0, .int .i64 0, .bool false, .bool false, .bool false, .bool false, .slice none 0 0, .map none, .slice none 0 0]
theorem store20 (w : World) (e0 e1 e2 e3 : P2) (bm g : Nat) (hg : w.heap.size = g) : (storeCells ⟨g, 0, none⟩ (cells20 e0 e1 e2 e3 bm).toList).run Try.prog (w.alloc (.cells zeros20 182)) = .ok () (w.alloc (.cells (cells20 e0 e1 e2 e3 bm) 182)) := by
  subst hg
  rw [run_storeCells_from w.heap.size 182 (cells20 e0 e1 e2 e3 bm).toList 0 zeros20 (w.alloc (.cells zeros20 182)) (heap_new _ _) (by simp [cells20, zeros20]) (by simp [cells20, Value.oneCell'])]
  simp only [List.take_zero, List.nil_append, Array.toArray_toList, setRow_new]

/-- What is left to do hangs on no slot but the results'. -/
theorem leaves_tmps {P : Program} {fn : Func} {t t' : Array Value} {R : Ending → World → Prop} (h : ∀ w, (results fn t).run P w = (results fn t').run P w) : ∀ (ds : List Deferred) (u : FrameMode) (w : World), Leaves P fn t R ds u w → Leaves P fn t' R ds u w
  | [], .returning, w => fun ⟨v, h1, h2⟩ => ⟨v, by rw [← h]; exact h1, h2⟩
  | [], .panicking _, _ => fun x => x
  | [], .run, _ => fun x => x
  | d :: ds, u, w => fun ⟨h1, fv, cap, f, args, h2, h3, h4⟩ => ⟨h1, fv, cap, f, args, h2, h3, h4.mono (fun e u' w' hx => by
      cases e with
      | returned v => exact leaves_tmps h ds _ _ hx
      | panicked c => exact leaves_tmps h ds _ _ hx
      | outgrown => exact hx)⟩
theorem resTmps (t t' : Array Value) (h : t[4]? = t'[4]?) : results Try.f123 t = results Try.f123 t' := by
  simp [results, Try.results123, h]
theorem panicTmps {K : Act → World → Prop} {R : Ending → World → Prop} {ch : List PanicEntry} {a : Act} {w : World} (d : Nat) (v : Value) (hd : d ≠ 4) (h : Exit.then K (bodyPostD Try.prog Try.f123 R) (Exit.panic ch) (a.put (some d) v) w) : Exit.then K (bodyPostD Try.prog Try.f123 R) (Exit.panic ch) a w := by
  have e : ∀ w, (results Try.f123 (a.put (some d) v).tmps).run Try.prog w = (results Try.f123 a.tmps).run Try.prog w := fun w => by
    rw [resTmps (a.put (some d) v).tmps a.tmps (by simp only [Act.put]; exact Array.getElem?_setIfInBounds_ne hd)]
  exact leaves_tmps e _ _ _ h

set_option maxRecDepth 100000 in
set_option maxHeartbeats 4000000 in
theorem implRunA (la pa : Option Addr) (lc pc : Nat) (bs : List P2) (xs : List Q4) (w : World) (hb : Sl w la bs) (hx : Sl4 w pa xs) (hlc : bs.length ≤ lc) (l2 : xs.length ≤ 2 ^ 40) (hB : boxOk bs = false) :
    Calls Try.prog 123 #[.slice la bs.length lc, .slice pa xs.length pc] w fun e w' => RunPost (execRun bs xs) w.heap.size e w' ∧ Below w.heap.size w w' := by
  have SB : Hid (Sl w la bs) := hb
  have SX : Hid (Sl4 w pa xs) := hx
  clear hb hx
  have hmf : ∀ (fn : Fn) (first cap : Array Value) (w : World), (Instr.makeFunc fn first cap).run Try.prog w = .ok (.func fn first cap) w := fun _ _ _ _ => rfl
  have hmm := @run_makeMap Try.prog
  obtain ⟨W, hW⟩ : ∃ W, W = w.alloc (.cells #[.slice none 0 0, .slice none 0 0, .int .i64 0, .int .i64 0] 27) := ⟨_, rfl⟩
  have BW : Hid (Below w.heap.size w W) := by show Below _ _ _; rw [hW]; exact below_new _ _
  have HSW : Hid (W.heap.size = w.heap.size + 1) := by show _ = _; rw [hW]; simp
  have Z0 : Hid (C4 W w.heap.size (.slice none 0 0) (.slice none 0 0) (.int .i64 0) (.int .i64 0)) := by show C4 _ _ _ _ _ _; rw [hW]; exact C4.new _ _ _ _ _ _
  have FZ : Hid (∀ o, W.frozen? ⟨w.heap.size, o, none⟩ = false) := by show ∀ o, _; rw [hW]; exact fun o => frozen_heap (heap_new _ _) o
  have HW : Hid (W = _) := hW
  clear hW
  have EF : Hid (execRun bs xs = ⟨[], [], 0, 3⟩) := execRun_form (by simp [hB])
  go_enter_defers Try.func123, Try.ntmps123
  go_upto_region 1 with fail
  rw [← HW.out]
  go_wp2_with fail
  refine (implOk la lc bs W (SB.out.below BW.out) hlc).mono ?_
  rintro e w1 ⟨rfl, b1⟩
  rw [hB]
  have B1 : Hid (Below w.heap.size w w1) := BW.out.trans (b1.mono BW.out.size)
  obtain ⟨_, z0, z1, z2, z3⟩ := Z0.out.below b1
  have fz : ∀ o, w1.frozen? ⟨w.heap.size, o, none⟩ = false := fun o => by rw [b1.frozen (p := ⟨w.heap.size, o, none⟩) Z0.out.1]; exact FZ.out o
  clear b1
  go_wp2_with fail
  refine ⟨.agg #[.slice none 0 0, .slice none 0 0, .int .i64 0, .int .i64 3], by simp [results, Try.results123, go_sem, z0, z1, z2, z3], ?_⟩
  rw [EF.out]
  refine ⟨⟨_, _, rfl, OwnP.nil _ _ _, OwnP.nil _ _ _, .inl rfl⟩, ?_⟩
  exact (((B1.out.setCell (Nat.le_refl _) _).setCell (Nat.le_refl _) _).setCell (Nat.le_refl _) _).setCell (Nat.le_refl _) _

set_option maxRecDepth 100000 in
set_option maxHeartbeats 4000000 in
theorem implRunB (la pa : Option Addr) (lc pc : Nat) (bs : List P2) (xs : List Q4) (w : World) (hb : Sl w la bs) (hx : Sl4 w pa xs) (hlc : bs.length ≤ lc) (l2 : xs.length ≤ 2 ^ 40) (hB : boxOk bs = true) (hP : progOk xs = false) :
    Calls Try.prog 123 #[.slice la bs.length lc, .slice pa xs.length pc] w fun e w' => RunPost (execRun bs xs) w.heap.size e w' ∧ Below w.heap.size w w' := by
  have SB : Hid (Sl w la bs) := hb
  have SX : Hid (Sl4 w pa xs) := hx
  clear hb hx
  have hmf : ∀ (fn : Fn) (first cap : Array Value) (w : World), (Instr.makeFunc fn first cap).run Try.prog w = .ok (.func fn first cap) w := fun _ _ _ _ => rfl
  have hmm := @run_makeMap Try.prog
  obtain ⟨W, hW⟩ : ∃ W, W = w.alloc (.cells #[.slice none 0 0, .slice none 0 0, .int .i64 0, .int .i64 0] 27) := ⟨_, rfl⟩
  have BW : Hid (Below w.heap.size w W) := by show Below _ _ _; rw [hW]; exact below_new _ _
  have HSW : Hid (W.heap.size = w.heap.size + 1) := by show _ = _; rw [hW]; simp
  have Z0 : Hid (C4 W w.heap.size (.slice none 0 0) (.slice none 0 0) (.int .i64 0) (.int .i64 0)) := by show C4 _ _ _ _ _ _; rw [hW]; exact C4.new _ _ _ _ _ _
  have FZ : Hid (∀ o, W.frozen? ⟨w.heap.size, o, none⟩ = false) := by show ∀ o, _; rw [hW]; exact fun o => frozen_heap (heap_new _ _) o
  have HW : Hid (W = _) := hW
  clear hW
  have EF : Hid (execRun bs xs = ⟨[], [], 0, 3⟩) := execRun_form (by simp [hP])
  go_enter_defers Try.func123, Try.ntmps123
  go_upto_region 1 with fail
  rw [← HW.out]
  go_wp2_with fail
  refine (implOk la lc bs W (SB.out.below BW.out) hlc).mono ?_
  rintro e w1 ⟨rfl, b1⟩
  rw [hB]
  have B1 : Hid (Below W.heap.size W w1) := b1
  clear b1
  go_wp2_with fail
  refine (implProgOk pa pc xs w1 ((SX.out.below BW.out).below B1.out) l2).mono ?_
  rintro e w2 ⟨rfl, b2⟩
  rw [hP]
  have B2' : Hid (Below W.heap.size W w2) := B1.out.trans (b2.mono B1.out.size)
  have B2 : Hid (Below w.heap.size w w2) := BW.out.trans (B2'.out.mono BW.out.size)
  obtain ⟨_, z0, z1, z2, z3⟩ := Z0.out.below B2'.out
  have fz : ∀ o, w2.frozen? ⟨w.heap.size, o, none⟩ = false := fun o => by rw [B2'.out.frozen (p := ⟨w.heap.size, o, none⟩) Z0.out.1]; exact FZ.out o
  clear b2
  go_wp2_with fail
  refine ⟨.agg #[.slice none 0 0, .slice none 0 0, .int .i64 0, .int .i64 3], by simp [results, Try.results123, go_sem, z0, z1, z2, z3], ?_⟩
  rw [EF.out]
  refine ⟨⟨_, _, rfl, OwnP.nil _ _ _, OwnP.nil _ _ _, .inl rfl⟩, ?_⟩
  exact (((B2.out.setCell (Nat.le_refl _) _).setCell (Nat.le_refl _) _).setCell (Nat.le_refl _) _).setCell (Nat.le_refl _) _

set_option maxRecDepth 100000 in
set_option maxHeartbeats 4000000 in
theorem implRunC (la pa : Option Addr) (lc pc : Nat) (bs : List P2) (xs : List Q4) (w : World) (hb : Sl w la bs) (hx : Sl4 w pa xs) (hlc : bs.length ≤ lc) (l2 : xs.length ≤ 2 ^ 40) (hB : boxOk bs = true) (hP : progOk xs = true) :
    Calls Try.prog 123 #[.slice la bs.length lc, .slice pa xs.length pc] w fun e w' => RunPost (execRun bs xs) w.heap.size e w' ∧ Below w.heap.size w w' := by
  have SB : Hid (Sl w la bs) := hb
  have SX : Hid (Sl4 w pa xs) := hx
  clear hb hx
  have hmf : ∀ (fn : Fn) (first cap : Array Value) (w : World), (Instr.makeFunc fn first cap).run Try.prog w = .ok (.func fn first cap) w := fun _ _ _ _ => rfl
  have hmm := @run_makeMap Try.prog
  obtain ⟨W, hW⟩ : ∃ W, W = w.alloc (.cells #[.slice none 0 0, .slice none 0 0, .int .i64 0, .int .i64 0] 27) := ⟨_, rfl⟩
  have BW : Hid (Below w.heap.size w W) := by show Below _ _ _; rw [hW]; exact below_new _ _
  have HSW : Hid (W.heap.size = w.heap.size + 1) := by show _ = _; rw [hW]; simp
  have Z0 : Hid (C4 W w.heap.size (.slice none 0 0) (.slice none 0 0) (.int .i64 0) (.int .i64 0)) := by show C4 _ _ _ _ _ _; rw [hW]; exact C4.new _ _ _ _ _ _
  have FZ : Hid (∀ o, W.frozen? ⟨w.heap.size, o, none⟩ = false) := by show ∀ o, _; rw [hW]; exact fun o => frozen_heap (heap_new _ _) o
  have HW : Hid (W = _) := hW
  clear hW
  have ER : Hid (execRun bs xs = outR (runR bs xs 0 initR)) := execRun_is hB hP
  have IV : Hid (Inv bs xs (runR bs xs 0 initR)) := inv_of hP
  have HBO : Hid (boxOk bs = true) := hB
  have HPO : Hid (progOk xs = true) := hP
  have HL4 : Hid (bs.length = 4) := boxOk_len hB
  go_enter_defers Try.func123, Try.ntmps123
  go_upto_region 1 with fail
  rw [← HW.out]
  go_wp2_with fail
  refine (implOk la lc bs W (SB.out.below BW.out) hlc).mono ?_
  rintro e w1 ⟨rfl, b1⟩
  rw [hB]
  have B1 : Hid (Below W.heap.size W w1) := b1
  clear b1
  go_wp2_with fail
  refine (implProgOk pa pc xs w1 ((SX.out.below BW.out).below B1.out) l2).mono ?_
  rintro e w2 ⟨rfl, b2⟩
  rw [hP]
  have B2 : Hid (Below W.heap.size W w2) := B1.out.trans (b2.mono B1.out.size)
  clear b2 hB hP
  go_wp2_with fail
  refine (boxesFrom la lc bs 0 w2 ((SB.out.below BW.out).below B2.out) hlc (Nat.zero_le _)).mono ?_
  rintro e w3 ⟨rfl, b3⟩
  have B3 : Hid (Below W.heap.size W w3) := B2.out.trans (b3.mono B2.out.size)
  have B3w : Hid (Below w.heap.size w w3) := BW.out.trans (B3.out.mono BW.out.size)
  clear b3
  have fd : ∀ i, fromD bs 0 i = bs.getD i (0, 0) := fun i => by simp [fromD]
  rw [fd, fd, fd, fd]
  clear fd
  obtain ⟨X, hX⟩ : ∃ X, X = (w3.alloc (.map #[] 0)).alloc (.cells (cells20 (bs.getD 0 (0, 0)) (bs.getD 1 (0, 0)) (bs.getD 2 (0, 0)) (bs.getD 3 (0, 0)) w3.heap.size) 182) := ⟨_, rfl⟩
  have HNX : Hid (Now (w3.heap.size + 2) (w3.heap.size + 1) w3.heap.size X bs 0 0 initR (.slice none 0 0) (.slice none 0 0)) := by show Now _ _ _ _ _ _ _ _ _ _; rw [hX]; exact nowInit w3 bs HL4.out
  have HSX : Hid (X.heap.size = w3.heap.size + 2) := by show _ = _; rw [hX]; simp
  have BX : Hid (Below w3.heap.size w3 X) := by show Below _ _ _; rw [hX]; exact ((Below.refl _ _).alloc (Nat.le_refl _) _).alloc (by simp) _
  have HX : Hid (X = _) := hX
  clear hX
  generalize bs.getD 0 (0, 0) = e0 at HX
  generalize bs.getD 1 (0, 0) = e1 at HX
  generalize bs.getD 2 (0, 0) = e2 at HX
  generalize bs.getD 3 (0, 0) = e3 at HX
  have hst := store20 (w3.alloc (.map #[] 0)) e0 e1 e2 e3 w3.heap.size (w3.heap.size + 1) (by simp)
  unfold zeros20 at hst
  have hsz : (cells20 e0 e1 e2 e3 w3.heap.size).size = 20 := rfl
  go_upto_region 4 with (first | (refine wpList_build_is rfl 182 _ rfl (cells20 e0 e1 e2 e3 w3.heap.size) (by kernel_rfl) ?_) | fail)
  rw [← HX.out]
  clear hst hsz hmm
  have SXX : Hid (Sl4b w.heap.size X pa xs) := by
    rcases SX.out with h | ⟨b, off, e, h⟩
    · exact .inl h
    · exact .inr ⟨b, off, e, h.1, (h.below B3w.out).belowAt BX.out (Nat.lt_of_lt_of_le h.1 B3w.out.size)⟩
  have hww : w.heap.size < w3.heap.size := Nat.lt_of_lt_of_le Z0.out.1 B3.out.size
  have Z3 : Hid (C4 X w.heap.size (.slice none 0 0) (.slice none 0 0) (.int .i64 0) (.int .i64 0)) := (Z0.out.below B3.out).below (BX.out.mono (by omega))
  have DA : Hid (Calls Try.prog 145 #[.pointer (some ⟨w3.heap.size + 1, 0, none⟩), .slice pa xs.length pc] X fun e w' => AllPost (w3.heap.size + 2) (w3.heap.size + 1) w3.heap.size bs xs X e w') :=
    doAllC (w3.heap.size + 2) (w3.heap.size + 1) w3.heap.size bs xs pa pc _ _ X HNX.out (by have := HSX.out; omega) HBO.out HPO.out w.heap.size SXX.out (by omega)
  go_wp2_with fail
  refine Calls.mono DA.out ?_
  rintro e w4 ⟨K4, hd⟩
  have Z4 : Hid (C4 w4 w.heap.size (.slice none 0 0) (.slice none 0 0) (.int .i64 0) (.int .i64 0)) := Z3.out.kq K4 (by omega) (by simp; omega)
  have F4 : Hid (∀ o, w4.frozen? ⟨w.heap.size, o, none⟩ = false) := fun o => by
    rw [K4.frozen (by omega) (by simp; omega), BX.out.frozen (p := ⟨w.heap.size, o, none⟩) hww, B3.out.frozen (p := ⟨w.heap.size, o, none⟩) Z0.out.1]; exact FZ.out o
  have B4 : Hid (Below w.heap.size w w4) := B3w.out.trans ((BX.out.mono (by omega)).trans (K4.below (B' := w.heap.size) (fun x hx => by simp at hx; omega) (by omega)))
  have S4 : Hid (w3.heap.size + 2 ≤ w4.heap.size) := by show _ ≤ _; have := K4.size; have := HSX.out; omega
  clear K4
  rcases hd with ⟨hc, rfl, k, N, rv, ov, hN⟩ | ⟨hc, rfl, rv, h17, ho, _⟩
  · -- it came to its end
    have EE : Hid (execRun bs xs = ⟨(runR bs xs 0 initR).reads, (runR bs xs 0 initR).puts, (runR bs xs 0 initR).regs.getD 0 0, 0⟩) := by
      show _ = _
      rw [ER.out]
      unfold outR
      rw [if_pos hc]
    have IP : Hid (∀ p, p ∈ (runR bs xs 0 initR).puts → ∃ j : Nat, j < 4 ∧ p.1 = (j : Int)) := fun p hp => by
      obtain ⟨j, h1, h2, _⟩ := IV.out.pt p hp
      exact ⟨j, h1, h2⟩
    have IND : Hid (((runR bs xs 0 initR).puts.map Prod.fst).Nodup) := IV.out.ptN
    have IL : Hid ((runR bs xs 0 initR).puts.length ≤ 4) := by
      show _ ≤ _
      have h1 := puts_few IV.out
      have h2 := boxesTo_len putsQ xs 4
      omega
    generalize runR bs xs 0 initR = s at hN EE IP IND IL
    have HN : Hid (Now (w3.heap.size + 2) (w3.heap.size + 1) w3.heap.size w4 bs k N s rv ov) := hN
    obtain ⟨ra, rc, hrv, _, _, _, _⟩ := hN.reads.open
    have c17 : w4.cell? ⟨w3.heap.size + 1, 17, none⟩ = some (.slice ra s.reads.length rc) := by rw [← hrv]; exact hN.rdc
    have c8 : w4.cell? ⟨w3.heap.size + 1, 8, none⟩ = some (.int .i64 (s.regs.getD 0 0)) := hN.regs.2 0 (by rw [hN.four]; omega)
    have HRV : Hid (rv = .slice ra s.reads.length rc) := hrv
    have TC : Hid (Calls Try.prog 146 #[.pointer (some ⟨w3.heap.size + 1, 0, none⟩)] w4.drew fun e w' => ∃ v, e = .returned v ∧ OwnP 36 w' w4.heap.size v s.puts ∧ Below w4.heap.size w4 w') :=
      (toldC (w3.heap.size + 2) (w3.heap.size + 1) w3.heap.size bs k N s rv ov w4.drew (hN.turned (L := []) (Turned.refl _ _).drew (by simp) (by simp) (by simp) (by simp)) IP.out IND.out IL.out).mono (fun e w' ⟨v, h1, h2, h3⟩ => ⟨v, h1, h2, ⟨h3.os, h3.tape, h3.output, h3.size, h3.block⟩⟩)
    generalize s.regs.getD 0 0 = r0 at c8 EE
    have hnb4 : w3.heap.size + 1 < w4.heap.size := by have := S4.out; omega
    clear hN hrv IV hc
    go_upto_region 6 with fail
    refine wp_region_held_drew (S := (fun w' : World => w'.cell? ⟨w3.heap.size + 1, 17, none⟩ = some (.slice ra s.reads.length rc) ∧ w'.cell? ⟨w3.heap.size + 1, 8, none⟩ = some (.int .i64 r0))) (by kernel_rfl) ⟨c17, c8⟩ (fun hHeld => ?_)
    refine wpAnyH_take (i := 0) (v := ?v0) rfl (by kernel_rfl) (by kernel_rfl) (by kernel_rfl) (fun _ _ _ h => panicTmps 22 _ (by decide) h) (Or.inl ⟨by rfl, ?y0⟩) (by assumption) ?r0
    case y0 =>
      intro w' hSw
      try dsimp only at hSw
      go_simp
      try with_reducible rfl
    try simp only [Act.put, List.setIfInBounds_toArray, List.set_cons_zero, List.set_cons_succ]
    refine wpAnyH_take (i := 1) (v := ?v1) rfl (by kernel_rfl) (by kernel_rfl) (by kernel_rfl) (fun _ _ _ h => panicTmps 23 _ (by decide) h) (Or.inl ⟨by rfl, ?y1⟩) (by assumption) ?r1
    case y1 =>
      intro w' hSw
      try dsimp only at hSw
      go_simp
      try with_reducible rfl
    try simp only [Act.put, List.setIfInBounds_toArray, List.set_cons_zero, List.set_cons_succ]
    refine wpAnyH_take (i := 3) (v := ?v3) rfl (by kernel_rfl) (by kernel_rfl) (by kernel_rfl) (fun _ _ _ h => panicTmps 25 _ (by decide) h) (Or.inl ⟨by rfl, ?y3⟩) (by assumption) ?r3
    case y3 =>
      intro w' hSw
      try dsimp only at hSw
      go_simp
      try with_reducible rfl
    try simp only [Act.put, List.setIfInBounds_toArray, List.set_cons_zero, List.set_cons_succ]
    refine wpAnyH_take (i := 4) (v := ?v4) rfl (by kernel_rfl) (by kernel_rfl) (by kernel_rfl) (fun _ _ _ h => panicTmps 26 _ (by decide) h) (Or.inl ⟨by rfl, ?y4⟩) (by assumption) ?r4
    case y4 =>
      intro w' hSw
      try dsimp only at hSw
      go_simp
      try with_reducible rfl
    try simp only [Act.put, List.setIfInBounds_toArray, List.set_cons_zero, List.set_cons_succ]
    refine wpAnyH_take (i := 5) (v := ?v5) rfl (by kernel_rfl) (by kernel_rfl) (by kernel_rfl) (fun _ _ _ h => panicTmps 27 _ (by decide) h) (Or.inl ⟨by rfl, ?y5⟩) (by assumption) ?r5
    case y5 =>
      intro w' hSw
      try dsimp only at hSw
      go_simp
      try with_reducible rfl
    try simp only [Act.put, List.setIfInBounds_toArray, List.set_cons_zero, List.set_cons_succ]
    refine wpAnyH_ready (rs := [2]) (by kernel_rfl) (by simp) ?_
    refine AllReadyH.cons rfl (fun K hK => ?_) AllReadyH.nil
    go_simp
    refine Calls.mono TC.out ?_
    rintro e w5 ⟨pv, rfl, op5, b5⟩
    obtain ⟨pa5, pc5, hpv, _, _, _, _⟩ := op5.open
    have hS5 : w5.cell? ⟨w3.heap.size + 1, 17, none⟩ = some (.slice ra s.reads.length rc) ∧ w5.cell? ⟨w3.heap.size + 1, 8, none⟩ = some (.int .i64 r0) := ⟨(b5.cell (p := ⟨w3.heap.size + 1, 17, none⟩) hnb4).trans c17, (b5.cell (p := ⟨w3.heap.size + 1, 8, none⟩) hnb4).trans c8⟩
    have B5 : Hid (Below w.heap.size w w5) := B4.out.trans (b5.mono B4.out.size)
    have Z5 : Hid (C4 w5 w.heap.size (.slice none 0 0) (.slice none 0 0) (.int .i64 0) (.int .i64 0)) := Z4.out.below b5
    have F5 : Hid (∀ o, w5.frozen? ⟨w.heap.size, o, none⟩ = false) := fun o => by rw [b5.frozen (p := ⟨w.heap.size, o, none⟩) Z4.out.1]; exact F4.out o
    have OP5 : Hid (OwnP 36 w5 w4.heap.size pv s.puts) := op5
    have OR5 : Hid (OwnP 40 w5 (w3.heap.size + 2) rv s.reads) := HN.out.reads.below b5
    have LR5 : Hid (∀ g, rv.ownBlock = some g → w3.heap.size + 2 ≤ g ∧ g < w4.heap.size) := fun g e => World.ownsRow.lt HN.out.reads g e
    have HPV : Hid (pv = .slice pa5 s.puts.length pc5) := hpv
    rw [hpv]
    clear op5 b5 hpv
    refine hK.out _ _ hS5 (fun hHeld5 => ?_)
    clear hK K hHeld hS5
    refine wpAnyH_take (i := 6) (v := ?v6) rfl (by kernel_rfl) (by kernel_rfl) (by kernel_rfl) (fun _ _ _ h => panicTmps 28 _ (by decide) h) (Or.inl ⟨by rfl, ?y6⟩) (by assumption) ?r6
    case y6 =>
      intro w' hSw
      try dsimp only at hSw
      go_simp
      try with_reducible rfl
    simp only [Act.put, List.getElem_toArray, List.getElem_cons_succ, List.getElem_cons_zero, List.setIfInBounds_toArray, List.set_cons_zero, List.set_cons_succ]
    refine wpAnyH_ready (rs := [7]) (by kernel_rfl) (by simp) ?_
    refine AllReadyH.cons rfl (fun K hK => ?_) AllReadyH.nil
    obtain ⟨_, z0, z1, z2, z3⟩ := Z5.out
    have fz := F5.out
    have FIN : Hid (RunPost (execRun bs xs) w.heap.size (.returned (.agg #[.slice ra s.reads.length rc, .slice pa5 s.puts.length pc5, .int .i64 r0, .int .i64 0])) ((((w5.setCell ⟨w.heap.size, 0, none⟩ (.slice ra s.reads.length rc)).setCell ⟨w.heap.size, 1, none⟩ (.slice pa5 s.puts.length pc5)).setCell ⟨w.heap.size, 2, none⟩ (.int .i64 r0)).setCell ⟨w.heap.size, 3, none⟩ (.int .i64 0)) ∧ Below w.heap.size w ((((w5.setCell ⟨w.heap.size, 0, none⟩ (.slice ra s.reads.length rc)).setCell ⟨w.heap.size, 1, none⟩ (.slice pa5 s.puts.length pc5)).setCell ⟨w.heap.size, 2, none⟩ (.int .i64 r0)).setCell ⟨w.heap.size, 3, none⟩ (.int .i64 0))) := by
      have T5 : Turned [w.heap.size] w5 ((((w5.setCell ⟨w.heap.size, 0, none⟩ (.slice ra s.reads.length rc)).setCell ⟨w.heap.size, 1, none⟩ (.slice pa5 s.puts.length pc5)).setCell ⟨w.heap.size, 2, none⟩ (.int .i64 r0)).setCell ⟨w.heap.size, 3, none⟩ (.int .i64 0)) := ((((Turned.refl _ _).set (by simp) _).set (by simp) _).set (by simp) _).set (by simp) _
      have h4 := S4.out
      refine ⟨?_, B5.out.trans (T5.below (by simp) B5.out.size)⟩
      rw [EE.out]
      refine ⟨rv, pv, by rw [HRV.out, HPV.out], (OR5.out.turned T5 (fun g e => by have := LR5.out g e; simp; omega)).lower (by omega), (OP5.out.turned T5 (fun g e => by have := (World.ownsRow.lt OP5.out g e).1; simp; omega)).lower (by omega), ?_⟩
      cases hg : rv.ownBlock with
      | none => exact .inl rfl
      | some g =>
        refine .inr fun e => ?_
        have h1 := LR5.out g hg
        have h2 := (World.ownsRow.lt OP5.out g e.symm).1
        omega
    have C5 : Hid (C4 ((((w5.setCell ⟨w.heap.size, 0, none⟩ (.slice ra s.reads.length rc)).setCell ⟨w.heap.size, 1, none⟩ (.slice pa5 s.puts.length pc5)).setCell ⟨w.heap.size, 2, none⟩ (.int .i64 r0)).setCell ⟨w.heap.size, 3, none⟩ (.int .i64 0)) w.heap.size (.slice ra s.reads.length rc) (.slice pa5 s.puts.length pc5) (.int .i64 r0) (.int .i64 0)) := Z5.out.put4 _ _ _ _
    have K5 : ((((w5.setCell ⟨w.heap.size, 0, none⟩ (.slice ra s.reads.length rc)).setCell ⟨w.heap.size, 1, none⟩ (.slice pa5 s.puts.length pc5)).setCell ⟨w.heap.size, 2, none⟩ (.int .i64 r0)).setCell ⟨w.heap.size, 3, none⟩ (.int .i64 0)).cell? ⟨w3.heap.size + 1, 17, none⟩ = some (.slice ra s.reads.length rc) ∧ ((((w5.setCell ⟨w.heap.size, 0, none⟩ (.slice ra s.reads.length rc)).setCell ⟨w.heap.size, 1, none⟩ (.slice pa5 s.puts.length pc5)).setCell ⟨w.heap.size, 2, none⟩ (.int .i64 r0)).setCell ⟨w.heap.size, 3, none⟩ (.int .i64 0)).cell? ⟨w3.heap.size + 1, 8, none⟩ = some (.int .i64 r0) := by
      have ne : ∀ o (u : World) (x : Value) o', (u.setCell ⟨w.heap.size, o, none⟩ x).cell? ⟨w3.heap.size + 1, o', none⟩ = u.cell? ⟨w3.heap.size + 1, o', none⟩ := fun o u x o' => World.cell?_setCell_other _ _ _ _ (by intro e; injection e with e1 _ _; omega)
      rw [ne, ne, ne, ne, ne, ne, ne, ne]; exact hHeld5
    have HK5 : Hid _ := K5
    clear K5 hHeld5
    go_simp
    refine hK.out _ _ HK5.out (fun _ => ?_)
    clear hK K HK5 z0 z1 z2 z3 fz
    refine wpAnyH_done (by kernel_rfl) ?_ _
    go_wp2_with fail
    refine leaves_cons (f := 143) (args := #[.pointer (some ⟨w3.heap.size + 1, 0, none⟩), .pointer (some ⟨w.heap.size, 0, none⟩)]) (by simp) (by simp [go_sem]) ?_
    refine (catchIdle _ _ _).mono ?_
    rintro e u' w'' ⟨rfl, rfl, rfl⟩
    obtain ⟨_, y0, y1, y2, y3⟩ := C5.out
    refine ⟨.agg #[.slice ra s.reads.length rc, .slice pa5 s.puts.length pc5, .int .i64 r0, .int .i64 0], by simp [results, Try.results123, go_sem, y0, y1, y2, y3], FIN.out⟩
  · -- it ended ahead of that
    have EE : Hid (execRun bs xs = ⟨(runR bs xs 0 initR).reads, [], 0, (runR bs xs 0 initR).code⟩) := by
      show _ = _
      rw [ER.out]
      unfold outR
      rw [if_neg hc]
    generalize runR bs xs 0 initR = s at hc h17 ho EE
    obtain ⟨ra, rc, hrv, _, _, _, _⟩ := ho.open
    have c17 : w4.cell? ⟨w3.heap.size + 1, 17, none⟩ = some (.slice ra s.reads.length rc) := by rw [← hrv]; exact h17
    have FIN : Hid (RunPost (execRun bs xs) w.heap.size (.returned (.agg #[.slice ra s.reads.length rc, .slice none 0 0, .int .i64 0, .int .i64 s.code])) ((((w4.setCell ⟨w.heap.size, 0, none⟩ (.slice ra s.reads.length rc)).setCell ⟨w.heap.size, 1, none⟩ (.slice none 0 0)).setCell ⟨w.heap.size, 2, none⟩ (.int .i64 0)).setCell ⟨w.heap.size, 3, none⟩ (.int .i64 s.code)) ∧ Below w.heap.size w ((((w4.setCell ⟨w.heap.size, 0, none⟩ (.slice ra s.reads.length rc)).setCell ⟨w.heap.size, 1, none⟩ (.slice none 0 0)).setCell ⟨w.heap.size, 2, none⟩ (.int .i64 0)).setCell ⟨w.heap.size, 3, none⟩ (.int .i64 s.code))) := by
      have T5 : Turned [w.heap.size] w4 ((((w4.setCell ⟨w.heap.size, 0, none⟩ (.slice ra s.reads.length rc)).setCell ⟨w.heap.size, 1, none⟩ (.slice none 0 0)).setCell ⟨w.heap.size, 2, none⟩ (.int .i64 0)).setCell ⟨w.heap.size, 3, none⟩ (.int .i64 s.code)) := ((((Turned.refl _ _).set (by simp) _).set (by simp) _).set (by simp) _).set (by simp) _
      refine ⟨?_, B4.out.trans (T5.below (by simp) B4.out.size)⟩
      rw [EE.out]
      refine ⟨rv, .slice none 0 0, by rw [hrv], (ho.turned T5 (fun g e => by have := (World.ownsRow.lt ho g e).1; simp; omega)).lower (by omega), OwnP.nil _ _ _, ?_⟩
      cases hg : rv.ownBlock with
      | none => exact .inl rfl
      | some g => exact .inr (by simp [Value.ownBlock])
    have C5 : Hid (C4 ((((w4.setCell ⟨w.heap.size, 0, none⟩ (.slice ra s.reads.length rc)).setCell ⟨w.heap.size, 1, none⟩ (.slice none 0 0)).setCell ⟨w.heap.size, 2, none⟩ (.int .i64 0)).setCell ⟨w.heap.size, 3, none⟩ (.int .i64 s.code)) w.heap.size (.slice ra s.reads.length rc) (.slice none 0 0) (.int .i64 0) (.int .i64 s.code)) := Z4.out.put4 _ _ _ _
    refine leaves_cons (f := 143) (args := #[.pointer (some ⟨w3.heap.size + 1, 0, none⟩), .pointer (some ⟨w.heap.size, 0, none⟩)]) (by simp) (by simp [go_sem]) ?_
    refine (catchPanic (w3.heap.size + 1) w.heap.size s.code ra s.reads.length rc w4 hc c17 Z4.out F4.out).mono ?_
    rintro e u' w'' ⟨rfl, rfl, rfl⟩
    obtain ⟨_, y0, y1, y2, y3⟩ := C5.out
    refine ⟨.agg #[.slice ra s.reads.length rc, .slice none 0 0, .int .i64 0, .int .i64 s.code], by simp [results, Try.results123, go_sem, y0, y1, y2, y3], FIN.out⟩

theorem implRun (la pa : Option Addr) (lc pc : Nat) (bs : List P2) (xs : List Q4) (w : World) (hb : Sl w la bs) (hx : Sl4 w pa xs) (hlc : bs.length ≤ lc) (l2 : xs.length ≤ 2 ^ 40) :
    Calls Try.prog 123 #[.slice la bs.length lc, .slice pa xs.length pc] w fun e w' => RunPost (execRun bs xs) w.heap.size e w' ∧ Below w.heap.size w w' := by
  cases hB : boxOk bs with
  | false => exact implRunA la pa lc pc bs xs w hb hx hlc l2 hB
  | true =>
    cases hP : progOk xs with
    | false => exact implRunB la pa lc pc bs xs w hb hx hlc l2 hB hP
    | true => exact implRunC la pa lc pc bs xs w hb hx hlc l2 hB hP
end Go.Proofs.Ytgcencilgpilaaa.Own

namespace Go.Proofs.Ytgcencilgpilaaa.Own
open Go.RowKit
set_option linter.unusedVariables false

theorem OwnP.ownB {t : TypeId} {w : World} {B : Nat} {v : Value} {xs : List P2} (h : OwnP t w B v xs) :
    ∃ a cap, v = .slice a xs.length cap ∧ OwnB w B a xs ∧ (∀ x, a = some x → v.ownBlock = some x.block ∧ B ≤ x.block ∧ x.block < w.heap.size) := by
  obtain ⟨a, cap, hv, hs, hc, hm, hb⟩ := h.open
  refine ⟨a, cap, hv, ?_, fun x e => ?_⟩
  · rcases hs with h0 | ⟨b, off, rfl, hat⟩
    · exact .inl h0
    · obtain ⟨h1, h2, h3⟩ := hb _ rfl
      simp only at h2
      subst h2
      refine .inr ⟨b, rfl, (World.ownsRow.lt h b h1).1, hat, fun o => ?_⟩
      rw [hv] at h
      exact OwnP.frozen h o
  · obtain ⟨h1, _, _⟩ := hb x e
    exact ⟨h1, World.ownsRow.lt h x.block h1⟩

structure RunB (o : RunOut) (B : Nat) (w : World) (a1 a2 : Option Addr) : Prop where
  reads : OwnB w B a1 o.reads
  puts : OwnB w B a2 o.puts
  apart : Apart a1 a2 o.reads o.puts
  far1 : ∀ x, a1 = some x → B ≤ x.block ∧ x.block < w.heap.size
  far2 : ∀ x, a2 = some x → B ≤ x.block ∧ x.block < w.heap.size
theorem RunPost.open {o : RunOut} {B : Nat} {e : Ending} {w : World} (h : RunPost o B e w) : ∃ a1 c1 a2 c2, e = .returned (.agg #[.slice a1 o.reads.length c1, .slice a2 o.puts.length c2, .int .i64 o.val, .int .i64 o.code]) ∧ RunB o B w a1 a2 := by
  obtain ⟨rv, pv, rfl, hr, hp, ha⟩ := h
  obtain ⟨a1, c1, e1, o1, f1⟩ := hr.ownB
  obtain ⟨a2, c2, e2, o2, f2⟩ := hp.ownB
  refine ⟨a1, c1, a2, c2, by rw [e1, e2], o1, o2, .inr (.inr fun g g' eg eg' e => ?_), fun x e => (f1 x e).2, fun x e => (f2 x e).2⟩
  have h1 := (f1 _ eg).1
  have h2 := (f2 _ eg').1
  rcases ha with h | h
  · rw [h] at h1; cases h1
  · exact h (by rw [h1, h2, e])
theorem RunB.below {o : RunOut} {B : Nat} {w w' : World} {a1 a2 : Option Addr} (h : RunB o B w a1 a2) (hb : Below w.heap.size w w') : RunB o B w' a1 a2 :=
  ⟨h.reads.below hb, h.puts.below hb, h.apart, fun x e => ⟨(h.far1 x e).1, Nat.lt_of_lt_of_le (h.far1 x e).2 hb.size⟩, fun x e => ⟨(h.far2 x e).1, Nat.lt_of_lt_of_le (h.far2 x e).2 hb.size⟩⟩
theorem RunB.turned {L : List Nat} {o : RunOut} {B : Nat} {w w' : World} {a1 a2 : Option Addr} (h : RunB o B w a1 a2) (ht : Turned L w w') (h1 : ∀ x, a1 = some x → x.block ∉ L) (h2 : ∀ x, a2 = some x → x.block ∉ L) : RunB o B w' a1 a2 :=
  ⟨h.reads.turned ht (fun g e => h1 _ e), h.puts.turned ht (fun g e => h2 _ e), h.apart, fun x e => ⟨(h.far1 x e).1, Nat.lt_of_lt_of_le (h.far1 x e).2 ht.size⟩, fun x e => ⟨(h.far2 x e).1, Nat.lt_of_lt_of_le (h.far2 x e).2 ht.size⟩⟩
/-- The blocks of a run's lists. -/
def blocksOf (a1 a2 : Option Addr) : List Nat := (a1.map (·.block)).toList ++ (a2.map (·.block)).toList
theorem mem_blocksOf {a1 a2 : Option Addr} {x : Nat} : x ∈ blocksOf a1 a2 → (∃ y, a1 = some y ∧ y.block = x) ∨ (∃ y, a2 = some y ∧ y.block = x) := by
  intro h
  unfold blocksOf at h
  rw [List.mem_append, Option.mem_toList, Option.mem_toList] at h
  rcases h with h | h
  · simp only [Option.map_eq_some_iff] at h; exact .inl h
  · simp only [Option.map_eq_some_iff] at h; exact .inr h
theorem blocksOf_1 {a1 a2 : Option Addr} {g : Nat} (h : a1 = some ⟨g, 0, none⟩) : g ∈ blocksOf a1 a2 := by subst h; simp [blocksOf]
theorem blocksOf_2 {a1 a2 : Option Addr} {g : Nat} (h : a2 = some ⟨g, 0, none⟩) : g ∈ blocksOf a1 a2 := by subst h; simp [blocksOf]
end Go.Proofs.Ytgcencilgpilaaa.Own
