/-
  Own text: what impl's number and entry of its writers do.
-/
import Derived.Test.YtmcpefikmcaemaaDoorEntText
import Derived.Test.YtmcpefikmcaemaaDoorBuilderG
namespace Go.Proofs.YtmcpefikmcaemaaDoor.Own
open Go.RowKit
set_option linter.unusedVariables false
set_option linter.unusedSimpArgs false

/-- A builder at the head of block b holds this text. -/
def Bd (T : TypeId) (B b : Nat) (l : List UInt8) (w : World) : Prop := Lib.IsBuilder T 5 B b (Lib.byteCells l) w
theorem Bd.below {T : TypeId} {B b : Nat} {l : List UInt8} {w w' : World} (h : Bd T B b l w) (hb : Below w.heap.size w w') : Bd T B b l w' := isBuilder_keep h hb
theorem Bd.eq {T : TypeId} {B b : Nat} {l l' : List UInt8} {w : World} (h : Bd T B b l w) (e : l = l') : Bd T B b l' w := e ▸ h
theorem Bd.lt {T : TypeId} {B b : Nat} {l : List UInt8} {w : World} (h : Bd T B b l w) : b < w.heap.size := by
  rcases h with h | h
  · exact h.lt
  · exact h.lt
theorem kept_below {T : TypeId} {b : Nat} {w w' : World} (h : Below w.heap.size w w') : Lib.OthersKept T (some b) w w' := fun k o hk _ _ => by
  rw [h.block k (Array.getElem?_eq_some_iff.1 hk).1]; exact hk
theorem Blk.kept {w w' : World} {pb b : Nat} {C : Array Value} {t : TypeId} (h : Blk w pb C t) (k : Lib.OthersKept 5 (some b) w w') (hn : pb ≠ b) (ht : t ≠ 5) : Blk w' pb C t :=
  k pb _ h (fun e => hn (Option.some.inj e)) (fun c fz e => by injection e with _ e2 _; exact ht e2)

set_option maxRecDepth 100000 in
set_option maxHeartbeats 2000000 in
theorem writeG (T : TypeId) (hT : Heads T) (B b : Nat) (l m : List UInt8) (w : World) (h : Bd T B b l w) (hlen : l.length + m.length ≤ 2 ^ 46) (hBw : B ≤ w.heap.size) :
    Calls Tryd.prog 85 #[.pointer (some ⟨b, 0, none⟩), .string (str m)] w fun e w' => e = .returned (.tuple #[.int .i64 m.length, .nilIface]) ∧ Bd T B b (l ++ m) w' ∧ Below B w w' ∧ Lib.OthersKept 5 (some b) w w' := by
  have hml : (str m).size = m.length := str_size m
  refine (writeStringG T hT B b (Lib.byteCells l) (str m) w h (by rw [Lib.byteCells_length, hml]; omega) hBw).mono ?_
  rintro e w' ⟨rfl, d1, b1, k1⟩
  rw [cells_snoc] at d1
  exact ⟨by rw [hml], .inr d1, b1, k1⟩

set_option maxRecDepth 100000 in
set_option maxHeartbeats 2000000 in
theorem implNumber (T : TypeId) (hT : Heads T) (B b : Nat) (l m : List UInt8) (z : Int) (w : World) (h : Bd T B b l w) (hz : Fits z) (hB : ∀ w', Below B w w' → Tab w') (hlen : l.length + m.length ≤ 2 ^ 44) (hBw : B ≤ w.heap.size) :
    Calls Tryd.prog 86 #[.pointer (some ⟨b, 0, none⟩), .string (str m), .int .i64 z] w fun e w' => e = .returned (.tuple #[]) ∧ Bd T B b (l ++ (m ++ Lib.itoa z)) w' ∧ Below B w w' ∧ Lib.OthersKept 5 (some b) w w' := by
  have HB : Hid (∀ w', Below B w w' → Tab w') := hB
  have ZL := itoa_len z hz
  have C1 : Hid _ := writeG T hT B b l m w h (by omega) hBw
  obtain ⟨s, hs⟩ : ∃ s, s = str m := ⟨_, rfl⟩
  rw [← hs] at C1 ⊢
  clear hs
  obtain ⟨t, et⟩ : ∃ t, t = str (Lib.itoa z) := ⟨_, rfl⟩
  have CI : Hid (∀ w', Tab w' → Calls Tryd.prog 123 #[.int .i64 z] w' fun e w'' => e = .returned (.string t) ∧ Below w'.heap.size w' w'') := fun w' ht => by rw [et]; exact itoaC z w' hz ht
  have C2 : Hid (∀ w', Bd T B b (l ++ m) w' → B ≤ w'.heap.size → Calls Tryd.prog 85 #[.pointer (some ⟨b, 0, none⟩), .string t] w' fun e w'' => e = .returned (.tuple #[.int .i64 (Lib.itoa z).length, .nilIface]) ∧ Bd T B b (l ++ (m ++ Lib.itoa z)) w'' ∧ Below B w' w'' ∧ Lib.OthersKept 5 (some b) w' w'') := fun w' h' hb' => by
    have h2 := writeG T hT B b (l ++ m) (Lib.itoa z) w' h' (by rw [List.length_append]; omega) hb'
    rw [← et, List.append_assoc] at h2
    exact h2
  clear et h hB ZL
  go_enter Tryd.func86, Tryd.ntmps86
  go_wp2_with fail
  refine Calls.mono C1.out ?_
  rintro e w1 ⟨rfl, d1, b1, k1⟩
  have D1 : Hid (Bd T B b (l ++ m) w1) := d1
  have B1 : Hid (Below B w w1) := b1
  have K1 : Hid (Lib.OthersKept 5 (some b) w w1) := k1
  have S1 : Hid (B ≤ w1.heap.size) := Nat.le_trans hBw b1.size
  clear d1 b1 k1
  go_wp2_with fail
  go_region_with (first | (go_at_call 123; refine (CI.out _ ?_).mono ?_; exact HB.out _ (Below.drew B1.out); rintro e w2 ⟨rfl, b2⟩; have X2 : Hid (Below w1.heap.size w1 w2) := Below.trans (Below.drew (Below.refl _ _)) b2; have D2 : Hid (Bd T B b (l ++ m) w2) := D1.out.below X2.out; have K2 : Hid (Lib.OthersKept 5 (some b) w w2) := K1.out.trans (kept_below X2.out); have B2 : Hid (Below B w w2) := B1.out.trans (X2.out.mono S1.out); clear b2) | (go_at_call 85; refine (C2.out w2 D2.out (Nat.le_trans hBw B2.out.size)).mono ?_; rintro e w3 ⟨rfl, d3, b3, k3⟩; have D3 : Hid (Bd T B b (l ++ (m ++ Lib.itoa z)) w3) := d3; have B3 : Hid (Below B w w3) := B2.out.trans b3; have K3 : Hid (Lib.OthersKept 5 (some b) w w3) := K2.out.trans k3; clear d3 b3 k3))
  all_goals
    go_wp2
    go_end0
    exact ⟨rfl, D3.out, B3.out, K3.out⟩
end Go.Proofs.YtmcpefikmcaemaaDoor.Own
