/-
  Own text: the mathematics that laws.FnProg asks beyond FnExactProgRead's.
-/
import Derived.Test.YtbcnmmofccackaaGreatDoorDrawReadQ
import Derived.Test.YtbcnmmofccackaaGreatDoorRead2Math
import Derived.Test.YtbcnmmofccackaaGreatDoorReadI5
import Derived.Test.YtbcnmmofccackaaGreatDoorTouch
namespace Go.Proofs.YtbcnmmofccackaaGreatDoor.Own
open Go.RowKit
set_option linter.unusedVariables false
set_option linter.unusedSimpArgs false

theorem insOk_fits (p : Q4) (h : insOk p = true) : FitsQ p := by
  obtain ⟨k, a, b, n⟩ := p
  unfold insOk at h
  dsimp only at h
  have F : ∀ z : Int, -2000000 ≤ z → z ≤ 2000000 → Fits z := fun z h1 h2 => ⟨by omega, by omega⟩
  split at h
  · rename_i hk
    simp [regOk] at h
    exact ⟨F _ (by show _ ≤ k; omega) (by show k ≤ _; omega), F _ (by show _ ≤ a; omega) (by show a ≤ _; omega), F _ (by show _ ≤ b; omega) (by show b ≤ _; omega), F _ (by show _ ≤ n; omega) (by show n ≤ _; omega)⟩
  split at h
  · rename_i hk
    simp [regOk, numOk2] at h
    exact ⟨F _ (by show _ ≤ k; omega) (by show k ≤ _; omega), F _ (by show _ ≤ a; omega) (by show a ≤ _; omega), F _ (by show _ ≤ b; omega) (by show b ≤ _; omega), F _ (by show _ ≤ n; omega) (by show n ≤ _; omega)⟩
  split at h
  · rename_i hk
    simp [regOk, lessOk] at h
    exact ⟨F _ (by show _ ≤ k; omega) (by show k ≤ _; omega), F _ (by show _ ≤ a; omega) (by show a ≤ _; omega), F _ (by show _ ≤ b; omega) (by show b ≤ _; omega), F _ (by show _ ≤ n; omega) (by show n ≤ _; omega)⟩
  split at h
  · rename_i hk
    simp at h
    exact ⟨F _ (by show _ ≤ k; omega) (by show k ≤ _; omega), F _ (by show _ ≤ a; omega) (by show a ≤ _; omega), F _ (by show _ ≤ b; omega) (by show b ≤ _; omega), F _ (by show _ ≤ n; omega) (by show n ≤ _; omega)⟩
  · cases h

theorem progOk_wf {xs : List Q4} (h : progOk xs = true) : Wf4 xs := fun k hk => by
  refine insOk_fits _ (((progOk_iff xs).1 h).2 _ ?_)
  simp [List.getD, hk]

theorem boxesTo_asc (f : Q4 → Int → Bool) (xs : List Q4) : ∀ n i, i < (boxesTo f xs n).length → 0 ≤ (boxesTo f xs n).getD i 0 ∧ (boxesTo f xs n).getD i 0 < (n : Int) ∧ (0 < i → (boxesTo f xs n).getD (i - 1) 0 < (boxesTo f xs n).getD i 0)
  | 0, i, h => by simp [boxesTo] at h
  | n + 1, i, h => by
    have ih := boxesTo_asc f xs n
    have gl : ∀ (l r : List Int) (j : Nat), j < l.length → (l ++ r).getD j 0 = l.getD j 0 := fun l r j hj => by simp [List.getD, List.getElem?_append_left hj]
    have gr : ∀ (l : List Int) (v : Int), (l ++ [v]).getD l.length 0 = v := fun l v => by simp [List.getD]
    by_cases hi : i < (boxesTo f xs n).length
    · obtain ⟨h1, h2, h3⟩ := ih i hi
      simp only [boxesTo]
      rw [gl _ _ _ hi]
      refine ⟨h1, by omega, fun h0 => ?_⟩
      rw [gl _ _ _ (by omega)]; exact h3 h0
    · cases hc : xs.any (fun p => f p (n : Int)) with
      | false => simp only [boxesTo, hc] at h; simp at h; omega
      | true =>
        simp only [boxesTo, hc, if_true] at h ⊢
        have e : i = (boxesTo f xs n).length := by simp at h; omega
        subst e
        rw [gr]
        refine ⟨by omega, by omega, fun h0 => ?_⟩
        rw [gl _ _ _ (by omega)]
        exact (ih _ (by omega)).2.1

/-- What is to be answered to a text. -/
def Right (l : List UInt8) (xs : List Q4) (ok : Bool) : Prop := (ok = true ∧ progOk xs = true ∧ progText xs = l) ∨ (ok = false ∧ xs = [] ∧ NoProg l)

theorem reads_right {l : List UInt8} {B : Nat} {e : Ending} {w' : World} (h : ReadsProg l B e w') : ∃ (xs : List Q4) (ok : Bool) (v : Value), Right l xs ok ∧ e = .returned (.tuple #[v, .bool ok]) ∧ OwnQ w' B v xs := by
  rcases h with ⟨xs, v, h1, h2, h3, h4⟩ | ⟨h1, h2⟩
  · exact ⟨xs, true, v, .inl ⟨rfl, h1, h2⟩, h3, h4⟩
  · exact ⟨[], false, _, .inr ⟨rfl, rfl, h1⟩, h2, World.ownsRow_nil _ _ _ _⟩

theorem reads_same {l : List UInt8} {B : Nat} {e : Ending} {w' : World} {xs : List Q4} {ok : Bool} (h : ReadsProg l B e w') (r : Right l xs ok) : ∃ v : Value, e = .returned (.tuple #[v, .bool ok]) ∧ OwnQ w' B v xs := by
  rcases h with ⟨ys, v, h1, h2, h3, h4⟩ | ⟨h1, h2⟩
  · rcases r with ⟨rfl, r1, r2⟩ | ⟨_, _, r1⟩
    · have : ys = xs := progText_inj h1 r1 (by rw [h2, r2])
      subst this
      exact ⟨v, h3, h4⟩
    · exact absurd h2 (r1 ys h1)
  · rcases r with ⟨rfl, r1, r2⟩ | ⟨rfl, rfl, _⟩
    · exact absurd r2 (h1 xs r1)
    · exact ⟨_, h2, World.ownsRow_nil _ _ _ _⟩

/-- The text of a right program is read as that program. -/
theorem right_of {xs ys : List Q4} {ok : Bool} (h : Right (progText xs) ys ok) (hx : progOk xs = true) : ok = true ∧ ys = xs := by
  rcases h with ⟨h1, h2, h3⟩ | ⟨_, _, h3⟩
  · exact ⟨h1, progText_inj h2 hx h3⟩
  · exact absurd rfl (h3 xs hx)

theorem right_len {l : List UInt8} {xs : List Q4} {ok : Bool} (h : Right l xs ok) : xs.length ≤ 10 := by
  rcases h with ⟨_, h, _⟩ | ⟨_, rfl, _⟩
  · exact ((progOk_iff xs).1 h).1
  · simp

theorem str_of (t : ByteArray) : str t.data.toList = t := by
  obtain ⟨⟨x⟩⟩ := t
  rfl

theorem row_ints {w : World} {B e : Nat} {v : Value} {ys : List Int} (h : w.ownsRow B e 1 v ys.length (ys.map (Value.int .i64))) : ∃ a cap, v = .slice a ys.length cap ∧ SlI w a ys := by
  obtain ⟨h1, h2⟩ := h
  rcases h2 with ⟨hv, h0⟩ | ⟨g, cap, cur, hv, hg, hh, hmc, hml, hsz, htk⟩
  · exact ⟨none, 0, by rw [hv, h0], .inl (List.eq_nil_of_length_eq_zero h0)⟩
  · refine ⟨some ⟨g, 0, none⟩, cap, hv, .inr ⟨g, 0, rfl, (Array.getElem?_eq_some_iff.1 hh).1, fun i hi => ?_⟩⟩
    have e : (ys.map (Value.int .i64))[i]? = some (.int .i64 (ys.getD i 0)) := by simp [List.getD, hi]
    rw [← htk, List.getElem?_take_of_lt (by omega)] at e
    rw [cell_heap hh, Nat.zero_add]
    simpa using e

theorem Bytes.belowZ {w w' : World} {a : Option Addr} {n : Nat} (h : Bytes w w.heap.size a n) (hb : Below w.heap.size w w') : Bytes w' w'.heap.size a n := by
  rcases h with h | ⟨b, off, rfl, hlt, hz⟩
  · exact .inl h
  · exact .inr ⟨b, off, rfl, Nat.lt_of_lt_of_le hlt hb.size, fun i hi => by rw [hb.cell (p := ⟨b, off + i, none⟩) hlt]; exact hz i hi⟩
end Go.Proofs.YtbcnmmofccackaaGreatDoor.Own
