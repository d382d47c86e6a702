/-
  Own text: what impl.setOf, meets, turns and impl.SerialFree do.
-/
import Derived.Test.YtgcencilgpilaaaPk8
import Derived.Test.YtgcencilgpilaaaQGatherL
import Derived.Test.YtgcencilgpilaaaQGatherP
import Derived.Test.YtgcencilgpilaaaPk7
import Derived.Test.YtgcencilgpilaaaPk6
namespace Go.Proofs.Ytgcencilgpilaaa.Own
open Go.RowKit
set_option linter.unusedVariables false
set_option linter.unusedSimpArgs false

/-- Boxes as bits. -/
def bitsOf (zs : List Int) : Int := zs.foldl (fun a z => bits .or .u64 a (IntKind.u64.wrap (2 ^ z.toNat))) 0
theorem bitsOf_succ (zs : List Int) (k : Nat) (h : k < zs.length) : bitsOf (zs.take (k + 1)) = bits .or .u64 (bitsOf (zs.take k)) (IntKind.u64.wrap (2 ^ (zs.getD k 0).toNat)) := by
  unfold bitsOf
  rw [List.take_succ_eq_append_getElem h, List.foldl_append]
  simp [List.getD, h]

def pick4 (a b c d : Bool) : List Int := (if a then [0] else []) ++ (if b then [1] else []) ++ (if c then [2] else []) ++ (if d then [3] else [])
theorem boxesTo_pick (f : Q4 → Int → Bool) (xs : List Q4) : boxesTo f xs 4 = pick4 (xs.any fun p => f p 0) (xs.any fun p => f p 1) (xs.any fun p => f p 2) (xs.any fun p => f p 3) := by
  simp [boxesTo, pick4]
/-- Whether a box is among both. -/
def meet4 (a b c d a' b' c' d' : Bool) : Bool := (a && a') || (b && b') || (c && c') || (d && d')
theorem meet_pick : ∀ a b c d a' b' c' d' : Bool, meetI (pick4 a b c d) (pick4 a' b' c' d') = meet4 a b c d a' b' c' d' := by decide +kernel
theorem bits_pick : ∀ a b c d a' b' c' d' : Bool, bits .or .u64 (bitsOf (pick4 a b c d)) (bitsOf (pick4 a' b' c' d')) = bitsOf (pick4 (a || a') (b || b') (c || c') (d || d')) := by decide +kernel
theorem and_pick : ∀ a b c d a' b' c' d' : Bool, (bits .and .u64 (bitsOf (pick4 a b c d)) (bitsOf (pick4 a' b' c' d')) != 0) = meet4 a b c d a' b' c' d' := by decide +kernel
theorem meet4_or (a b c d a' b' c' d' x y z u : Bool) : meet4 a b c d (a' || x) (b' || y) (c' || z) (d' || u) = (meet4 a b c d a' b' c' d' || meet4 a b c d x y z u) := by
  cases a <;> cases b <;> cases c <;> cases d <;> simp [meet4] <;> cases a' <;> cases b' <;> cases c' <;> cases d' <;> simp
/-- Of three lists of boxes. -/
theorem bits_meet (f g h : Q4 → Int → Bool) (xs ys zs : List Q4) : (bits .and .u64 (bitsOf (boxesTo f xs 4)) (bits .or .u64 (bitsOf (boxesTo g ys 4)) (bitsOf (boxesTo h zs 4))) != 0) = (meetI (boxesTo f xs 4) (boxesTo g ys 4) || meetI (boxesTo f xs 4) (boxesTo h zs 4)) := by
  rw [boxesTo_pick f xs, boxesTo_pick g ys, boxesTo_pick h zs, bits_pick, and_pick, meet_pick, meet_pick, meet4_or]

theorem boxesTo_mem {f : Q4 → Int → Bool} {xs : List Q4} {k i : Nat} (h : i < (boxesTo f xs k).length) : 0 ≤ (boxesTo f xs k).getD i 0 ∧ (boxesTo f xs k).getD i 0 < k := by
  have : ∀ z, z ∈ boxesTo f xs k → 0 ≤ z ∧ z < k := by
    clear h
    induction k with
    | zero => simp [boxesTo]
    | succ k ih =>
      intro z hz
      simp only [boxesTo, List.mem_append] at hz
      rcases hz with hz | hz
      · have := ih z hz; omega
      · split at hz <;> simp at hz; omega
  exact this _ (by simp [List.getD, h])

set_option maxHeartbeats 1000000 in
theorem setOfC (a : Option Addr) (c : Nat) (zs : List Int) (w : World) (h : SlI w a zs) (hz : ∀ i, i < zs.length → 0 ≤ zs.getD i 0 ∧ zs.getD i 0 < 4) (hl : zs.length ≤ 4) :
    Calls Try.prog 125 #[.slice a zs.length c] w fun e w' => e = .returned (.int .u64 (bitsOf zs)) ∧ w' = w := by
  have H1 : Hid (SlI w a zs) := h
  have HZ : Hid (∀ i, i < zs.length → 0 ≤ zs.getD i 0 ∧ zs.getD i 0 < 4) := hz
  clear h hz
  go_enter Try.func125, Try.ntmps125
  go_wp2
  go_loop [3, 8] (fun s i => ∃ k : Nat, k ≤ zs.length ∧ i = .int .i64 k ∧ s = .int .u64 (bitsOf (zs.take k))) (fun _ i => zs.length - (intOf i).toNat)
  case atStart => exact ⟨0, Nat.zero_le _, rfl, rfl⟩
  case round =>
    obtain ⟨k, hk, rfl, rfl⟩ := hrel
    by_cases hlt : k < zs.length
    · rcases H1.out with h | ⟨b1, o1, rfl, h1⟩
      · subst h; simp at hlt
      have ca := h1.2 k hlt
      obtain ⟨z0, z1⟩ := HZ.out k hlt
      have HS : Hid (bitsOf (zs.take (k + 1)) = _) := bitsOf_succ zs k hlt
      generalize zs.getD k 0 = z at ca z0 z1 HS
      clear h1
      have z64 : z ≤ 64 := by omega
      have hz0 : ¬ z < 0 := by omega
      go_wp2
      go_round
      case rel => exact ⟨k + 1, by omega, by go_num, by rw [HS.out]⟩
      case measure => simp [intOf]; omega
    · go_wp2
      go_ret
      have : k = zs.length := by omega
      subst this
      rw [List.take_length]
      exact ⟨rfl, rfl⟩

theorem meetsC (x y : Int) (w : World) : Calls Try.prog 127 #[.int .u64 x, .int .u64 y] w fun e w' => e = .returned (.bool (bits .and .u64 x y != 0)) ∧ w' = w := by
  go_enter Try.func127, Try.ntmps127
  go_wp2
  go_ret
  exact ⟨rfl, rfl⟩

theorem setOfV (v : Value) (B : Nat) (f : Q4 → Int → Bool) (xs : List Q4) (w : World) (h : OwnI w B v (boxesTo f xs 4)) :
    Calls Try.prog 125 #[v] w fun e w' => e = .returned (.int .u64 (bitsOf (boxesTo f xs 4))) ∧ w' = w := by
  obtain ⟨a, c, rfl, hs, _⟩ := h.open
  exact setOfC a c _ w hs (fun i hi => boxesTo_mem hi) (boxesTo_len f xs 4)

set_option maxHeartbeats 1000000 in
theorem turnsC (a1 a2 : Option Addr) (c1 c2 : Nat) (xs ys : List Q4) (w : World) (h1 : Sl4 w a1 xs) (h2 : Sl4 w a2 ys) (n1 : xs.length ≤ 2 ^ 40) (n2 : ys.length ≤ 2 ^ 40) :
    Calls Try.prog 87 #[.slice a1 xs.length c1, .slice a2 ys.length c2] w fun e w' => e = .returned (.bool (meetI (boxesTo putsQ xs 4) (boxesTo putsQ ys 4) || meetI (boxesTo putsQ xs 4) (boxesTo loadsQ ys 4))) ∧ Below w.heap.size w w' := by
  have H1 : Hid (Sl4 w a1 xs) := h1
  have H2 : Hid (Sl4 w a2 ys) := h2
  clear h1 h2
  go_enter Try.func87, Try.ntmps87
  go_wp2_with fail
  refine (implProgPuts a1 c1 xs n1 w H1.out).mono ?_
  rintro e w1 ⟨⟨v1, rfl, o1⟩, b1⟩
  have O1 : Hid (OwnI w1 w.heap.size v1 (boxesTo putsQ xs 4)) := o1
  have B1 : Hid (Below w.heap.size w w1) := b1
  clear o1 b1
  go_wp2_with fail
  refine (setOfV v1 _ putsQ xs w1 O1.out).mono ?_
  rintro e w1' ⟨rfl, hw⟩
  subst hw
  go_wp2_with fail
  refine (implProgPuts a2 c2 ys n2 w1' (H2.out.below B1.out)).mono ?_
  rintro e w2 ⟨⟨v2, rfl, o2⟩, b2⟩
  have O2 : Hid (OwnI w2 w1'.heap.size v2 (boxesTo putsQ ys 4)) := o2
  have B2 : Hid (Below w.heap.size w w2) := B1.out.trans (b2.mono B1.out.size)
  clear o2 b2
  go_wp2_with fail
  refine (setOfV v2 _ putsQ ys w2 O2.out).mono ?_
  rintro e w2' ⟨rfl, hw⟩
  subst hw
  go_wp2_with fail
  refine (implProgLoads a2 c2 ys n2 w2' (H2.out.below B2.out)).mono ?_
  rintro e w3 ⟨⟨v3, rfl, o3⟩, b3⟩
  have O3 : Hid (OwnI w3 w2'.heap.size v3 (boxesTo loadsQ ys 4)) := o3
  have B3 : Hid (Below w.heap.size w w3) := B2.out.trans (b3.mono B2.out.size)
  clear o3 b3
  go_wp2_with fail
  refine (setOfV v3 _ loadsQ ys w3 O3.out).mono ?_
  rintro e w3' ⟨rfl, hw⟩
  subst hw
  have EB : Hid (_ = (meetI (boxesTo putsQ xs 4) (boxesTo putsQ ys 4) || meetI (boxesTo putsQ xs 4) (boxesTo loadsQ ys 4))) := bits_meet putsQ putsQ loadsQ xs ys ys
  generalize bitsOf (boxesTo putsQ xs 4) = x at EB ⊢
  generalize bitsOf (boxesTo putsQ ys 4) = y at EB ⊢
  generalize bitsOf (boxesTo loadsQ ys 4) = z at EB ⊢
  go_wp2_with fail
  refine (meetsC _ _ w3').mono ?_
  rintro e w4 ⟨rfl, hw⟩
  subst hw
  rw [EB.out]
  go_wp2_with fail
  go_ret
  exact ⟨rfl, B3.out⟩

theorem serialFree_alt (xs ys : List Q4) : serialFree xs ys = (progOk xs && progOk ys && !(meetI (boxesTo putsQ xs 4) (boxesTo putsQ ys 4) || meetI (boxesTo putsQ xs 4) (boxesTo loadsQ ys 4)) && !(meetI (boxesTo putsQ ys 4) (boxesTo putsQ xs 4) || meetI (boxesTo putsQ ys 4) (boxesTo loadsQ xs 4))) := by
  unfold serialFree
  rw [meetI_comm (boxesTo loadsQ xs 4) (boxesTo putsQ ys 4), meetI_comm (boxesTo putsQ ys 4) (boxesTo putsQ xs 4)]
  cases progOk xs <;> cases progOk ys <;> cases meetI (boxesTo putsQ xs 4) (boxesTo putsQ ys 4) <;> cases meetI (boxesTo putsQ xs 4) (boxesTo loadsQ ys 4) <;> cases meetI (boxesTo putsQ ys 4) (boxesTo loadsQ xs 4) <;> rfl

set_option maxHeartbeats 1000000 in
theorem implSerialFree (a1 a2 : Option Addr) (c1 c2 : Nat) (xs ys : List Q4) (w : World) (h1 : Sl4 w a1 xs) (h2 : Sl4 w a2 ys) (n1 : xs.length ≤ 2 ^ 40) (n2 : ys.length ≤ 2 ^ 40) :
    Calls Try.prog 30 #[.slice a1 xs.length c1, .slice a2 ys.length c2] w fun e w' => e = .returned (.bool (serialFree xs ys)) ∧ Below w.heap.size w w' := by
  have H1 : Hid (Sl4 w a1 xs) := h1
  have H2 : Hid (Sl4 w a2 ys) := h2
  clear h1 h2
  rw [serialFree_alt]
  have TA : Hid (∀ W, Below w.heap.size w W → Calls Try.prog 87 #[.slice a1 xs.length c1, .slice a2 ys.length c2] W fun e w' => e = .returned (.bool (meetI (boxesTo putsQ xs 4) (boxesTo putsQ ys 4) || meetI (boxesTo putsQ xs 4) (boxesTo loadsQ ys 4))) ∧ Below W.heap.size W w') := fun W hb => turnsC a1 a2 c1 c2 xs ys W (H1.out.below hb) (H2.out.below hb) n1 n2
  have TB : Hid (∀ W, Below w.heap.size w W → Calls Try.prog 87 #[.slice a2 ys.length c2, .slice a1 xs.length c1] W fun e w' => e = .returned (.bool (meetI (boxesTo putsQ ys 4) (boxesTo putsQ xs 4) || meetI (boxesTo putsQ ys 4) (boxesTo loadsQ xs 4))) ∧ Below W.heap.size W w') := fun W hb => turnsC a2 a1 c2 c1 ys xs W (H2.out.below hb) (H1.out.below hb) n2 n1
  generalize (meetI (boxesTo putsQ xs 4) (boxesTo putsQ ys 4) || meetI (boxesTo putsQ xs 4) (boxesTo loadsQ ys 4)) = ta at TA ⊢
  generalize (meetI (boxesTo putsQ ys 4) (boxesTo putsQ xs 4) || meetI (boxesTo putsQ ys 4) (boxesTo loadsQ xs 4)) = tb at TB ⊢
  go_enter Try.func30, Try.ntmps30
  go_wp2_with fail
  refine (implProgOk a1 c1 xs w H1.out n1).mono ?_
  rintro e w1 ⟨rfl, b1⟩
  have B1 : Hid (Below w.heap.size w w1) := b1
  clear b1
  cases hx : progOk xs with
  | false =>
    go_wp2_with fail
    go_ret
    exact ⟨ret_bool (by rw [hx]; rfl), B1.out⟩
  | true =>
  go_wp2_with fail
  refine (implProgOk a2 c2 ys w1 (H2.out.below B1.out) n2).mono ?_
  rintro e w2 ⟨rfl, b2⟩
  have B2 : Hid (Below w.heap.size w w2) := B1.out.trans (b2.mono B1.out.size)
  clear b2
  cases hy : progOk ys with
  | false =>
    go_wp2_with fail
    go_ret
    exact ⟨ret_bool (by rw [hx, hy]; rfl), B2.out⟩
  | true =>
  go_wp2_with fail
  refine (TA.out w2 B2.out).mono ?_
  rintro e w3 ⟨rfl, b3⟩
  have B3 : Hid (Below w.heap.size w w3) := B2.out.trans (b3.mono B2.out.size)
  clear b3
  cases ta with
  | true =>
    go_wp2_with fail
    go_ret
    exact ⟨ret_bool (by rw [hx, hy]; rfl), B3.out⟩
  | false =>
  go_wp2_with fail
  refine (TB.out w3 B3.out).mono ?_
  rintro e w4 ⟨rfl, b4⟩
  have B4 : Hid (Below w.heap.size w w4) := B3.out.trans (b4.mono B3.out.size)
  clear b4
  cases tb with
  | true =>
    go_wp2_with fail
    go_ret
    exact ⟨ret_bool (by rw [hx, hy]; rfl), B4.out⟩
  | false =>
    go_wp2_with fail
    go_ret
    exact ⟨ret_bool (by rw [hx, hy]; rfl), B4.out⟩
end Go.Proofs.Ytgcencilgpilaaa.Own
