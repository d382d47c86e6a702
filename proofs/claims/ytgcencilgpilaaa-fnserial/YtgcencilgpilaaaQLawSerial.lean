/-
  Own text: laws.FnSerial.
-/
import Derived.Test.YtgcencilgpilaaaQDrawSA
import Derived.Test.YtgcencilgpilaaaQDrawSF
import Derived.Test.YtgcencilgpilaaaQSerAllS
import Derived.Test.YtgcencilgpilaaaQFreeI
import Derived.Test.YtgcencilgpilaaaQFreeS
import Derived.Test.YtgcencilgpilaaaPk8
import Derived.BigQuiet
import Derived.Lib.QuietBelow
import Derived.Deep.Cut
namespace Go.Proofs.Ytgcencilgpilaaa.Own
open Go.RowKit Go.Sort
set_option linter.unusedVariables false
set_option linter.unusedSimpArgs false

theorem Bytes.belowF {w w' : World} {a : Option Addr} {n : Nat} (h : Bytes w w.heap.size a n) (hb : Below w.heap.size w w') : Bytes w' w'.heap.size a n := by
  rcases h with h | ⟨b, off, rfl, hlt, hz⟩
  · exact .inl h
  · exact .inr ⟨b, off, rfl, Nat.lt_of_lt_of_le hlt hb.size, fun i hi => by rw [hb.cell (p := ⟨b, off + i, none⟩) hlt]; exact hz i hi⟩
theorem SAPost.open {R : List P2 × List Int} {B : Nat} {e : Ending} {w' : World} (h : SAPost R B e w') : ∃ ad cap av cv, e = .returned (.tuple #[.slice ad R.1.length cap, .slice av R.2.length cv]) ∧ R.1.length ≤ cap ∧ Sl w' ad R.1 ∧ SlI w' av R.2 := by
  obtain ⟨ad, cap, vv, rfl, h1, h2, h3, _⟩ := h
  obtain ⟨av, cv, rfl, s, _⟩ := h3.open
  exact ⟨ad, cap, av, cv, rfl, h1, h2.sl, s⟩
theorem allGo (la pa : Option Addr) (lc pc : Nat) (bs : List P2) (ps : List PS) (W : World) (hb : Sl W la bs) (hp : SlP W pa ps) (hlc : 4 ≤ lc) (hlen : ps.length ≤ 2 ^ 40) (h1 : boxOk bs = true) (h2 : allProgs ps = true) :
    Calls Try.prog 27 #[.slice la 4 lc, .slice pa ps.length pc] W fun e w' => ∃ ad cap av cv, e = .returned (.tuple #[.slice ad 4 cap, .slice av ps.length cv]) ∧ Hid (4 ≤ cap ∧ Sl w' ad (runAll bs (progsOf ps)).1 ∧ SlI w' av (runAll bs (progsOf ps)).2 ∧ Below W.heap.size W w') := by
  have h4 := boxOk_len h1
  have h := implSerialAll la pa lc pc bs ps W hb hp (by omega) hlen
  rw [h4, serialAll_yes h1 h2] at h
  refine h.mono ?_
  rintro e w' ⟨hs, hbl⟩
  obtain ⟨ad, cap, av, cv, rfl, e1, e2, e3⟩ := hs.open
  have l1 := boxOk_len (runAll_ok (progsOf ps) h1)
  have l2 := runAll_len bs (progsOf ps)
  rw [show (progsOf ps).length = ps.length by simp [progsOf]] at l2
  rw [l1] at e1 ⊢
  rw [l2]
  exact ⟨ad, cap, av, cv, rfl, e1, e2, e3, hbl⟩
theorem allGoS (la pa : Option Addr) (lc pc : Nat) (bs : List P2) (ps : List PS) (W : World) (hb : Sl W la bs) (hp : SlP W pa ps) (hlen : ps.length ≤ 2 ^ 40) (h1 : boxOk bs = true) (h2 : allProgs ps = true) :
    Calls Try.prog 28 #[.slice la 4 lc, .slice pa ps.length pc] W fun e w' => ∃ ad cap av cv, e = .returned (.tuple #[.slice ad 4 cap, .slice av ps.length cv]) ∧ Hid (4 ≤ cap ∧ Sl w' ad (runAll bs (progsOf ps)).1 ∧ SlI w' av (runAll bs (progsOf ps)).2 ∧ Below W.heap.size W w') := by
  have h4 := boxOk_len h1
  have h := specSerialAll la pa lc pc bs ps W hb hp (by omega) hlen
  rw [h4, serialAll_yes h1 h2] at h
  refine h.mono ?_
  rintro e w' ⟨hs, hbl⟩
  obtain ⟨ad, cap, av, cv, rfl, e1, e2, e3⟩ := hs.open
  have l1 := boxOk_len (runAll_ok (progsOf ps) h1)
  have l2 := runAll_len bs (progsOf ps)
  rw [show (progsOf ps).length = ps.length by simp [progsOf]] at l2
  rw [l1] at e1 ⊢
  rw [l2]
  exact ⟨ad, cap, av, cv, rfl, e1, e2, e3, hbl⟩
theorem sameGo (a1 a2 : Option Addr) (c1 c2 : Nat) (xs : List P2) (w : World) (h1 : Sl w a1 xs) (h2 : Sl w a2 xs) (l : xs.length = 4) (k1 : 4 ≤ c1) (k2 : 4 ≤ c2) :
    Calls Try.prog 14 #[.slice a1 4 c1, .slice a2 4 c2] w fun e w' => e = .returned (.bool true) ∧ Below w.heap.size w w' := by
  have h := implSame a1 a2 c1 c2 xs xs w h1 h2 (by omega) (by omega) (by omega)
  rw [l, show (xs == xs) = true by simp] at h
  exact h
theorem SlI.keep {w w' : World} {a : Option Addr} {xs : List Int} (h : SlI w a xs) (hb : Below w.heap.size w w') : SlI w' a xs := by
  rcases h with h | ⟨b, off, rfl, h⟩
  · exact .inl h
  · exact .inr ⟨b, off, rfl, h.below hb⟩
theorem SlP.take {w : World} {gp : Nat} {ps : List PS} (h : SlP w (some ⟨gp, 0, none⟩) ps) (k : Nat) : SlP w (some ⟨gp, 0, none⟩) (ps.take k) := by
  rcases h with h | ⟨b, off, e, h1, h⟩
  · exact .inl (by rw [h]; simp)
  · refine .inr ⟨b, off, e, h1, fun i hi => ?_⟩
    simp only [List.length_take] at hi
    have := h i (by omega)
    rw [show (ps.take k).getD i p0 = ps.getD i p0 by simp [List.getD, List.getElem?_take_of_lt (by omega : i < k)]]
    exact this
theorem SlP.drop {w : World} {gp : Nat} {ps : List PS} (h : SlP w (some ⟨gp, 0, none⟩) ps) (k : Nat) : SlP w (some ⟨gp, k, none⟩) (ps.drop k) := by
  rcases h with h | ⟨b, off, e, h1, h⟩
  · exact .inl (by rw [h]; simp)
  · injection e with e
    injection e with e1 e2
    subst e1 e2
    refine .inr ⟨gp, k, rfl, h1, fun i hi => ?_⟩
    simp only [List.length_drop] at hi
    have := h (k + i) (by omega)
    rw [show (ps.drop k).getD i p0 = ps.getD (k + i) p0 by simp [List.getD, List.getElem?_drop]]
    rw [Nat.zero_add] at this
    exact this
theorem progsOf_take (ps : List PS) (k : Nat) : progsOf (ps.take k) = (progsOf ps).take k := by simp [progsOf]
theorem progsOf_drop (ps : List PS) (k : Nat) : progsOf (ps.drop k) = (progsOf ps).drop k := by simp [progsOf]
theorem allProgs_part {ps qs : List PS} (h : allProgs ps = true) (hs : ∀ q, q ∈ qs → q ∈ ps) (hl : qs.length ≤ ps.length) : allProgs qs = true := by
  unfold allProgs at h ⊢
  simp only [Bool.and_eq_true, decide_eq_true_eq, List.all_eq_true] at h ⊢
  refine ⟨by omega, ?_⟩
  intro x hx
  unfold progsOf at hx
  obtain ⟨q, hq, rfl⟩ := List.mem_map.1 hx
  exact h.2 _ (by unfold progsOf; exact List.mem_map.2 ⟨q, hs q hq, rfl⟩)
theorem two_slP {w : World} {g1 g2 c1 c2 : Nat} {xs ys : List Q4} (h1 : At4 w g1 0 xs) (h2 : At4 w g2 0 ys) (l1 : xs.length ≤ 11) (l2 : ys.length ≤ 11) :
    SlP (w.alloc (.cells #[.slice (some ⟨g1, 0, none⟩) xs.length c1, .slice (some ⟨g2, 0, none⟩) ys.length c2] 51)) (some ⟨w.heap.size, 0, none⟩) [(some ⟨g1, 0, none⟩, c1, xs), (some ⟨g2, 0, none⟩, c2, ys)] := by
  refine .inr ⟨w.heap.size, 0, rfl, by rw [size_new]; omega, fun i hi => ?_⟩
  have hb := below_new w (.cells #[.slice (some ⟨g1, 0, none⟩) xs.length c1, .slice (some ⟨g2, 0, none⟩) ys.length c2] 51)
  rcases (by simp at hi; omega : i = 0 ∨ i = 1) with rfl | rfl
  · exact ⟨by rw [cell_heap (heap_new _ _)]; rfl, .inr ⟨g1, 0, rfl, h1.below hb⟩, by show xs.length ≤ _; omega⟩
  · exact ⟨by rw [cell_heap (heap_new _ _)]; rfl, .inr ⟨g2, 0, rfl, h2.below hb⟩, by show ys.length ≤ _; omega⟩

set_option maxRecDepth 100000 in
set_option maxHeartbeats 8000000 in
theorem lawSerial (a : Option Addr) (n c : Nat) (a' : Option Addr) (n' c' : Nat) (w : World) (h : Bytes w w.heap.size a n) (hc : n ≤ c) (hm : c ≤ maxLen) (h' : Bytes w w.heap.size a' n') (hc' : n' ≤ c') (hm' : c' ≤ maxLen) :
    Calls Try.prog 5 #[.slice a n c, .slice a' n' c'] w fun e w' => e = .returned (.bool true) ∧ Below w.heap.size w w' := by
  have HB : Hid (Bytes w w.heap.size a n) := h
  have HM : Hid (c ≤ maxLen) := hm
  have HB' : Hid (Bytes w w.heap.size a' n') := h'
  have HM' : Hid (c' ≤ maxLen) := hm'
  clear h h'
  unfold maxLen at hm hm'
  by_cases hn : n ≤ 1048576
  · have hd : decide ((1048576 : Int) < (n : Int)) = false := by simp; omega
    by_cases hn2 : n' ≤ 1048576
    · have hd2 : decide ((1048576 : Int) < (n' : Int)) = false := by simp; omega
      go_enter Try.func5, Try.ntmps5
      go_wp2_with fail
      refine (drawSerialAll a n c w HB.out hc HM.out).mono ?_
      rintro e w1 ⟨gb, bs, gp, pcap, ps, rfl, ⟨lb, lp, lc⟩, hat, hsp, hb1⟩
      have B1 : Hid (Below w.heap.size w w1) := hb1
      have A1 : Hid (BoxAt w1 gb 0 bs) := hat
      have P1 : Hid (SlP w1 (some ⟨gp, 0, none⟩) ps) := hsp
      clear hb1 hat hsp
      cases hok : (boxOk bs && allProgs ps) with
      | false =>
        have E : serialAll bs (progsOf ps) = ([], []) := serialAll_no hok
        have IA : Hid (∀ W, Below w1.heap.size w1 W → Calls Try.prog 27 #[.slice (some ⟨gb, 0, none⟩) bs.length 4, .slice (some ⟨gp, 0, none⟩) ps.length pcap] W fun e w' => ∃ ad cap av cv, e = .returned (.tuple #[.slice ad 0 cap, .slice av 0 cv]) ∧ Below W.heap.size W w') := fun W hb => by
          have h := implSerialAll (some ⟨gb, 0, none⟩) (some ⟨gp, 0, none⟩) 4 pcap bs ps W (.inr ⟨gb, 0, rfl, A1.out.below hb⟩) (P1.out.below hb) lb (by omega)
          rw [E] at h
          refine h.mono ?_
          rintro e w' ⟨hs, hbl⟩
          obtain ⟨ad, cap, av, cv, rfl, _⟩ := hs.open
          exact ⟨ad, cap, av, cv, rfl, hbl⟩
        have SA : Hid (∀ W, Below w1.heap.size w1 W → Calls Try.prog 28 #[.slice (some ⟨gb, 0, none⟩) bs.length 4, .slice (some ⟨gp, 0, none⟩) ps.length pcap] W fun e w' => ∃ ad cap av cv, e = .returned (.tuple #[.slice ad 0 cap, .slice av 0 cv]) ∧ Below W.heap.size W w') := fun W hb => by
          have h := specSerialAll (some ⟨gb, 0, none⟩) (some ⟨gp, 0, none⟩) 4 pcap bs ps W (.inr ⟨gb, 0, rfl, A1.out.below hb⟩) (P1.out.below hb) (by omega) (by omega)
          rw [E] at h
          refine h.mono ?_
          rintro e w' ⟨hs, hbl⟩
          obtain ⟨ad, cap, av, cv, rfl, _⟩ := hs.open
          exact ⟨ad, cap, av, cv, rfl, hbl⟩
        clear E hok
        go_wp2_with fail
        refine Calls.mono (IA.out w1 (Below.refl _ _)) ?_
        rintro e w2 ⟨ad, cap, av, cv, rfl, b2⟩
        have K2 : Hid (Below w1.heap.size w1 w2) := b2
        clear b2
        go_wp2_with fail
        refine Calls.mono (SA.out w2 K2.out) ?_
        rintro e w3 ⟨ad', cap', av', cv', rfl, b3⟩
        have K3 : Hid (Below w1.heap.size w1 w3) := K2.out.trans (b3.mono K2.out.size)
        clear b3
        go_wp2_with fail
        have SM := implSame ad ad' cap cap' [] [] w3 (.inl rfl) (.inl rfl) (Nat.zero_le _) (Nat.zero_le _) (by simp)
        rw [show (([] : List P2) == []) = true by rfl] at SM
        refine Calls.mono SM ?_
        rintro e w4 ⟨rfl, b4⟩
        have B4 : Hid (Below w.heap.size w w4) := B1.out.trans ((K3.out.trans (b4.mono K3.out.size)).mono B1.out.size)
        clear b4 SM
        go_wp2_with fail
        go_loopw [11] (fun i wr => i = .int .i64 0 ∧ Hid (Below w.heap.size w wr)) (fun _ _ => 0)
        case atStart => exact ⟨rfl, B4⟩
        case round =>
          obtain ⟨rfl, BR⟩ := hrel
          go_wp2_with fail
          go_ret
          exact ⟨rfl, BR.out⟩
      | true =>
        simp only [Bool.and_eq_true] at hok
        have HBO : Hid (boxOk bs = true) := hok.1
        have HAP : Hid (allProgs ps = true) := hok.2
        have L4 : bs.length = 4 := boxOk_len hok.1
        rw [L4]
        have HL4 : Hid (bs.length = 4) := L4
        clear hok L4
        obtain ⟨kk, hkk, lk⟩ : ∃ k : Nat, (n' : Int) % ((ps.length : Int) + 1) = (k : Int) ∧ k ≤ ps.length := ⟨n' % (ps.length + 1), rfl, by have := Nat.mod_lt n' (show 0 < ps.length + 1 by omega); omega⟩
        -- the numbers and boxes that come out
        obtain ⟨X, hX⟩ : ∃ X, X = (runAll bs (progsOf ps)).1 := ⟨_, rfl⟩
        obtain ⟨V, hV⟩ : ∃ V, V = (runAll bs (progsOf ps)).2 := ⟨_, rfl⟩
        obtain ⟨U, hU⟩ : ∃ U, U = (runAll bs (progsOf (ps.take kk))).1 := ⟨_, rfl⟩
        have XO : Hid (boxOk X = true) := by show _ = _; rw [hX]; exact runAll_ok _ HBO.out
        have UO : Hid (boxOk U = true) := by show _ = _; rw [hU]; exact runAll_ok _ HBO.out
        have UX : Hid ((runAll U (progsOf (ps.drop kk))).1 = X) := by
          show _ = _
          have e := runAll_append bs ((progsOf ps).take kk) ((progsOf ps).drop kk)
          rw [List.take_append_drop] at e
          rw [hX, hU, progsOf_take, progsOf_drop, e]
        have VL : Hid (V.length = ps.length) := by show _ = _; rw [hV, runAll_len]; simp [progsOf]
        have AT : Hid (allProgs (ps.take kk) = true) := allProgs_part HAP.out (fun q hq => List.mem_of_mem_take hq) (by simp; omega)
        have AD : Hid (allProgs (ps.drop kk) = true) := allProgs_part HAP.out (fun q hq => List.mem_of_mem_drop hq) (by simp)
        have IA : Hid (∀ W, Below w1.heap.size w1 W → Calls Try.prog 27 #[.slice (some ⟨gb, 0, none⟩) 4 4, .slice (some ⟨gp, 0, none⟩) ps.length pcap] W fun e w' => ∃ ad cap av cv, e = .returned (.tuple #[.slice ad 4 cap, .slice av ps.length cv]) ∧ Hid (4 ≤ cap ∧ Sl w' ad X ∧ SlI w' av V ∧ Below W.heap.size W w')) := fun W hb => by
          rw [hX, hV]; exact allGo _ _ 4 pcap bs ps W (.inr ⟨gb, 0, rfl, A1.out.below hb⟩) (P1.out.below hb) (by omega) (by omega) HBO.out HAP.out
        have SA : Hid (∀ W, Below w1.heap.size w1 W → Calls Try.prog 28 #[.slice (some ⟨gb, 0, none⟩) 4 4, .slice (some ⟨gp, 0, none⟩) ps.length pcap] W fun e w' => ∃ ad cap av cv, e = .returned (.tuple #[.slice ad 4 cap, .slice av ps.length cv]) ∧ Hid (4 ≤ cap ∧ Sl w' ad X ∧ SlI w' av V ∧ Below W.heap.size W w')) := fun W hb => by
          rw [hX, hV]; exact allGoS _ _ 4 pcap bs ps W (.inr ⟨gb, 0, rfl, A1.out.below hb⟩) (P1.out.below hb) (by omega) HBO.out HAP.out
        have IT : Hid (∀ W, Below w1.heap.size w1 W → Calls Try.prog 27 #[.slice (some ⟨gb, 0, none⟩) 4 4, .slice (some ⟨gp, 0, none⟩) kk pcap] W fun e w' => ∃ ad cap av cv, e = .returned (.tuple #[.slice ad 4 cap, .slice av kk cv]) ∧ Hid (4 ≤ cap ∧ Sl w' ad U ∧ Below W.heap.size W w')) := fun W hb => by
          have h := allGo (some ⟨gb, 0, none⟩) (some ⟨gp, 0, none⟩) 4 pcap bs (ps.take kk) W (.inr ⟨gb, 0, rfl, A1.out.below hb⟩) ((P1.out.below hb).take kk) (by omega) (by simp; omega) HBO.out AT.out
          rw [show (ps.take kk).length = kk by simp; omega] at h
          rw [hU]
          exact h.mono (fun e w' ⟨ad, cap, av, cv, h1, h2, h3, h4, h5⟩ => ⟨ad, cap, av, cv, h1, h2, h3, h5⟩)
        have ID : Hid (∀ (ad pa : Option Addr) (cap pc : Nat) W, Below w1.heap.size w1 W → Sl W ad U → 4 ≤ cap → SlP W pa (ps.drop kk) → Calls Try.prog 27 #[.slice ad 4 cap, .slice pa (ps.length - kk) pc] W fun e w' => ∃ ad cap av cv, e = .returned (.tuple #[.slice ad 4 cap, .slice av (ps.length - kk) cv]) ∧ Hid (4 ≤ cap ∧ Sl w' ad X ∧ Below W.heap.size W w')) := fun ad pa cap pc W hb hs hcap hp => by
          have h := allGo ad pa cap pc U (ps.drop kk) W hs hp hcap (by simp; omega) UO.out AD.out
          rw [show (ps.drop kk).length = ps.length - kk by simp, UX.out] at h
          exact h.mono (fun e w' ⟨ad, cap, av, cv, h1, h2, h3, h4, h5⟩ => ⟨ad, cap, av, cv, h1, h2, h3, h5⟩)
        have BS : Hid (∀ (a1 a2 : Option Addr) (c1 c2 : Nat) W, Sl W a1 X → Sl W a2 X → 4 ≤ c1 → 4 ≤ c2 → Calls Try.prog 14 #[.slice a1 4 c1, .slice a2 4 c2] W fun e w' => e = .returned (.bool true) ∧ Below W.heap.size W w') := fun a1 a2 c1 c2 W h1 h2 k1 k2 => sameGo a1 a2 c1 c2 X W h1 h2 (boxOk_len XO.out) k1 k2
        clear hX hV hU
        go_wp2_with fail
        refine Calls.mono (IA.out w1 (Below.refl _ _)) ?_
        rintro e w2 ⟨ad, cap, av, cv, rfl, F2⟩
        have K2 : Hid (Below w1.heap.size w1 w2) := F2.out.2.2.2
        go_wp2_with fail
        refine Calls.mono (SA.out w2 K2.out) ?_
        rintro e w3 ⟨ad', cap', av', cv', rfl, F3⟩
        have b3 := F3.out.2.2.2
        have K3 : Hid (Below w1.heap.size w1 w3) := K2.out.trans (b3.mono K2.out.size)
        have X3 : Hid (4 ≤ cap ∧ Sl w3 ad X ∧ SlI w3 av V) := ⟨F2.out.1, F2.out.2.1.below b3, F2.out.2.2.1.keep b3⟩
        clear b3
        go_wp2_with fail
        refine Calls.mono (BS.out ad ad' cap cap' w3 X3.out.2.1 F3.out.2.1 X3.out.1 F3.out.1) ?_
        rintro e w4 ⟨rfl, b4⟩
        have K4 : Hid (Below w1.heap.size w1 w4) := K3.out.trans (b4.mono K3.out.size)
        have X4 : Hid (4 ≤ cap ∧ Sl w4 ad X ∧ SlI w4 av V ∧ SlI w4 av' V) := ⟨X3.out.1, X3.out.2.1.below b4, X3.out.2.2.keep b4, F3.out.2.2.1.keep b4⟩
        clear b4 F2 F3 X3
        go_wp2_with fail
        go_loopw [11] (fun i wr => ∃ q : Nat, q ≤ ps.length ∧ i = .int .i64 q ∧ Hid (Below w4.heap.size w4 wr)) (fun i _ => ps.length - (intOf i).toNat)
        case atStart => exact ⟨0, Nat.zero_le _, rfl, Below.refl _ _⟩
        case round =>
          obtain ⟨q, hq, rfl, KR⟩ := hrel
          by_cases hlt : q < ps.length
          · have hqi : (q : Int) < (ps.length : Int) := by omega
            have ne : V ≠ [] := fun e => by have := VL.out; rw [e] at this; simp at this; omega
            rcases X4.out.2.2.1.keep KR.out with hh | ⟨b1, o1, rfl, i1⟩
            · exact absurd hh ne
            rcases X4.out.2.2.2.keep KR.out with hh | ⟨b2, o2, rfl, i2⟩
            · exact absurd hh ne
            have c1 := i1.2 q (by rw [VL.out]; exact hlt)
            have c2 := i2.2 q (by rw [VL.out]; exact hlt)
            clear i1 i2 ne
            generalize V.getD q 0 = z at c1 c2
            have zz : (z != z) = false := by simp
            go_wp2_with fail
            go_quiet (fail)
            go_wp2_with fail
            go_roundw
            case rel => exact ⟨q + 1, by omega, by go_num, below_drewN KR.out _⟩
            case measure => simp [intOf]; omega
          · have hqi : ¬ (q : Int) < (ps.length : Int) := by omega
            have K5 : Hid (Below w1.heap.size w1 wr) := K4.out.trans (KR.out.mono K4.out.size)
            have X5 : Hid (4 ≤ cap ∧ Sl wr ad X) := ⟨X4.out.1, X4.out.2.1.below KR.out⟩
            have lkc : kk ≤ pcap := by omega
            clear K4 X4 KR
            go_upto_region 16 with fail
            rw [hkk]
            have HKK : Hid ((n' : Int) % ((ps.length : Int) + 1) = (kk : Int)) := hkk
            clear hkk
            go_wp2_with fail
            refine Calls.mono (IT.out wr K5.out) ?_
            rintro e w6 ⟨ud, ucap, fv, fc, rfl, F6⟩
            have b6 := F6.out.2.2
            have K6 : Hid (Below w1.heap.size w1 w6) := K5.out.trans (b6.mono K5.out.size)
            have X6 : Hid (4 ≤ cap ∧ Sl w6 ad X) := ⟨X5.out.1, X5.out.2.below b6⟩
            clear b6
            have lki : (kk : Int) ≤ (ps.length : Int) := by omega
            go_upto_region 17 with fail
            go_cut [15, 16] from 94 to 101 (fun x15 x16 wx => ∃ (vd : Option Addr) (vcap : Nat) (rv : Option Addr) (rc : Nat), x15 = .slice vd 4 vcap ∧ x16 = .slice rv (ps.length - kk) rc ∧ Hid (4 ≤ vcap ∧ Sl wx vd X ∧ Below w6.heap.size w6 wx))
            case first =>
              have FU := F6.out
              by_cases hpc : pcap = kk
              · have e0 : ps.length - kk = 0 := by omega
                have i00 := ID.out ud (some ⟨gp, 0, none⟩) ucap 0 w6 K6.out FU.2.1 FU.1 (.inl (List.drop_eq_nil_of_le (by omega)))
                rw [e0] at i00
                have HI0 : Hid _ := i00
                have E0 : Hid (ps.length - kk = 0) := e0
                clear i00 e0 FU
                subst hpc
                go_wp2_with fail
                refine Calls.mono HI0.out ?_
                rintro e w7 ⟨vd, vcap, rv, rc, rfl, F7⟩
                go_wp2_with fail
                go_meet
                exact ⟨vd, vcap, rv, rc, rfl, by rw [E0.out], F7.out⟩
              · have SD : Hid (SlP w6 (some ⟨gp, kk, none⟩) (ps.drop kk)) := (P1.out.below K6.out).drop kk
                have i00 := ID.out ud (some ⟨gp, kk, none⟩) ucap (pcap - kk) w6 K6.out FU.2.1 FU.1 SD.out
                have HID : Hid _ := i00
                clear i00 FU
                have hpi : ¬ (pcap : Int) = (kk : Int) := by omega
                have hps : ¬ pcap - kk = 0 := by omega
                have hpl : kk < pcap := by omega
                go_wp2_with fail
                refine Calls.mono HID.out ?_
                rintro e w7 ⟨vd, vcap, rv, rc, rfl, F7⟩
                go_wp2_with fail
                go_meet
                exact ⟨vd, vcap, rv, rc, rfl, rfl, F7.out⟩
            case rest =>
            rename World => w7
            obtain ⟨vd, vcap, rv, rc, rfl, rfl, F7⟩ := hcut
            have b7 := F7.out.2.2
            have K7 : Hid (Below w1.heap.size w1 w7) := K6.out.trans (b7.mono K6.out.size)
            have X7 : Hid (4 ≤ cap ∧ Sl w7 ad X) := ⟨X6.out.1, X6.out.2.below b7⟩
            clear b7
            go_wp2_with fail
            refine Calls.mono (BS.out vd ad vcap cap w7 F7.out.2.1 X7.out.2 F7.out.1 X7.out.1) ?_
            rintro e w8 ⟨rfl, b8⟩
            have K8 : Hid (Below w1.heap.size w1 w8) := K7.out.trans (b8.mono K7.out.size)
            have X8 : Hid (4 ≤ cap ∧ Sl w8 ad X) := ⟨X7.out.1, X7.out.2.below b8⟩
            have B8 : Hid (Below w.heap.size w w8) := B1.out.trans (K8.out.mono B1.out.size)
            have le1 : ((kk : Int) + ((ps.length - kk : Nat) : Int) != (ps.length : Int)) = false := by rw [bne_eq_false_iff_eq]; omega
            clear b8 F6 F7 X5 X6 X7 K5 K6 K7
            go_wp2_with fail
            refine (drawSerialFree a' n' c' w8 (Bytes.belowF HB'.out B8.out) hc' HM'.out).mono ?_
            rintro e w9 ⟨g1, cap1, xs, g2, cap2, ys, rfl, ⟨hx9, hy9⟩, ⟨lx, ly⟩, b9⟩
            have K9 : Hid (Below w.heap.size w w9) := B8.out.trans (b9.mono B8.out.size)
            have X9 : Hid (4 ≤ cap ∧ Sl w9 ad X) := ⟨X8.out.1, X8.out.2.below b9⟩
            have P9 : Hid (At4 w9 g1 0 xs ∧ At4 w9 g2 0 ys) := ⟨hx9, hy9⟩
            have IFR : Hid (∀ W, Below w9.heap.size w9 W → Calls Try.prog 30 #[.slice (some ⟨g1, 0, none⟩) xs.length cap1, .slice (some ⟨g2, 0, none⟩) ys.length cap2] W fun e w' => e = .returned (.bool (serialFree xs ys)) ∧ Below W.heap.size W w') := fun W hb => implSerialFree _ _ cap1 cap2 xs ys W (.inr ⟨g1, 0, rfl, P9.out.1.below hb⟩) (.inr ⟨g2, 0, rfl, P9.out.2.below hb⟩) (by omega) (by omega)
            have SFR : Hid (∀ W, Below w9.heap.size w9 W → Calls Try.prog 31 #[.slice (some ⟨g1, 0, none⟩) xs.length cap1, .slice (some ⟨g2, 0, none⟩) ys.length cap2] W fun e w' => e = .returned (.bool (serialFree xs ys)) ∧ Below W.heap.size W w') := fun W hb => specSerialFree _ _ cap1 cap2 xs ys W (.inr ⟨g1, 0, rfl, P9.out.1.below hb⟩) (.inr ⟨g2, 0, rfl, P9.out.2.below hb⟩) (by omega) (by omega)
            have IFC : Hid (∀ W, Below w9.heap.size w9 W → Calls Try.prog 30 #[.slice (some ⟨g2, 0, none⟩) ys.length cap2, .slice (some ⟨g1, 0, none⟩) xs.length cap1] W fun e w' => e = .returned (.bool (serialFree xs ys)) ∧ Below W.heap.size W w') := fun W hb => by
              rw [serialFree_comm]
              exact implSerialFree _ _ cap2 cap1 ys xs W (.inr ⟨g2, 0, rfl, P9.out.2.below hb⟩) (.inr ⟨g1, 0, rfl, P9.out.1.below hb⟩) (by omega) (by omega)
            obtain ⟨M, hM⟩ : ∃ M, M = (runAll X [xs, ys]).1 := ⟨_, rfl⟩
            obtain ⟨V1, hV1⟩ : ∃ V, V = (runAll X [xs, ys]).2 := ⟨_, rfl⟩
            obtain ⟨V2, hV2⟩ : ∃ V, V = (runAll X [ys, xs]).2 := ⟨_, rfl⟩
            have FE : Hid (serialFree xs ys = true → boxOk M = true ∧ (runAll X [ys, xs]).1 = M ∧ V1.getD 0 0 = V2.getD 1 0 ∧ V1.getD 1 0 = V2.getD 0 0) := fun hf => by
              have h := free_either XO.out hf
              rw [hM, hV1, hV2]
              exact ⟨runAll_ok _ XO.out, h.1.symm, h.2.1, h.2.2⟩
            have VL2 : Hid (V1.length = 2 ∧ V2.length = 2) := ⟨by rw [hV1, runAll_len]; rfl, by rw [hV2, runAll_len]; rfl⟩
            have AP : Hid (serialFree xs ys = true → allProgs [((some ⟨g1, 0, none⟩ : Option Addr), cap1, xs), (some ⟨g2, 0, none⟩, cap2, ys)] = true ∧ allProgs [((some ⟨g2, 0, none⟩ : Option Addr), cap2, ys), (some ⟨g1, 0, none⟩, cap1, xs)] = true) := fun hf => by
              obtain ⟨h1, h2, _⟩ := free_parts hf
              simp [allProgs, progsOf, h1, h2]
            have IM : Hid (serialFree xs ys = true → ∀ W, Below w9.heap.size w9 W → Calls Try.prog 27 #[.slice ad 4 cap, .slice (some ⟨W.heap.size, 0, none⟩) 2 2] (W.alloc (.cells #[.slice (some ⟨g1, 0, none⟩) xs.length cap1, .slice (some ⟨g2, 0, none⟩) ys.length cap2] 51)) fun e w' => ∃ ad cap av cv, e = .returned (.tuple #[.slice ad 4 cap, .slice av 2 cv]) ∧ Hid (4 ≤ cap ∧ Sl w' ad M ∧ SlI w' av V1 ∧ Below W.heap.size W w')) := fun hf W hb => by
              have k := below_new W (.cells #[.slice (some ⟨g1, 0, none⟩) xs.length cap1, .slice (some ⟨g2, 0, none⟩) ys.length cap2] 51)
              have h := allGo ad (some ⟨W.heap.size, 0, none⟩) cap 2 X [((some ⟨g1, 0, none⟩ : Option Addr), cap1, xs), (some ⟨g2, 0, none⟩, cap2, ys)] _ ((X9.out.2.below hb).below k) (two_slP (P9.out.1.below hb) (P9.out.2.below hb) lx ly) X9.out.1 (by simp) XO.out (AP.out hf).1
              rw [hM, hV1]
              refine h.mono ?_
              rintro e w' ⟨ad, cap, av, cv, h1, h2, h3, h4, h5⟩
              exact ⟨ad, cap, av, cv, h1, h2, h3, h4, k.trans (h5.mono k.size)⟩
            have IN' : Hid (serialFree xs ys = true → ∀ W, Below w9.heap.size w9 W → Calls Try.prog 27 #[.slice ad 4 cap, .slice (some ⟨W.heap.size, 0, none⟩) 2 2] (W.alloc (.cells #[.slice (some ⟨g2, 0, none⟩) ys.length cap2, .slice (some ⟨g1, 0, none⟩) xs.length cap1] 51)) fun e w' => ∃ ad cap av cv, e = .returned (.tuple #[.slice ad 4 cap, .slice av 2 cv]) ∧ Hid (4 ≤ cap ∧ Sl w' ad M ∧ SlI w' av V2 ∧ Below W.heap.size W w')) := fun hf W hb => by
              have k := below_new W (.cells #[.slice (some ⟨g2, 0, none⟩) ys.length cap2, .slice (some ⟨g1, 0, none⟩) xs.length cap1] 51)
              have h := allGo ad (some ⟨W.heap.size, 0, none⟩) cap 2 X [((some ⟨g2, 0, none⟩ : Option Addr), cap2, ys), (some ⟨g1, 0, none⟩, cap1, xs)] _ ((X9.out.2.below hb).below k) (two_slP (P9.out.2.below hb) (P9.out.1.below hb) ly lx) X9.out.1 (by simp) XO.out (AP.out hf).2
              have e2 := (FE.out hf).2.1
              rw [hV2]
              refine h.mono ?_
              rintro e w' ⟨ad, cap, av, cv, h1, h2, h3, h4, h5⟩
              exact ⟨ad, cap, av, cv, h1, h2, by rw [← e2]; exact h3, h4, k.trans (h5.mono k.size)⟩
            clear hM hV1 hV2 b9 hx9 hy9
            generalize hfr : serialFree xs ys = fr at IFR SFR IFC FE AP IM IN'
            clear hfr
            have ef : (fr != fr) = false := by simp
            go_wp2_with fail
            refine Calls.mono (IFR.out w9 (Below.refl _ _)) ?_
            rintro e u1 ⟨rfl, d1⟩
            have J1 : Hid (Below w9.heap.size w9 u1) := d1
            clear d1
            go_wp2_with fail
            refine Calls.mono (SFR.out u1 J1.out) ?_
            rintro e u2 ⟨rfl, d2⟩
            have J2 : Hid (Below w9.heap.size w9 u2) := J1.out.trans (d2.mono J1.out.size)
            clear d2
            go_wp2_with fail
            refine Calls.mono (IFR.out u2 J2.out) ?_
            rintro e u3 ⟨rfl, d3⟩
            have J3 : Hid (Below w9.heap.size w9 u3) := J2.out.trans (d3.mono J2.out.size)
            clear d3
            go_wp2_with fail
            refine Calls.mono (IFC.out u3 J3.out) ?_
            rintro e u4 ⟨rfl, d4⟩
            have J4 : Hid (Below w9.heap.size w9 u4) := J3.out.trans (d4.mono J3.out.size)
            clear d4
            go_wp2_with fail
            refine Calls.mono (IFR.out u4 J4.out) ?_
            rintro e u5 ⟨rfl, d5⟩
            have J5 : Hid (Below w9.heap.size w9 u5) := J4.out.trans (d5.mono J4.out.size)
            clear d5
            cases fr with
            | false =>
              have BZ : Hid (Below w.heap.size w u5) := K9.out.trans (J5.out.mono K9.out.size)
              go_wp2_with fail
              go_ret
              exact ⟨rfl, BZ.out⟩
            | true =>
              have fe := FE.out rfl
              have MO : Hid (boxOk M = true) := fe.1
              have E1 : Hid (V1.getD 0 0 = V2.getD 1 0) := fe.2.2.1
              have E2 : Hid (V1.getD 1 0 = V2.getD 0 0) := fe.2.2.2
              have IM2 : Hid _ := IM.out rfl
              have IN2 : Hid _ := IN'.out rfl
              clear fe FE IM IN' AP IFR SFR IFC IA SA IT ID
              go_wp2_with fail
              refine Calls.mono (IM2.out u5 J5.out) ?_
              rintro e u6 ⟨md, mc, ma, mb, rfl, F6⟩
              have J6 : Hid (Below w9.heap.size w9 u6) := J5.out.trans (F6.out.2.2.2.mono J5.out.size)
              go_wp2_with fail
              refine Calls.mono (IN2.out u6 J6.out) ?_
              rintro e u7 ⟨nd, nc, na, nb, rfl, F7⟩
              have b7 := F7.out.2.2.2
              have BZ : Hid (Below w.heap.size w u7) := K9.out.trans ((J6.out.trans (b7.mono J6.out.size)).mono K9.out.size)
              have SMQ : Hid (∀ d os, Calls Try.prog 14 #[.slice md 4 mc, .slice nd 4 nc] (grow (redrawn u7 d) os) fun e w'' => e = .returned (.bool true) ∧ ∃ p : Regrown, w'' = grow (redrawn u7 p.d) p.os) := fun d os => Calls.regrown_of (sameGo md nd mc nc M _ ((F6.out.2.1.below b7).below (below_regrown u7 d os)) (F7.out.2.1.below (below_regrown u7 d os)) (boxOk_len MO.out) F6.out.1 F7.out.1)
              have vl := VL2.out
              rcases F6.out.2.2.1.keep b7 with hh | ⟨b1, o1, rfl, i1⟩
              · rw [hh] at vl; simp at vl
              rcases F7.out.2.2.1 with hh | ⟨b2, o2, rfl, i2⟩
              · rw [hh] at vl; simp at vl
              have c0 := i1.2 0 (by omega)
              have c1 := i1.2 1 (by omega)
              have d0 := i2.2 0 (by omega)
              have d1 := i2.2 1 (by omega)
              rw [← E2.out] at d0
              rw [← E1.out] at d1
              clear i1 i2 b7 vl
              generalize V1.getD 0 0 = z0 at c0 d1
              generalize V1.getD 1 0 = z1 at c1 d0
              have m0 := cell_regrown c0
              have m1 := cell_regrown c1
              have m2 := cell_regrown d0
              have m3 := cell_regrown d1
              simp only [Nat.add_zero] at m0 m2
              have zz0 : (z0 == z0) = true := by simp
              have zz1 : (z1 == z1) = true := by simp
              clear c0 c1 d0 d1 F6 F7 IM2 IN2
              go_upto_region 27 with fail
              refine wp_region_quiet_below (by kernel_rfl) (by kernel_rfl) ?_
              repeat (go_big_quiet_step (first | (go_at_call 14; exact SMQ.out _ _)))
              refine wpQuiet_nil ?_
              intro Y hw'
              obtain ⟨⟨dq, osq⟩, hw''⟩ := hw'
              have hx : Below u7.heap.size u7 Y := by rw [hw'']; exact below_regrown u7 dq osq
              have BY : Hid (Below w.heap.size w Y) := BZ.out.trans (hx.mono BZ.out.size)
              clear hx hw'' m0 m1 m2 m3
              go_wp2_with fail
              go_ret
              exact ⟨rfl, BY.out⟩
    · have hd2 : decide ((1048576 : Int) < (n' : Int)) = true := by simp; omega
      go_enter Try.func5, Try.ntmps5
      go_wp2_with fail
      go_ret
      exact ⟨rfl, Below.refl _ _⟩
  · have hd : decide ((1048576 : Int) < (n : Int)) = true := by simp; omega
    go_enter Try.func5, Try.ntmps5
    go_wp2_with fail
    go_ret
    exact ⟨rfl, Below.refl _ _⟩
end Go.Proofs.Ytgcencilgpilaaa.Own
