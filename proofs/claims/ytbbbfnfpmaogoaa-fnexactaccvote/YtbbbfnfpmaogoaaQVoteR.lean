/-
  Own text: impl.AccVote and spec.AccVote on an acceptor and an entry of one's own; entries of one's own, marked.
-/
import Derived.Test.YtbbbfnfpmaogoaaQVoteI
import Derived.Test.YtbbbfnfpmaogoaaQSpecVote
import Derived.Test.YtbbbfnfpmaogoaaQMarkEnt
import Derived.Test.YtbbbfnfpmaogoaaPk7
namespace Go.Proofs.Ytbbbfnfpmaogoaa.Own
open Go.RowKit
set_option linter.unusedVariables false
set_option linter.unusedSimpArgs false

def VoteT (f : FuncId) (m bal slot : Int) (x : EB) (bs : List V) : Prop := ∀ (V : World) (B T : Nat) (v : Value) (L : List VM) (a1 a2 : Option Addr) (c1 c2 : Nat), OwnR V B T v L → VLs L → L.length ≤ 2 ^ 29 → bodies L = bs → Sl V a1 x.xs → Sl V a2 x.ys → x.xs.length ≤ 2 ^ 40 → x.ys.length ≤ 2 ^ 40 → x.xs.length ≤ c1 → x.ys.length ≤ c2 →
    Calls Try.prog f #[.agg #[.int .i64 m, v], .int .i64 bal, .int .i64 slot, .agg #[.bool x.n, .int .i64 x.p, .int .i64 x.q, .slice a1 x.xs.length c1, .slice a2 x.ys.length c2, .int .i64 x.v, .int .i64 x.k]] V fun e w' => ∃ la lc us, e = .returned (.tuple #[.agg #[.int .i64 (voM m bal slot x bs), .slice la (List.length (α := VM) us) lc], .bool (voO m bal slot x bs)]) ∧ OwnR w' V.heap.size w'.heap.size (.slice la us.length lc) us ∧ bodies us = voB m bal slot x bs ∧ Below V.heap.size V w'
theorem voteTS (m bal slot : Int) (x : EB) (bs : List V) : VoteT 29 m bal slot x bs := fun V B T v L a1 a2 c1 c2 h l n hb s1 s2 n1 n2 k1 k2 => by
  obtain ⟨a, c, rfl, s⟩ := h.form
  subst hb
  refine (specAccVote m a c L bal slot x.n x.p x.q a1 a2 c1 c2 x.xs x.ys x.v x.k V s l (by omega) s1 s2 n1 n2 k1 k2).mono ?_
  rintro e w' ⟨lv, us, rfl, ho, hu, hw⟩
  obtain ⟨la, lc, rfl, _⟩ := ho.form
  exact ⟨la, lc, us, rfl, ho, hu, hw⟩
theorem voteTI (m bal slot : Int) (x : EB) (bs : List V) : VoteT 31 m bal slot x bs := fun V B T v L a1 a2 c1 c2 h l n hb s1 s2 n1 n2 k1 k2 => by
  obtain ⟨a, c, rfl, s⟩ := h.form
  subst hb
  refine (implVote m a c L bal slot x.n x.p x.q a1 a2 c1 c2 x.xs x.ys x.v x.k V s l n s1 s2 n1 n2).mono ?_
  rintro e w' ⟨lv, us, rfl, ho, hu, hw⟩
  obtain ⟨la, lc, rfl, _⟩ := ho.form
  exact ⟨la, lc, us, rfl, ho, hu, hw⟩

/-- An entry's two lists: of one's own, from block B on and below T. -/
def OwnEn (w : World) (B T g1 g2 : Nat) (xs ys : List P2) : Prop := T ≤ w.heap.size ∧ g1 < T ∧ g2 < T ∧ RunOwn w B g1 g2 xs ys
theorem OwnEn.keepIn {w w' : World} {B T g1 g2 : Nat} {xs ys : List P2} (h : OwnEn w B T g1 g2 xs ys) (hs : w.heap.size ≤ w'.heap.size) (hb : ∀ b, B ≤ b → b < T → w'.heap[b]? = w.heap[b]?) : OwnEn w' B T g1 g2 xs ys := by
  obtain ⟨t, l1, l2, o1, o2, o3, o4, o5, o6, o7⟩ := h
  exact ⟨Nat.le_trans t hs, l1, l2, o1, o2, o3, o4.block hs (hb _ o1 l1), o5.block hs (hb _ o2 l2), o6.block (hb _ o1 l1), o7.block (hb _ o2 l2)⟩
theorem OwnEn.keep {w w' : World} {B T g1 g2 : Nat} {xs ys : List P2} (h : OwnEn w B T g1 g2 xs ys) (hb : Below w.heap.size w w') : OwnEn w' B T g1 g2 xs ys :=
  h.keepIn hb.size fun b _ hT => hb.block b (Nat.lt_of_lt_of_le hT h.1)
theorem OwnEn.outG {w w' : World} {B T B' T' g1 g2 : Nat} {xs ys : List P2} (h : OwnEn w B T g1 g2 xs ys) (o : OutG B' T' w w') (hd : T ≤ B' ∨ T' ≤ B) : OwnEn w' B T g1 g2 xs ys :=
  h.keepIn o.size fun b h1 h2 => o.block b (by have := h.1; omega) (by omega)
theorem OwnEn.sl {w : World} {B T g1 g2 : Nat} {xs ys : List P2} (h : OwnEn w B T g1 g2 xs ys) : Sl w (some ⟨g1, 0, none⟩) xs ∧ Sl w (some ⟨g2, 0, none⟩) ys :=
  ⟨.inr ⟨g1, 0, rfl, h.2.2.2.2.2.2.1⟩, .inr ⟨g2, 0, rfl, h.2.2.2.2.2.2.2.1⟩⟩
theorem toER (n : Bool) (p q : Int) (a1 a2 : Option Addr) (c1 c2 : Nat) (xs ys : List P2) (v k : Int) (w : World) (h1 : Sl w a1 xs) (h2 : Sl w a2 ys) (n1 : xs.length ≤ 2 ^ 40) (n2 : ys.length ≤ 2 ^ 40) :
    Calls Try.prog 30 #[.agg #[.bool n, .int .i64 p, .int .i64 q, .slice a1 xs.length c1, .slice a2 ys.length c2, .int .i64 v, .int .i64 k]] w fun e w' => ∃ g1 g2, e = .returned (.agg #[.bool n, .int .i64 p, .int .i64 q, .slice (some ⟨g1, 0, none⟩) xs.length xs.length, .slice (some ⟨g2, 0, none⟩) ys.length ys.length, .int .i64 v, .int .i64 k]) ∧ OwnEn w' w.heap.size w'.heap.size g1 g2 xs ys ∧ Below w.heap.size w w' :=
  (toEntry n p q a1 a2 c1 c2 xs ys v k w h1 h2 n1 n2).mono fun e w' ⟨g1, g2, he, ho, hb⟩ => ⟨g1, g2, he, ⟨Nat.le_refl _, ho.2.2.2.1.1, ho.2.2.2.2.1.1, ho⟩, hb⟩
theorem markER (n : Bool) (p q : Int) (B T g1 g2 c1 c2 : Nat) (xs ys : List P2) (v u k : Int) (w : World) (h : OwnEn w B T g1 g2 xs ys) (m1 : xs.length ≤ 2 ^ 30) (m2 : ys.length ≤ 2 ^ 30) (hk0 : 0 ≤ k) (hk : k ≤ 2 ^ 30) :
    Calls Try.prog 33 #[.agg #[.bool n, .int .i64 p, .int .i64 q, .slice (some ⟨g1, 0, none⟩) xs.length c1, .slice (some ⟨g2, 0, none⟩) ys.length c2, .int .i64 v, .int .i64 u], .int .i64 k] w fun e w' => e = .returned (.int .i64 (k + 2 * xs.length + 2 * ys.length)) ∧ OutG B T w w' := by
  obtain ⟨t, l1, l2, o1, o2, o3, o4, o5, o6, o7⟩ := h
  refine (markEntB n p q (some ⟨g1, 0, none⟩) (some ⟨g2, 0, none⟩) xs.length ys.length c1 c2 B xs ys v u k [g1, g2] w (.inr ⟨g1, rfl, o1, o4, o6.frozen⟩) (.inr ⟨g2, rfl, o2, o5, o7.frozen⟩) (.inr (.inr fun a b ea eb e => ?_)) rfl rfl m1 m2 hk0 hk (fun g e => ?_) (fun g e => ?_)).mono ?_
  · injection ea with ea; injection ea with ea
    injection eb with eb; injection eb with eb
    omega
  · injection e with e; injection e with e; simp [e]
  · injection e with e; injection e with e; simp [e]
  · rintro e w' ⟨rfl, ht⟩
    refine ⟨rfl, ht.size, ht.os, ht.tape, ht.output, fun b hb hd => ht.block b hb ?_⟩
    simp only [List.mem_cons, List.not_mem_nil, or_false, not_or]
    omega
end Go.Proofs.Ytbbbfnfpmaogoaa.Own
