/-
  Own text: plain mathematics of reading programs: the pieces of an instruction's text, which texts are those of instructions that are right, and of programs that are ok.
-/
import Derived.Test.YtbcnmmofccackaaGreatDoorNumRead
import Derived.Test.YtbcnmmofccackaaGreatDoorText2
import Derived.Test.YtbcnmmofccackaaGreatDoorProgOk2
namespace Go.Proofs.YtbcnmmofccackaaGreatDoor.Own
set_option linter.unusedVariables false
set_option linter.unusedSimpArgs false

/-- The word of a kind. -/
def wordOf (k : Int) : List UInt8 :=
  if k = 1 then [108, 111, 97, 100] else if k = 2 then [112, 117, 116] else if k = 3 then [110, 117, 109] else if k = 4 then [97, 100, 100]
  else if k = 5 then [115, 117, 98] else if k = 6 then [108, 101, 115, 115] else if k = 7 then [102, 97, 105, 108] else []
def IsKind (k : Int) : Prop := 1 ≤ k ∧ k ≤ 7
def hasA (k : Int) : Bool := k != 7
def hasB (k : Int) : Bool := k != 7 && k != 3
def hasN (k : Int) : Bool := k == 3 || k == 6
/-- The pieces of an instruction's text between spaces. -/
def insPieces (p : Q4) : List (List UInt8) :=
  wordOf p.1 :: ((if hasA p.1 = true then [Lib.itoa p.2.1] else []) ++ (if hasB p.1 = true then [Lib.itoa p.2.2.1] else []) ++ (if hasN p.1 = true then [Lib.itoa p.2.2.2] else []))
/-- What the kind has not is 0. -/
def Canon4 (p : Q4) : Prop := IsKind p.1 ∧ (hasA p.1 = false → p.2.1 = 0) ∧ (hasB p.1 = false → p.2.2.1 = 0) ∧ (hasN p.1 = false → p.2.2.2 = 0)

theorem kind_cases {k : Int} (h : IsKind k) : k = 1 ∨ k = 2 ∨ k = 3 ∨ k = 4 ∨ k = 5 ∨ k = 6 ∨ k = 7 := by unfold IsKind at h; omega

theorem word_inj {k k' : Int} (h : IsKind k) (h' : IsKind k') (e : wordOf k = wordOf k') : k = k' := by
  rcases kind_cases h with rfl | rfl | rfl | rfl | rfl | rfl | rfl <;> rcases kind_cases h' with rfl | rfl | rfl | rfl | rfl | rfl | rfl <;> first | rfl | (exfalso; revert e; decide)

theorem word_no {k : Int} (h : IsKind k) : (32 : UInt8) ∉ wordOf k ∧ (44 : UInt8) ∉ wordOf k := by
  rcases kind_cases h with rfl | rfl | rfl | rfl | rfl | rfl | rfl <;> decide

theorem itoa_no44 (n : Int) : (44 : UInt8) ∉ Lib.itoa n := by
  intro h
  have := itoa_sign n 44 h; simp at this

theorem insText_join (p : Q4) (h : IsKind p.1) : insText p = joinAll 32 (insPieces p) := by
  obtain ⟨k, a, b, n⟩ := p
  have h' : IsKind k := h
  rcases kind_cases h' with rfl | rfl | rfl | rfl | rfl | rfl | rfl <;> simp [insText, insPieces, wordOf, hasA, hasB, hasN, joinAll]

theorem cut_join (c : UInt8) : ∀ (ps : List (List UInt8)), ps ≠ [] → (∀ p ∈ ps, c ∉ p) → cutAll c [] (joinAll c ps) = ps
  | [], h, _ => absurd rfl h
  | [y], _, hn => by
    have := cut_skip c y [] [] (hn y (by simp))
    simpa [joinAll, cutAll] using this
  | y :: z :: r, _, hn => by
    have h1 := cut_skip c y [] (c :: joinAll c (z :: r)) (hn y (by simp))
    have ih := cut_join c (z :: r) (by simp) (fun p hp => hn p (by simp at hp ⊢; exact .inr hp))
    simp only [joinAll] at h1 ⊢
    rw [h1]
    simp [cutAll, ih]

theorem pieces_no (p : Q4) (h : IsKind p.1) : ∀ x ∈ insPieces p, (32 : UInt8) ∉ x := by
  intro x hx
  simp only [insPieces, List.mem_cons, List.mem_append] at hx
  rcases hx with rfl | (hx | hx) | hx
  · exact (word_no h).1
  all_goals
    split at hx
    · simp only [List.mem_singleton] at hx
      subst hx
      exact (itoa_no _).2
    · simp at hx

theorem cut_ins (p : Q4) (h : IsKind p.1) : cutAll 32 [] (insText p) = insPieces p := by
  rw [insText_join p h]
  exact cut_join 32 _ (by simp [insPieces]) (pieces_no p h)

theorem no44_ins (p : Q4) (h : IsKind p.1) : (44 : UInt8) ∉ insText p := by
  obtain ⟨k, a, b, n⟩ := p
  have h' : IsKind k := h
  have ha := itoa_no44 a
  have hb := itoa_no44 b
  have hn := itoa_no44 n
  rcases kind_cases h' with rfl | rfl | rfl | rfl | rfl | rfl | rfl <;> simp [insText, ha, hb, hn]

/-- What is known of an instruction that is right. -/
theorem ok_facts {p : Q4} (h : insOk p = true) : Canon4 p ∧ (-1000000 ≤ p.2.1 ∧ p.2.1 ≤ 1000000) ∧ (-1000000 ≤ p.2.2.1 ∧ p.2.2.1 ≤ 1000000) ∧ (-1000000 ≤ p.2.2.2 ∧ p.2.2.2 ≤ 1000000) := by
  obtain ⟨k, a, b, n⟩ := p
  by_cases h1 : k = 1
  · subst h1; rw [insOk_1] at h; simp [regOk] at h; simp [Canon4, IsKind, hasA, hasB, hasN]; omega
  by_cases h2 : k = 2
  · subst h2; rw [insOk_2] at h; simp [regOk] at h; simp [Canon4, IsKind, hasA, hasB, hasN]; omega
  by_cases h3 : k = 3
  · subst h3; rw [insOk_3] at h; simp [regOk, numOk2] at h; simp [Canon4, IsKind, hasA, hasB, hasN]; omega
  by_cases h4 : k = 4
  · subst h4; rw [insOk_4] at h; simp [regOk] at h; simp [Canon4, IsKind, hasA, hasB, hasN]; omega
  by_cases h5 : k = 5
  · subst h5; rw [insOk_5] at h; simp [regOk] at h; simp [Canon4, IsKind, hasA, hasB, hasN]; omega
  by_cases h6 : k = 6
  · subst h6; rw [insOk_6] at h; simp [regOk, lessOk] at h; simp [Canon4, IsKind, hasA, hasB, hasN]; omega
  by_cases h7 : k = 7
  · subst h7; rw [insOk_7] at h; simp at h; simp [Canon4, IsKind, hasA, hasB, hasN]; omega
  · rw [insOk_no a b n ⟨h1, h2, h3, h4, h5, h6, h7⟩] at h
    cases h

theorem pieces_inj {p q : Q4} (hp : Canon4 p) (hq : Canon4 q) (h : insPieces p = insPieces q) : p = q := by
  obtain ⟨k, a, b, n⟩ := p
  obtain ⟨k', a', b', n'⟩ := q
  obtain ⟨h1, h2, h3, h4⟩ := hp
  obtain ⟨g1, g2, g3, g4⟩ := hq
  simp only [insPieces, List.cons.injEq] at h h1 h2 h3 h4 g1 g2 g3 g4
  obtain ⟨hw, hr⟩ := h
  obtain rfl := word_inj h1 g1 hw
  have tail : ∀ {x y : Int}, Lib.itoa x = Lib.itoa y → x = y := fun e => itoa_inj e
  rcases kind_cases h1 with rfl | rfl | rfl | rfl | rfl | rfl | rfl
  all_goals
    simp [hasA, hasB, hasN] at hr h2 h3 h4 g2 g3 g4 ⊢
  · exact ⟨tail hr.1, tail hr.2, by omega⟩
  · exact ⟨tail hr.1, tail hr.2, by omega⟩
  · exact ⟨tail hr.1, by omega, tail hr.2⟩
  · exact ⟨tail hr.1, tail hr.2, by omega⟩
  · exact ⟨tail hr.1, tail hr.2, by omega⟩
  · exact ⟨tail hr.1, tail hr.2.1, tail hr.2.2⟩
  · omega

/-- No instruction that is right has this text. -/
def NoIns (t : List UInt8) : Prop := ∀ p, insOk p = true → insText p ≠ t
/-- q is the instruction of this text; or it is not right, and then none that is right has it. -/
def Fit (t : List UInt8) (q : Q4) : Prop := (insOk q = true ∧ insText q = t) ∨ (insOk q = false ∧ NoIns t)

theorem fit_of_pieces {t : List UInt8} {q : Q4} (hq : Canon4 q) (h : cutAll 32 [] t = insPieces q) : Fit t q := by
  have ht : insText q = t := by
    rw [insText_join q hq.1, ← h, join_cut]; rfl
  cases hok : insOk q with
  | true => exact .inl ⟨hok, ht⟩
  | false =>
    refine .inr ⟨hok, fun p hp e => ?_⟩
    have hc := (ok_facts hp).1
    have : insPieces p = insPieces q := by rw [← cut_ins p hc.1, e, h]
    rw [pieces_inj hc hq this, hok] at hp
    cases hp

theorem noIns_pieces {t : List UInt8} (h : ∀ p, insOk p = true → cutAll 32 [] t ≠ insPieces p) : NoIns t := by
  intro p hp e
  exact h p hp (by rw [← e]; exact cut_ins p (ok_facts hp).1.1)

theorem itoa_ne_nil2 (n : Int) : Lib.itoa n ≠ [] := by
  by_cases h : n < 0
  · rw [itoa_neg' n h]; simp
  · rw [itoa_pos' n h]; exact dec_ne_nil _

/-- A number is read off the pieces, if there is to be one. -/
def NumR (B : Int → Prop) (has : Bool) (rs : List (List UInt8)) (n : Int) (f : Bool) (rs' : List (List UInt8)) : Prop :=
  (has = true ∧ rs' = rs.tail ∧ ((f = false ∧ B n ∧ Lib.itoa n = rs.headD []) ∨ (f = true ∧ n = 0 ∧ ∀ m, B m → Lib.itoa m ≠ rs.headD []))) ∨ (has = false ∧ rs' = rs ∧ n = 0 ∧ f = false)

theorem NumR.hit {B : Int → Prop} {x : List UInt8} {rs rs' : List (List UInt8)} {n : Int} {f : Bool} (h : NumR B true (x :: rs) n f rs') {m : Int} (hm : B m) (hx : Lib.itoa m = x) : f = false ∧ rs' = rs := by
  rcases h with ⟨_, h1, h2⟩ | ⟨h, _⟩
  · refine ⟨?_, h1⟩
    rcases h2 with h2 | ⟨_, _, h2⟩
    · exact h2.1
    · exact absurd hx (h2 m hm)
  · cases h
theorem NumR.skip {B : Int → Prop} {rs rs' : List (List UInt8)} {n : Int} {f : Bool} (h : NumR B false rs n f rs') : f = false ∧ rs' = rs ∧ n = 0 := by
  rcases h with ⟨h, _⟩ | ⟨_, h1, h2, h3⟩
  · cases h
  · exact ⟨h3, h1, h2⟩
/-- What was read stands there. -/
theorem NumR.got {B : Int → Prop} {rs rs' : List (List UInt8)} {n : Int} (h : NumR B true rs n false rs') : rs = Lib.itoa n :: rs' := by
  rcases h with ⟨_, h1, h2⟩ | ⟨h, _⟩
  · rcases h2 with ⟨_, _, h2⟩ | ⟨h, _⟩
    · cases rs with
      | nil => simp at h2; exact absurd h2 (itoa_ne_nil2 n)
      | cons x r => simp at h2 h1; rw [h1, h2]
    · cases h
  · cases h
theorem NumR.step {B : Int → Prop} {has : Bool} {rs rs' : List (List UInt8)} {n : Int} (h : NumR B has rs n false rs') : rs = (if has = true then [Lib.itoa n] else []) ++ rs' ∧ (has = false → n = 0) := by
  cases has with
  | true => exact ⟨by rw [h.got]; rfl, fun h => by cases h⟩
  | false => have := h.skip; exact ⟨by rw [this.2.1]; rfl, fun _ => this.2.2⟩

def okNum (B : Int → Prop) : Prop := ∀ m : Int, -1000000 ≤ m → m ≤ 1000000 → B m

/-- An instruction that was read word by word. -/
theorem one_fits {B : Int → Prop} (hB : okNum B) {t : List UInt8} {k : Int} {rs r1 r2 r3 : List (List UInt8)} {a b n : Int} {f1 f2 f3 : Bool} (hk : IsKind k) (hw : cutAll 32 [] t = wordOf k :: rs)
    (n1 : NumR B (hasA k) rs a f1 r1) (n2 : NumR B (hasB k) r1 b f2 r2) (n3 : NumR B (hasN k) r2 n f3 r3) :
    ((f1 = false ∧ f2 = false ∧ f3 = false ∧ r3 = []) → Fit t (k, a, b, n)) ∧ (¬ (f1 = false ∧ f2 = false ∧ f3 = false ∧ r3 = []) → NoIns t) := by
  constructor
  · rintro ⟨rfl, rfl, rfl, rfl⟩
    obtain ⟨e1, z1⟩ := n1.step
    obtain ⟨e2, z2⟩ := n2.step
    obtain ⟨e3, z3⟩ := n3.step
    refine fit_of_pieces ⟨hk, z1, z2, z3⟩ ?_
    rw [hw, e1, e2, e3]
    simp [insPieces]
  · intro hno
    refine noIns_pieces fun p hp e => hno ?_
    obtain ⟨hc, ba, bb, bn⟩ := ok_facts hp
    rw [hw] at e
    obtain ⟨k', a', b', n'⟩ := p
    simp only [insPieces, List.cons.injEq] at e
    obtain ⟨e1, e2⟩ := e
    obtain rfl := word_inj hk hc.1 e1
    subst e2
    simp only at ba bb bn n1 n2 n3
    have Ba := hB a' ba.1 ba.2
    have Bb := hB b' bb.1 bb.2
    have Bn := hB n' bn.1 bn.2
    rcases kind_cases hk with rfl | rfl | rfl | rfl | rfl | rfl | rfl
    · simp [hasA, hasB, hasN] at n1 n2 n3
      obtain ⟨g1, rfl⟩ := n1.hit Ba rfl; obtain ⟨g2, rfl⟩ := n2.hit Bb rfl; obtain ⟨g3, g4, _⟩ := n3.skip; exact ⟨g1, g2, g3, g4⟩
    · simp [hasA, hasB, hasN] at n1 n2 n3
      obtain ⟨g1, rfl⟩ := n1.hit Ba rfl; obtain ⟨g2, rfl⟩ := n2.hit Bb rfl; obtain ⟨g3, g4, _⟩ := n3.skip; exact ⟨g1, g2, g3, g4⟩
    · simp [hasA, hasB, hasN] at n1 n2 n3
      obtain ⟨g1, rfl⟩ := n1.hit Ba rfl; obtain ⟨g2, rfl, _⟩ := n2.skip; obtain ⟨g3, g4⟩ := n3.hit Bn rfl; exact ⟨g1, g2, g3, g4⟩
    · simp [hasA, hasB, hasN] at n1 n2 n3
      obtain ⟨g1, rfl⟩ := n1.hit Ba rfl; obtain ⟨g2, rfl⟩ := n2.hit Bb rfl; obtain ⟨g3, g4, _⟩ := n3.skip; exact ⟨g1, g2, g3, g4⟩
    · simp [hasA, hasB, hasN] at n1 n2 n3
      obtain ⟨g1, rfl⟩ := n1.hit Ba rfl; obtain ⟨g2, rfl⟩ := n2.hit Bb rfl; obtain ⟨g3, g4, _⟩ := n3.skip; exact ⟨g1, g2, g3, g4⟩
    · simp [hasA, hasB, hasN] at n1 n2 n3
      obtain ⟨g1, rfl⟩ := n1.hit Ba rfl; obtain ⟨g2, rfl⟩ := n2.hit Bb rfl; obtain ⟨g3, g4⟩ := n3.hit Bn rfl; exact ⟨g1, g2, g3, g4⟩
    · simp [hasA, hasB, hasN] at n1 n2 n3
      obtain ⟨g1, rfl, _⟩ := n1.skip; obtain ⟨g2, rfl, _⟩ := n2.skip; obtain ⟨g3, g4, _⟩ := n3.skip; exact ⟨g1, g2, g3, g4⟩

theorem noIns_word {t : List UInt8} (h : ∀ k, IsKind k → (cutAll 32 [] t).headD [] ≠ wordOf k) : NoIns t := by
  refine noIns_pieces fun p hp e => h p.1 (ok_facts hp).1.1 ?_
  rw [e]; rfl

/-- The text of a program. -/
def progText (xs : List Q4) : List UInt8 := joinAll 44 (xs.map insText)
theorem progText_snoc (xs : List Q4) (p : Q4) : progText (xs ++ [p]) = progText xs ++ ((if xs = [] then [] else [44]) ++ insText p) := by
  unfold progText
  induction xs with
  | nil => simp [joinAll]
  | cons a r ih =>
    cases r with
    | nil => simp [joinAll]
    | cons b r =>
      simp only [List.map_cons, List.cons_append, joinAll] at ih ⊢
      simp at ih
      simp [ih]
theorem progTo_text (xs : List Q4) (k : Nat) (hk : k ≤ xs.length) : progTo xs k = progText (xs.take k) := by
  induction k with
  | zero => simp [progTo, progText, joinAll]
  | succ k ih =>
    have hlt : k < xs.length := by omega
    rw [progTo, ih (by omega), List.take_succ_eq_append_getElem hlt, progText_snoc]
    have e : xs.getD k q0 = xs[k] := by simp [List.getD, hlt]
    rw [e]
    by_cases h0 : k = 0
    · simp [h0]
    · have : xs.take k ≠ [] := by
        intro h
        have := congrArg List.length h
        rw [List.length_take, List.length_nil] at this
        omega
      simp [h0, this]
theorem progTo_all (xs : List Q4) : progTo xs xs.length = progText xs := by rw [progTo_text _ _ (Nat.le_refl _), List.take_length]

theorem progOk_iff (xs : List Q4) : progOk xs = true ↔ xs.length ≤ 10 ∧ ∀ x ∈ xs, insOk x = true := by simp [progOk]
/-- No program that is ok has this text. -/
def NoProg (l : List UInt8) : Prop := ∀ xs, progOk xs = true → progText xs ≠ l

theorem cut_prog (xs : List Q4) (h : xs ≠ []) (ok : ∀ x ∈ xs, insOk x = true) : cutAll 44 [] (progText xs) = xs.map insText := by
  refine cut_join 44 _ (by simpa using h) fun p hp => ?_
  obtain ⟨x, hx, rfl⟩ := List.mem_map.1 hp
  exact no44_ins x (ok_facts (ok x hx)).1.1

theorem ins_inj {p q : Q4} (hp : insOk p = true) (hq : insOk q = true) (h : insText p = insText q) : p = q := by
  have cp := (ok_facts hp).1
  have cq := (ok_facts hq).1
  exact pieces_inj cp cq (by rw [← cut_ins p cp.1, ← cut_ins q cq.1, h])

theorem noProg_piece {l : List UInt8} (hl : l ≠ []) {t : List UInt8} (ht : t ∈ cutAll 44 [] l) (h : NoIns t) : NoProg l := by
  intro xs ok e
  obtain ⟨_, ha⟩ := (progOk_iff xs).1 ok
  by_cases h0 : xs = []
  · subst h0; exact hl e.symm
  rw [← e, cut_prog xs h0 ha] at ht
  obtain ⟨x, hx, rfl⟩ := List.mem_map.1 ht
  exact h x (ha x hx) rfl

/-- All pieces were read, each as it fits. -/
def Fits4 (cs : List (List UInt8)) (qs : List Q4) : Prop := cs.length = qs.length ∧ ∀ i, i < qs.length → Fit (cs.getD i []) (qs.getD i q0)

theorem prog_read {l : List UInt8} (hl : l ≠ []) {qs : List Q4} (h : Fits4 (cutAll 44 [] l) qs) : (progOk qs = true → progText qs = l) ∧ (progOk qs = false → NoProg l) := by
  obtain ⟨hlen, hf⟩ := h
  constructor
  · intro ok
    obtain ⟨_, ha⟩ := (progOk_iff qs).1 ok
    have : qs.map insText = cutAll 44 [] l := by
      apply List.ext_getElem
      · simp [hlen]
      · intro i h1 h2
        have hi : i < qs.length := by simpa using h1
        have := hf i hi
        simp only [List.getD_eq_getElem?_getD, List.getElem?_eq_getElem hi, List.getElem?_eq_getElem h2, Option.getD_some] at this
        rcases this with ⟨_, e⟩ | ⟨e, _⟩
        · simpa using e
        · rw [ha _ (List.getElem_mem hi)] at e; cases e
    rw [progText, this, join_cut]; rfl
  · intro hno xs ok e
    obtain ⟨_, ha⟩ := (progOk_iff xs).1 ok
    by_cases h0 : xs = []
    · subst h0; exact hl e.symm
    have hc := cut_prog xs h0 ha
    rw [e] at hc
    have : qs = xs := by
      apply List.ext_getElem
      · rw [← hlen, hc]; simp
      · intro i h1 h2
        have := hf i h1
        have h3 : i < (cutAll 44 [] l).length := by rw [hlen]; exact h1
        simp only [List.getD_eq_getElem?_getD, List.getElem?_eq_getElem h1, List.getElem?_eq_getElem h3, Option.getD_some] at this
        have hx := ha xs[i] (List.getElem_mem h2)
        have e2 : (cutAll 44 [] l)[i] = insText xs[i] := by simp [hc]
        rw [e2] at this
        rcases this with ⟨a1, a2⟩ | ⟨_, a2⟩
        · exact ins_inj a1 hx a2
        · exact absurd rfl (a2 _ hx)
    rw [this, ok] at hno
    cases hno

theorem progText_inj {xs ys : List Q4} (hx : progOk xs = true) (hy : progOk ys = true) (h : progText xs = progText ys) : xs = ys := by
  obtain ⟨_, ha⟩ := (progOk_iff xs).1 hx
  obtain ⟨_, hb⟩ := (progOk_iff ys).1 hy
  have ne : ∀ zs : List Q4, (∀ z ∈ zs, insOk z = true) → zs ≠ [] → progText zs ≠ [] := by
    intro zs hz h0 e
    have := cut_prog zs h0 hz
    rw [e] at this
    cases zs with
    | nil => exact h0 rfl
    | cons z r =>
      have hk := (ok_facts (hz z (by simp))).1.1
      simp [cutAll] at this
      have h2 := insText_join z hk
      rw [this.1] at h2
      rcases kind_cases hk with e | e | e | e | e | e | e <;> simp [insPieces, wordOf, hasA, hasB, hasN, e, joinAll] at h2
  by_cases h0 : xs = []
  · by_cases h1 : ys = []
    · rw [h0, h1]
    · exact absurd (by rw [← h, h0]; rfl) (ne ys hb h1)
  · by_cases h1 : ys = []
    · exact absurd (by rw [h, h1]; rfl) (ne xs ha h0)
    · have e := cut_prog xs h0 ha
      rw [h, cut_prog ys h1 hb] at e
      apply List.ext_getElem
      · have := congrArg List.length e; simpa using this.symm
      · intro i g1 g2
        have := congrArg (fun l : List (List UInt8) => l[i]?) e
        simp [g1, g2] at this
        exact ins_inj (ha _ (List.getElem_mem g1)) (hb _ (List.getElem_mem g2)) this.symm

theorem noProg_long (l : List UInt8) (h : 400 < l.length) : NoProg l := by
  intro xs ok e
  obtain ⟨h10, ha⟩ := (progOk_iff xs).1 ok
  have hone : ∀ x, insOk x = true → (insText x).length ≤ 31 := by
    intro x hx
    obtain ⟨hc, ba, bb, bn⟩ := ok_facts hx
    have := itoa_len8 _ ba
    have := itoa_len8 _ bb
    have := itoa_len8 _ bn
    obtain ⟨k, a, b, n⟩ := x
    simp only at *
    rcases kind_cases hc.1 with e | e | e | e | e | e | e <;> simp only at e <;> subst e <;> simp [insText] <;> omega
  have hj : ∀ ys : List Q4, (∀ y ∈ ys, insOk y = true) → (progText ys).length ≤ 32 * ys.length := by
    intro ys
    induction ys with
    | nil => intro _; simp [progText, joinAll]
    | cons y r ih =>
      intro hy
      have h1 := hone y (hy y (by simp))
      have h2 := ih (fun z hz => hy z (by simp [hz]))
      cases r with
      | nil => simp [progText, joinAll]; omega
      | cons z r => simp [progText, joinAll] at h2 ⊢; omega
  have := hj xs ha
  rw [e] at this
  omega
end Go.Proofs.YtbcnmmofccackaaGreatDoor.Own
