/-
  Own text: from the row's list of variables, and from the first world's shape, to what the walks of reading ask.
-/
import Derived.Test.YtbcnmmofccackaaGreatDoorDoor
import Derived.Test.YtbcnmmofccackaaGreatDoorReadNum
import Derived.HandedShaped
import Derived.Shelf.Vars
namespace Go.Proofs.YtbcnmmofccackaaGreatDoor.Own
open Go.RowKit

theorem errRow (u : TypeId) (h : Tryz.prog.typeName? 3 u = some "*errors.errorString") : u = 137 :=
  typeName_ptr_named (nm := "errors.errorString") (by kernel_rfl) (by kernel_rfl) (by decide) u h

theorem errCells : Tryz.prog.cellsOf 139 = 1 := by kernel_rfl
theorem strCells1 : Tryz.prog.cellsOf 9 = 1 := by kernel_rfl

theorem env_of {W : World} {a b : String × DataW Unit} {r : List (String × DataW Unit)} (h : laidMet Tryz.prog (a :: b :: ("internal/strconv.uint64pow10", Rows.laid_internal_strconv_uint64pow10) :: ("strconv.ErrRange", Rows.laid_strconv_ErrRange) :: ("strconv.ErrSyntax", Rows.laid_strconv_ErrSyntax) :: r) W) (hs : W.ShapedOpen Tryz.prog) : Env W := by
  have h3 := h.tail.tail.tail
  obtain ⟨a1, s1, hv1, _, _, _⟩ := laid_sentinel h3 (g := 5) (by kernel_rfl) (by kernel_rfl) Tryz.underlying43 errRow Tryz.underlying137 Tryz.underlying139 rfl rfl Tryz.underlying9 errCells strCells1
  obtain ⟨a2, s2, hv2, _, _, _⟩ := laid_sentinel h3.tail (g := 4) (by kernel_rfl) (by kernel_rfl) Tryz.underlying43 errRow Tryz.underlying137 Tryz.underlying139 rfl rfl Tryz.underlying9 errCells strCells1
  exact ⟨door_of h, ⟨_, _, hv2⟩, ⟨_, _, hv1⟩, Tryz.laysM145.s1_3 W hs⟩

/-- The same where the tables of package unicode/utf8 are listed too. -/
theorem env_of_u {W : World} {a b c : String × DataW Unit} {r : List (String × DataW Unit)} (h : laidMet Tryz.prog (a :: b :: ("internal/strconv.uint64pow10", Rows.laid_internal_strconv_uint64pow10) :: c :: ("strconv.ErrRange", Rows.laid_strconv_ErrRange) :: ("strconv.ErrSyntax", Rows.laid_strconv_ErrSyntax) :: r) W) (hs : W.ShapedOpen Tryz.prog) : Env W := by
  have h3 := h.tail.tail.tail.tail
  obtain ⟨a1, s1, hv1, _, _, _⟩ := laid_sentinel h3 (g := 5) (by kernel_rfl) (by kernel_rfl) Tryz.underlying43 errRow Tryz.underlying137 Tryz.underlying139 rfl rfl Tryz.underlying9 errCells strCells1
  obtain ⟨a2, s2, hv2, _, _, _⟩ := laid_sentinel h3.tail (g := 4) (by kernel_rfl) (by kernel_rfl) Tryz.underlying43 errRow Tryz.underlying137 Tryz.underlying139 rfl rfl Tryz.underlying9 errCells strCells1
  exact ⟨door_of h, ⟨_, _, hv2⟩, ⟨_, _, hv1⟩, Tryz.laysM145.s1_3 W hs⟩

/-- The frame's lift with both the list of variables and the world's shape. -/
theorem lift_both {H : Type} {enc : TypeId × Value → H} {a : Assume} {C : Checked} {os : Os} {f : FuncId} {fn : Func} {s : ChangeSpec} {conds : List PathCond} {apart fresh handsOn again : Bool} {X : World → Array Value → Prop}
    (hX : ∀ (w w' : World) (args : Array Value), w.heap = w'.heap → X w args → X w' args)
    (own : ownKnob C.prog.godebug = none) (started : os.Started) (noInit : C.prog.inits.idxOf? f = none) (hfn : C.prog.funcs[f]? = some fn)
    (witness : ∃ (w : World) (tape : Tape) (i : Input), w.os = os ∧ (w.forCall tape i).Shaped C.prog ∧ i.vars = [] ∧ Input.okWide C.prog (w.forCall tape i) .any w.heap.size f i ∧
      ((s.pre enc C.prog fn conds apart (w.forCall tape i).memory i.args ∧ X (w.forCall tape i).memory i.args) ∧ sizedMet enc C.prog fn (OpenSpec.ofChange s) apart (w.forCall tape i).memory i.args) ∧ a.holds C.prog (lone (Frame.enter C.prog f i.args .normal) [] (w.forCall tape i)))
    (walk : ∀ (W : World) (base : Nat) (args : Array Value) (ds gs : List (DataW H)) (before : List MemPlace),
      (∀ (j : Nat) t v, fn.params[j]? = some t → args[j]? = some v → Value.okWide C.prog W .any base t v) →
      DataW.Whole enc C.prog fn.params.toList s.vars apart W args.toList ds gs before → X W args → W.ShapedOpen C.prog →
      Calls C.prog f args W fun e W' => ∃ v, e = .returned v ∧ s.post enc C.prog fn apart fresh handsOn again W args v W') :
    ReturnsInHanded a C os f .any (fun w args => (s.pre enc C.prog fn conds apart w args ∧ X w args) ∧ sizedMet enc C.prog fn (OpenSpec.ofChange s) apart w args) (s.post enc C.prog fn apart fresh handsOn again) := by
  refine returnsInHanded_of_calls own started noInit witness fun w tape i _ hsh _ hok hpre _ => ?_
  obtain ⟨_, _, _, fn', hfn', _, _, _, _, hval⟩ := hok
  obtain rfl : fn' = fn := Option.some.inj (hfn'.symm.trans hfn)
  obtain ⟨⟨⟨ds, gs, before, hw, _⟩, hx⟩, _⟩ := hpre
  refine (walk (w.forCall tape i) w.heap.size i.args ds gs before hval (DataW.Whole.of_heap (by rfl) hw) (hX _ _ _ (by rfl) hx) hsh).mono fun e W' ⟨v, he, hp⟩ => ?_
  subst he
  exact ChangeSpec.post_blind hp
end Go.Proofs.YtbcnmmofccackaaGreatDoor.Own
