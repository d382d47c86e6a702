/-
  Own texts, bundled: OpenS, DrawAccM, DrawAcc.
-/
import Derived.Test.YtfifiobcmdmefaaPk1
import Derived.Test.YtfifiobcmdmefaaPk5
import Derived.Test.YtfifiobcmdmefaaPk9
import Derived.Test.YtfifiobcmdmefaaPk8
import Derived.Deep.RegionHeld
import Derived.Deep.CutBlock
import Derived.Deep.Cut
import Derived.Deep.CutRange
namespace Go.Proofs.Ytfifiobcmdmefaa.Own
open Go.RowKit
set_option linter.unusedVariables false
set_option linter.unusedSimpArgs false

def zeros8 : Array Value := #[.int .i64 0, .int .i64 0, .int .i64 0, .int .i64 0, .int .i64 0, .int .i64 0, .int .i64 0, .int .i64 0]

theorem mk4 (w : World) : (Instr.makeSlice 84 (.int .i64 4) (.int .i64 4)).run Try.prog w = .ok (.slice (some ⟨w.heap.size, 0, none⟩) 4 4) (w.alloc (.cells zeros8 214)) := by kernel_rfl
theorem szBox : (Try.prog.info? 214).map (·.size) = some 2 := by kernel_rfl

set_option maxHeartbeats 400000 in
theorem specOpen (w : World) : Calls Try.prog 46 #[] w fun e w' => e = .returned (.slice (some ⟨w.heap.size, 0, none⟩) 4 4) ∧ w' = w.alloc (.cells zeros8 214) := by
  have hmk := mk4
  go_enter Try.func46, Try.ntmps46
  go_wp2
  go_ret
  exact ⟨rfl, rfl⟩

def zero4 : List (Int × Int) := [(0, 0), (0, 0), (0, 0), (0, 0)]
theorem zeros_at {w : World} {b : Nat} {t : TypeId} {f : Nat × Nat} (h : w.heap[b]? = some (.cells zeros8 t f)) : BoxAt w b 0 zero4 := by
  refine ⟨(Array.getElem?_eq_some_iff.1 h).1, fun i hi => ?_⟩
  rw [cell_heap h, cell_heap h]
  match i, hi with
  | 0, _ | 1, _ | 2, _ | 3, _ => simp [zeros8, zero4]
end Go.Proofs.Ytfifiobcmdmefaa.Own

namespace Go.Proofs.Ytfifiobcmdmefaa.Own
open Go.RowKit
set_option linter.unusedVariables false
set_option linter.unusedSimpArgs false

theorem OwnL.bar2 {w w' : World} {B rb : Nat} {v : Value} {vs : List VM} (h : OwnL w B v vs) (hb : Bar rb w w') (hr : rb < B) : OwnL w' B v vs := by
  refine ⟨?_, fun i hi => (h.one i hi).blk hb.size fun b e => ?_, h.out, h.all⟩
  · obtain ⟨h1, h2⟩ := h.row
    refine ⟨h1, ?_⟩
    rcases h2 with h2 | ⟨g, cap, cur, hv, hg, hh, r⟩
    · exact .inl h2
    · have := (Array.getElem?_eq_some_iff.1 hh).1
      exact .inr ⟨g, cap, cur, hv, hg, by rw [hb.block g this (by omega)]; exact hh, r⟩
  · rcases e with e | e
    · exact hb.block b ((h.one i hi).b1 b e).2 (by have := ((h.one i hi).b1 b e).1; omega)
    · exact hb.block b ((h.one i hi).b2 b e).2 (by have := ((h.one i hi).b2 b e).1; omega)
theorem short_iff {n : Nat} {bs : List V} : Short n bs ↔ ∀ y ∈ bs, y.2.xs.length ≤ n ∧ y.2.ys.length ≤ n := by
  constructor
  · intro h y hy
    obtain ⟨i, hi, rfl⟩ := List.mem_iff_getElem.1 hy
    have := h i hi
    have e : bs.getD i (0, e0) = bs[i] := by simp [List.getD, hi]
    rw [e] at this; exact this
  · intro h i hi
    have e : bs.getD i (0, e0) = bs[i] := by simp [List.getD, hi]
    rw [e]; exact h _ (List.getElem_mem hi)
theorem castB_len (bs : List V) (s : Nat) (x : V) : (castB bs s x).length = max bs.length (s + 1) := by
  simp [castB]; omega
theorem castB_short {n : Nat} {bs : List V} (h : Short n bs) (s : Nat) {x : V} (hx : x.2.xs.length ≤ n ∧ x.2.ys.length ≤ n) : Short n (castB bs s x) := by
  rw [short_iff] at *
  intro y hy
  unfold castB at hy
  rcases List.mem_or_eq_of_mem_set hy with hy | rfl
  · rcases List.mem_append.1 hy with hy | hy
    · exact h y hy
    · obtain ⟨_, rfl⟩ := List.mem_replicate.1 hy
      exact ⟨Nat.zero_le _, Nat.zero_le _⟩
  · exact hx

/-- An acceptor on its way: in the second new block, its votes of one's own from the third on. -/
structure AS (rb Bd : Nat) (w : World) (m : Int) (la : Option Addr) (lc : Nat) (us : List VM) (p : Nat) (wx : World) : Prop where
  acc : Blk wx (w.heap.size + 1) #[.int .i64 m, .slice la us.length lc] 25
  res : Blk wx w.heap.size #[.int .i64 0, .slice none 0 0] 25
  own : OwnL wx (w.heap.size + 2) (.slice la us.length lc) us
  rd : Rd wx rb Bd p
  bar : Bar rb w wx
theorem AS.only {rb Bd p p' lc : Nat} {w wx wx' : World} {m : Int} {la : Option Addr} {us : List VM} (h : AS rb Bd w m la lc us p wx) (hrb : rb < w.heap.size) (ho : Only rb wx wx') (hr : Rd wx' rb Bd p') : AS rb Bd w m la lc us p' wx' :=
  ⟨h.acc.only1 ho (by omega), h.res.only1 ho (by omega), h.own.bar2 (Bar.ofOnly ho) (by omega), hr, h.bar.trans (Bar.ofOnly ho)⟩
theorem AS.bar' {rb Bd p p' lc : Nat} {w wx wx' : World} {m : Int} {la : Option Addr} {us : List VM} (h : AS rb Bd w m la lc us p wx) (hrb : rb < w.heap.size) (ho : Bar rb wx wx') (hr : Rd wx' rb Bd p') : AS rb Bd w m la lc us p' wx' :=
  ⟨h.acc.bar1 ho (by omega), h.res.bar1 ho (by omega), h.own.bar2 ho (by omega), hr, h.bar.trans ho⟩
theorem AS.keep {rb Bd p lc : Nat} {w wx wx' : World} {m : Int} {la : Option Addr} {us : List VM} (h : AS rb Bd w m la lc us p wx) (hb : Below wx.heap.size wx wx') : AS rb Bd w m la lc us p wx' :=
  ⟨h.acc.keep hb, h.res.keep hb, h.own.keep hb, h.rd.below hb, h.bar.trans (Bar.ofBelow hb)⟩
theorem AS.cast {rb Bd p lc lc' : Nat} {w wx wx' : World} {m m' : Int} {la la' : Option Addr} {us us' : List VM} (h : AS rb Bd w m la lc us p wx) (hBd : Bd ≤ w.heap.size) (hb : Below (w.heap.size + 2) wx wx') (ho : OwnL wx' (w.heap.size + 2) (.slice la' us'.length lc') us') :
    AS rb Bd w m' la' lc' us' p ((wx'.setCell ⟨w.heap.size + 1, 0, none⟩ (.int .i64 m')).setCell ⟨w.heap.size + 1, 1, none⟩ (.slice la' us'.length lc')) := by
  have o : Only (w.heap.size + 1) wx' ((wx'.setCell ⟨w.heap.size + 1, 0, none⟩ (.int .i64 m')).setCell ⟨w.heap.size + 1, 1, none⟩ (.slice la' us'.length lc')) := ((Only.refl _ _).setCell _).setCell _
  have b2 : Bar rb w wx' := ⟨hb.os.trans h.bar.os, hb.tape.trans h.bar.tape, hb.output.trans h.bar.output, Nat.le_trans h.bar.size hb.size, fun k hk hn => by rw [hb.block k (by omega)]; exact h.bar.block k hk hn⟩
  have n1 : (Value.slice la' us'.length lc').ownBlock ≠ some (w.heap.size + 1) := fun e => by
    obtain ⟨_, h2⟩ := ho.row
    rcases h2 with ⟨hv, _⟩ | ⟨g, cap, cur, hv, hg, _⟩
    · rw [hv] at e; cases e
    · rw [hv] at e; simp only [Value.ownBlock] at e; injection e with e; omega
  have n2 : ∀ i, i < us'.length → blk1 (us'.getD i v0) ≠ some (w.heap.size + 1) ∧ blk2 (us'.getD i v0) ≠ some (w.heap.size + 1) := fun i hi =>
    ⟨fun e => by have := ((ho.one i hi).b1 _ e).1; omega, fun e => by have := ((ho.one i hi).b2 _ e).1; omega⟩
  refine ⟨(((h.acc.below hb (by omega)).set 0 _).set 1 _).eq (by simp), (h.res.below hb (by omega)).only1 o (by omega), ho.onlyOut o ⟨n1, n2⟩, ?_, ?_⟩
  · exact ((h.rd.keep hb.size fun k hk => hb.block k (by omega)).setCell (by simp only; omega) _).setCell (by simp only; omega) _
  · exact (b2.setCell (by simp only; omega) _).setCell (by simp only; omega) _

theorem AS.setM {rb Bd p lc : Nat} {w wx : World} {m : Int} {la : Option Addr} {us : List VM} (h : AS rb Bd w m la lc us p wx) (hBd : Bd ≤ w.heap.size) (m' : Int) : AS rb Bd w m' la lc us p (wx.setCell ⟨w.heap.size + 1, 0, none⟩ (.int .i64 m')) := by
  have o : Only (w.heap.size + 1) wx (wx.setCell ⟨w.heap.size + 1, 0, none⟩ (.int .i64 m')) := (Only.refl _ _).setCell _
  have n1 : (Value.slice la us.length lc).ownBlock ≠ some (w.heap.size + 1) := fun e => by
    obtain ⟨_, h2⟩ := h.own.row
    rcases h2 with ⟨hv, _⟩ | ⟨g, cap, cur, hv, hg, _⟩
    · rw [hv] at e; cases e
    · rw [hv] at e; simp only [Value.ownBlock] at e; injection e with e; omega
  have n2 : ∀ i, i < us.length → blk1 (us.getD i v0) ≠ some (w.heap.size + 1) ∧ blk2 (us.getD i v0) ≠ some (w.heap.size + 1) := fun i hi =>
    ⟨fun e => by have := ((h.own.one i hi).b1 _ e).1; omega, fun e => by have := ((h.own.one i hi).b2 _ e).1; omega⟩
  exact ⟨(h.acc.set 0 _).eq (by simp), h.res.only1 o (by omega), h.own.onlyOut o ⟨n1, n2⟩, h.rd.setCell (by simp only; omega) _, h.bar.setCell (by simp only; omega) _⟩
theorem AS.fin {rb Bd p lc : Nat} {w wx : World} {m : Int} {la : Option Addr} {us : List VM} (h : AS rb Bd w m la lc us p wx) (hBd : Bd ≤ w.heap.size) :
    (((wx.setCell ⟨w.heap.size, 0, none⟩ (.int .i64 m)).setCell ⟨w.heap.size, 1, none⟩ (.slice la us.length lc)).cell? ⟨w.heap.size, 0, none⟩ = some (.int .i64 m) ∧ ((wx.setCell ⟨w.heap.size, 0, none⟩ (.int .i64 m)).setCell ⟨w.heap.size, 1, none⟩ (.slice la us.length lc)).cell? ⟨w.heap.size, 1, none⟩ = some (.slice la us.length lc)) ∧
    OwnL ((wx.setCell ⟨w.heap.size, 0, none⟩ (.int .i64 m)).setCell ⟨w.heap.size, 1, none⟩ (.slice la us.length lc)) w.heap.size (.slice la us.length lc) us ∧ Rd ((wx.setCell ⟨w.heap.size, 0, none⟩ (.int .i64 m)).setCell ⟨w.heap.size, 1, none⟩ (.slice la us.length lc)) rb Bd p ∧ Bar rb w ((wx.setCell ⟨w.heap.size, 0, none⟩ (.int .i64 m)).setCell ⟨w.heap.size, 1, none⟩ (.slice la us.length lc)) := by
  have o : Only w.heap.size wx ((wx.setCell ⟨w.heap.size, 0, none⟩ (.int .i64 m)).setCell ⟨w.heap.size, 1, none⟩ (.slice la us.length lc)) := ((Only.refl _ _).setCell _).setCell _
  have n1 : (Value.slice la us.length lc).ownBlock ≠ some w.heap.size := fun e => by
    obtain ⟨_, h2⟩ := h.own.row
    rcases h2 with ⟨hv, _⟩ | ⟨g, cap, cur, hv, hg, _⟩
    · rw [hv] at e; cases e
    · rw [hv] at e; simp only [Value.ownBlock] at e; injection e with e; omega
  have n2 : ∀ i, i < us.length → blk1 (us.getD i v0) ≠ some w.heap.size ∧ blk2 (us.getD i v0) ≠ some w.heap.size := fun i hi =>
    ⟨fun e => by have := ((h.own.one i hi).b1 _ e).1; omega, fun e => by have := ((h.own.one i hi).b2 _ e).1; omega⟩
  have c := ((h.res.set 0 (.int .i64 m)).set 1 (.slice la us.length lc)).eq (C' := #[.int .i64 m, .slice la us.length lc]) (by simp)
  exact ⟨c.cells2, (h.own.onlyOut o ⟨n1, n2⟩).low (by omega), (h.rd.setCell (by simp only; omega) _).setCell (by simp only; omega) _, (h.bar.setCell (by simp only; omega) _).setCell (by simp only; omega) _⟩
theorem AS.app {rb Bd p lc g5 cap5 : Nat} {w v3 v5 : World} {m : Int} {la : Option Addr} {us us' : List VM} {n : Nat} (h : AS rb Bd w m la lc us p v3) (hBd : Bd ≤ w.heap.size) (K5 : Below (w.heap.size + 2) v3 v5) (hn : us'.length = n) (ho : OwnL v5 (w.heap.size + 2) (.slice (some ⟨g5, 0, none⟩) n cap5) us') :
    AS rb Bd w m (some ⟨g5, 0, none⟩) cap5 us' p (v5.setCell ⟨w.heap.size + 1, 1, none⟩ (.slice (some ⟨g5, 0, none⟩) n cap5)) := by
  subst hn
  have o : Only (w.heap.size + 1) v5 (v5.setCell ⟨w.heap.size + 1, 1, none⟩ (.slice (some ⟨g5, 0, none⟩) us'.length cap5)) := (Only.refl _ _).setCell _
  have b2 : Bar rb w v5 := ⟨K5.os.trans h.bar.os, K5.tape.trans h.bar.tape, K5.output.trans h.bar.output, Nat.le_trans h.bar.size K5.size, fun k hk hn => by rw [K5.block k (by omega)]; exact h.bar.block k hk hn⟩
  have n1 : (Value.slice (some ⟨g5, 0, none⟩) us'.length cap5).ownBlock ≠ some (w.heap.size + 1) := fun e => by have := ho.from _ e; omega
  have n2 : ∀ i, i < us'.length → blk1 (us'.getD i v0) ≠ some (w.heap.size + 1) ∧ blk2 (us'.getD i v0) ≠ some (w.heap.size + 1) := fun i hi =>
    ⟨fun e => by have := ((ho.one i hi).b1 _ e).1; omega, fun e => by have := ((ho.one i hi).b2 _ e).1; omega⟩
  exact ⟨((h.acc.below K5 (by omega)).set 1 _).eq (by simp), (h.res.below K5 (by omega)).only1 o (by omega), ho.onlyOut o ⟨n1, n2⟩, (h.rd.keep K5.size fun k hk => K5.block k (by omega)).setCell (by simp only; omega) _, b2.setCell (by simp only; omega) _⟩
theorem promTo_or (m b : Int) : promTo m b = m ∨ promTo m b = b := by
  unfold promTo
  split
  · exact .inr rfl
  · exact .inl rfl
theorem blkOf_some {a : Option Addr} {xs : List P2} {x : Addr} (h : a = some x) (hx : xs ≠ []) : blkOf a xs.length = some x.block := by
  subst h
  have : xs.length ≠ 0 := fun e => hx (List.eq_nil_of_length_eq_zero e)
  simp [blkOf, this]
theorem OneOwn.far {w w' : World} {B : Nat} {v : Value} {us : List VM} {y : VM} (ho : OwnL w B v us) (hy : OneOwn w' w.heap.size y) :
    (∀ x, y.a1 = some x → y.b.xs ≠ [] → v.ownBlock ≠ some x.block) ∧ (∀ x, y.a2 = some x → y.b.ys ≠ [] → v.ownBlock ≠ some x.block) :=
  ⟨fun x h hx e => by have h1 := ownsRow_lt8 ho.row _ e; have h2 := (hy.b1 _ (blkOf_some h hx)).1; omega,
   fun x h hx e => by have h1 := ownsRow_lt8 ho.row _ e; have h2 := (hy.b2 _ (blkOf_some h hx)).1; omega⟩
theorem castX {m bal slot : Int} {x : EB} {us : List VM} {B : Nat} {w0 w' : World} {e : Ending} (h : CastPost m bal slot x (bodies us) B w0 e w') (hl : us.length ≤ 4) (hs : Short 4 (bodies us)) (h0 : 0 ≤ slot) (h1 : slot < 4) (hx : x.xs.length ≤ 4 ∧ x.ys.length ≤ 4) :
    ∃ m' ok la lc us', e = .returned (.tuple #[.agg #[.int .i64 m', .slice la (List.length (α := VM) us') lc], .bool ok]) ∧ (m' = m ∨ m' = bal) ∧ OwnL w' B (.slice la us'.length lc) us' ∧ us'.length ≤ 4 ∧ Short 4 (bodies us') ∧ Below B w0 w' := by
  obtain ⟨lv, us', rfl, ho, hb, hw⟩ := h
  obtain ⟨la, lc, rfl⟩ := ho.form
  refine ⟨_, _, la, lc, us', rfl, ?_, ho, ?_, ?_, hw⟩
  · split
    · exact .inr rfl
    · exact .inl rfl
  · have := congrArg List.length hb
    rw [bodies_len] at this
    rw [this]
    split
    · rw [castB_len, bodies_len]; omega
    · rw [bodies_len]; exact hl
  · rw [hb]
    split
    · exact castB_short hs _ hx
    · exact hs

/-- What turned at the reader's block, ahead of all that is new. -/
theorem Bar.part {rb : Nat} {w w' : World} (h : Bar rb w w') (hr : rb < w.heap.size) : ∃ w2 : World, w2.heap.size = w.heap.size ∧ Bar rb w w2 ∧ Below w.heap.size w2 w' := by
  have hr' : rb < w'.heap.size := Nat.lt_of_lt_of_le hr h.size
  refine ⟨{ w with heap := w.heap.setIfInBounds rb w'.heap[rb] }, by simp, ⟨rfl, rfl, rfl, by simp, fun k hk hn => ?_⟩, ⟨h.os, h.tape, h.output, by simpa using h.size, fun k hk => ?_⟩⟩
  · simp only [Array.getElem?_setIfInBounds]
    rw [if_neg (fun e => hn e.symm)]
  · simp only [Array.getElem?_setIfInBounds]
    by_cases e : rb = k
    · subst e
      rw [if_pos rfl, if_pos hr]
      simp [hr']
    · rw [if_neg e]
      exact h.block k hk (fun x => e x.symm)
/-- A vote that is drawn stands behind a list: the list is of the world ahead of the draw. -/
theorem OwnL.snocBar {rb : Nat} {w0 w1 w w' : World} {B : Nat} {v v' : Value} {vs : List VM} {y : VM} (h0 : OwnL w0 B v vs) (hb : Bar rb w0 w1) (hr : rb < B) (hr0 : rb < w0.heap.size) (hw : Below w1.heap.size w1 w) (hy : OneOwn w w0.heap.size y) (hB : B ≤ w0.heap.size)
    (hrow : w'.ownsRow B 42 8 v' (vs.length + 1) (flat8 vs ++ y.cells.toList)) (hg : w.grownBy w' v.ownBlock) (hloc : ∀ g, v'.ownBlock = some g → v.ownBlock = some g ∨ g = w.heap.size) : OwnL w' B v' (vs ++ [y]) := by
  obtain ⟨w2, e, b1, b2⟩ := hb.part hr0
  refine (h0.bar2 b1 hr).snoc (w0 := w2) (w := w) ?_ (by rw [e]; exact hy) (by rw [e]; exact hB) hrow hg hloc
  rw [e]
  exact b2.trans (hw.mono hb.size)

/-- The loop's state when j rounds are left. -/
def AI (rb Bd r0 : Nat) (w : World) (j : Nat) (wr : World) : Prop := ∃ m la lc us p, AS rb Bd w m la lc us p wr ∧ us.length ≤ 4 ∧ Short 4 (bodies us) ∧ 0 ≤ m ∧ m + 3 * j ≤ 15 ∧ p + 210 * j ≤ r0 + 1 + 1050
/-- An acceptor that was drawn, the last turn made. -/
def AF (rb Bd r0 : Nat) (w wx : World) : Prop := ∃ m la lc us p, AS rb Bd w m la lc us p wx ∧ us.length ≤ 5 ∧ Short 4 (bodies us) ∧ -1 ≤ m ∧ m ≤ 3001 ∧ p ≤ r0 + 1300
/-- What l6Acc hands back. -/
def AccD (w : World) (rb Bd r0 : Nat) (e : Ending) (w' : World) : Prop := ∃ m la lc us, e = .returned (.agg #[.int .i64 m, .slice la (List.length (α := VM) us) lc]) ∧ OwnL w' w.heap.size (.slice la us.length lc) us ∧ us.length ≤ 5 ∧ Short 4 (bodies us) ∧ -1 ≤ m ∧ m ≤ 3001 ∧ (∃ p', p' ≤ r0 + 1300 ∧ Rd w' rb Bd p') ∧ Bar rb w w'
end Go.Proofs.Ytfifiobcmdmefaa.Own

namespace Go.Proofs.Ytfifiobcmdmefaa.Own
open Go.RowKit
set_option linter.unusedVariables false
set_option linter.unusedSimpArgs false

set_option maxRecDepth 100000 in
set_option maxHeartbeats 8000000 in
theorem l6Acc (rb Bd r0 : Nat) (w : World) (h : Rd w rb Bd r0) (hp : r0 ≤ 2 ^ 27) :
    Calls Try.prog 42 #[.pointer (some ⟨rb, 0, none⟩)] w fun e w' => AccD w rb Bd r0 e w' := by
  have hrb : rb < w.heap.size := Nat.lt_of_lt_of_le h.1 h.2.1
  have HBs : Hid (Bd ≤ w.heap.size) := h.2.1
  obtain ⟨W, hW⟩ : ∃ W, W = (w.alloc (.cells #[.int .i64 0, .slice none 0 0] 25)).alloc (.cells #[.int .i64 0, .slice none 0 0] 25) := ⟨_, rfl⟩
  have BW : Below w.heap.size w W := by rw [hW]; exact ((Below.refl _ _).alloc (Nat.le_refl _) _).alloc (by simp) _
  have AW : Hid (AS rb Bd w 0 none 0 [] r0 W) := by
    show AS _ _ _ _ _ _ _ _ _
    exact ⟨by rw [hW]; exact Blk.new2 _ _ _ _, by rw [hW]; exact (Blk.new _ _ _).alloc _, OwnL.nil _ _, h.below BW, Bar.ofBelow BW⟩
  have HW : Hid (W = _) := hW
  clear h hW BW
  go_enter Try.func42, Try.ntmps42
  go_upto_region 2 with fail
  rw [← HW.out]
  clear HW
  go_wp2_with fail
  refine (pick rb Bd r0 6 W AW.out.rd (by omega) (by omega) (by omega)).mono ?_
  rintro e w1 ⟨⟨c, rfl, c0, c1⟩, hR, hO⟩
  obtain ⟨n, rfl⟩ := Int.eq_ofNat_of_zero_le c0
  have I1 : Hid (AI rb Bd r0 w n w1) := ⟨0, none, 0, [], r0 + 1, AW.out.only hrb hO hR, by simp, (by rw [short_iff]; intro y hy; cases hy), by omega, by omega, by omega⟩
  clear hR hO AW
  go_wp2_with fail
  go_loopw [4, 5] (fun i b wr => ∃ j : Nat, j ≤ 5 ∧ i = .int .i64 (j : Nat) ∧ AI rb Bd r0 w j wr) (fun i _ _ => (intOf i).toNat)
  case atStart => exact ⟨n, by omega, rfl, I1.out⟩
  case round =>
    clear I1
    obtain ⟨j, hj, rfl, m, la, lc, us, p, hA, hl, hs, hm0, hm1, hp1⟩ := hrel
    have A0 : Hid (AS rb Bd w m la lc us p wr) := hA
    have L0 : Hid (us.length ≤ 4) := hl
    have S0 : Hid (Short 4 (bodies us)) := hs
    clear hA hl hs
    by_cases hlt : 0 < j
    · go_upto_region 5 with fail
      go_cut [5] from 9 to 37 (fun b wx => ∃ c : Int, b = .int .i64 (m + c) ∧ 0 ≤ c ∧ c < 4 ∧ AS rb Bd w m la lc us (p + 1) wx)
      case first =>
        obtain ⟨z0, _⟩ := A0.out.acc.cells2
        refine wp_region_held_drew (S := (fun w' : World => w'.cell? ⟨w.heap.size + 1, 0, none⟩ = some (.int .i64 m))) (by kernel_rfl) z0 (fun hHeld => ?_)
        obtain ⟨V, hV⟩ : ∃ V, V = wr.drew := ⟨_, rfl⟩
        have AV : Hid (AS rb Bd w m la lc us p V) := A0.out.keep (by rw [hV]; exact (Below.refl _ _).drew)
        rw [← hV] at hHeld ⊢
        clear hV
        refine wpAnyH_take (i := 0) (v := ?vz1) rfl (by kernel_rfl) (by kernel_rfl) (by kernel_rfl) (fun _ _ _ h => h) (Or.inl ⟨by rfl, ?yz1⟩) (by assumption) ?rz1
        case yz1 =>
          intro w' hSw
          try dsimp only at hSw
          go_simp
          try with_reducible rfl
        simp only [Act.put, List.getElem_toArray, List.getElem_cons_succ, List.getElem_cons_zero, List.setIfInBounds_toArray, List.set_cons_zero, List.set_cons_succ]
        refine wpAnyH_take (i := 1) (v := ?vz2) rfl (by kernel_rfl) (by kernel_rfl) (by kernel_rfl) (fun _ _ _ h => h) (Or.inl ⟨by rfl, ?yz2⟩) (by assumption) ?rz2
        case yz2 =>
          intro w' hSw
          try dsimp only at hSw
          go_simp
          try with_reducible rfl
        simp only [Act.put, List.getElem_toArray, List.getElem_cons_succ, List.getElem_cons_zero, List.setIfInBounds_toArray, List.set_cons_zero, List.set_cons_succ]
        refine wpAnyH_take (i := 2) (v := ?vz3) rfl (by kernel_rfl) (by kernel_rfl) (by kernel_rfl) (fun _ _ _ h => h) (Or.inl ⟨by rfl, ?yz3⟩) (by assumption) ?rz3
        case yz3 =>
          intro w' hSw
          try dsimp only at hSw
          go_simp
          try with_reducible rfl
        simp only [Act.put, List.getElem_toArray, List.getElem_cons_succ, List.getElem_cons_zero, List.setIfInBounds_toArray, List.set_cons_zero, List.set_cons_succ]
        refine wpAnyH_ready (rs := [3]) (by kernel_rfl) (by simp) ?_
        refine AllReadyH.cons rfl (fun K hK => ?_) AllReadyH.nil
        go_simp
        refine Calls.mono (pick rb Bd p 4 V AV.out.rd (by omega) (by omega) (by omega)) ?_
        rintro e w2 ⟨⟨c, rfl, c0, c1⟩, hR, hO⟩
        have A2 : Hid (AS rb Bd w m la lc us (p + 1) w2) := AV.out.only hrb hO hR
        refine hK.out _ _ A2.out.acc.cells2.1 (fun hH1 => ?_)
        clear hK K hR hO
        refine wpAnyH_take (i := 4) (v := ?vz4) rfl (by kernel_rfl) (by kernel_rfl) (by kernel_rfl) (fun _ _ _ h => h) (Or.inl ⟨by rfl, ?yz4⟩) (by assumption) ?rz4
        case yz4 =>
          intro w' hSw
          try dsimp only at hSw
          go_simp
          try with_reducible rfl
        simp only [Act.put, List.getElem_toArray, List.getElem_cons_succ, List.getElem_cons_zero, List.setIfInBounds_toArray, List.set_cons_zero, List.set_cons_succ]
        refine wpAnyH_take (i := 5) (v := ?vz5) rfl (by kernel_rfl) (by kernel_rfl) (by kernel_rfl) (fun _ _ _ h => h) (Or.inl ⟨by rfl, ?yz5⟩) (by assumption) ?rz5
        case yz5 =>
          intro w' hSw
          try dsimp only at hSw
          go_simp
          try with_reducible rfl
        simp only [Act.put, List.getElem_toArray, List.getElem_cons_succ, List.getElem_cons_zero, List.setIfInBounds_toArray, List.set_cons_zero, List.set_cons_succ]
        refine wpAnyH_done (by kernel_rfl) ?_ _
        go_wp2_with fail
        go_meet
        exact ⟨c, by rw [IntKind.wrap_i64 (m + c)]; congr 1; omega, c0, c1, A2.out⟩
      case rest =>
        clear A0
        obtain ⟨c, rfl, c0, c1, hA⟩ := hcut
        have A2 : Hid (AS rb Bd w m la lc us (p + 1) wc) := hA
        clear hA
        go_wp2_with fail
        refine (pick rb Bd (p + 1) 3 wc A2.out.rd (by omega) (by omega) (by omega)).mono ?_
        rintro e w3 ⟨⟨d, rfl, d0, d1⟩, hR, hO⟩
        have A3 : Hid (AS rb Bd w m la lc us (p + 1 + 1) w3) := A2.out.only hrb hO hR
        clear hR hO A2
        cases td : (d == 0) with
        | true =>
          obtain ⟨z0, z1⟩ := A3.out.acc.cells2
          go_wp2_with fail
          refine (l6Promise m la us.length lc (m + c) w3).mono ?_
          rintro e w4 ⟨rfl, hb⟩
          have hm' := promTo_or m (m + c)
          have R4 : Hid (AI rb Bd r0 w (j - 1) ((w4.setCell ⟨w.heap.size + 1, 0, none⟩ (.int .i64 (promTo m (m + c)))).setCell ⟨w.heap.size + 1, 1, none⟩ (.slice la us.length lc))) := ⟨promTo m (m + c), la, lc, us, p + 1 + 1, A3.out.cast HBs.out (hb.mono (by have := A3.out.acc.lt; omega)) (A3.out.own.keep hb), L0.out, S0.out, by omega, by omega, by omega⟩
          obtain ⟨e0, e1⟩ := (A3.out.acc.keep hb).cells2
          have fr := (A3.out.acc.keep hb).frozen
          clear hm' hb z0 z1 A3
          go_wp2_with fail
          go_roundw
          case rel => exact ⟨j - 1, by omega, by go_num, R4.out⟩
          case measure => simp [intOf]; omega
        | false =>
          go_upto_region 8 with fail
          · refine wp_region_held_drew (S := (fun w' : World => True)) (by kernel_rfl) trivial (fun hHeld => ?_)
            obtain ⟨v0, hV⟩ : ∃ V, V = w3.drew := ⟨_, rfl⟩
            obtain ⟨q, hq⟩ : ∃ q, q = p + 1 + 1 := ⟨_, rfl⟩
            have Y0 : Hid (AS rb Bd w m la lc us q v0) := by show AS _ _ _ _ _ _ _ _ _; rw [hq]; exact A3.out.keep (by rw [hV]; exact (Below.refl _ _).drew)
            rw [← hV]
            clear hV A3
            refine wpAnyH_take (i := 1) (v := ?vz6) rfl (by kernel_rfl) (by kernel_rfl) (by kernel_rfl) (fun _ _ _ h => h) (Or.inl ⟨by rfl, ?yz6⟩) (by assumption) ?rz6
            case yz6 =>
              intro w' hSw
              try dsimp only at hSw
              go_simp
              try with_reducible rfl
            simp only [Act.put, List.getElem_toArray, List.getElem_cons_succ, List.getElem_cons_zero, List.setIfInBounds_toArray, List.set_cons_zero, List.set_cons_succ]
            refine wpAnyH_take (i := 2) (v := ?vz7) rfl (by kernel_rfl) (by kernel_rfl) (by kernel_rfl) (fun _ _ _ h => h) (Or.inl ⟨by rfl, ?yz7⟩) (by assumption) ?rz7
            case yz7 =>
              intro w' hSw
              try dsimp only at hSw
              go_simp
              try with_reducible rfl
            simp only [Act.put, List.getElem_toArray, List.getElem_cons_succ, List.getElem_cons_zero, List.setIfInBounds_toArray, List.set_cons_zero, List.set_cons_succ]
            refine wpAnyH_take (i := 4) (v := ?vz8) rfl (by kernel_rfl) (by kernel_rfl) (by kernel_rfl) (fun _ _ _ h => h) (Or.inl ⟨by rfl, ?yz8⟩) (by assumption) ?rz8
            case yz8 =>
              intro w' hSw
              try dsimp only at hSw
              go_simp
              try with_reducible rfl
            simp only [Act.put, List.getElem_toArray, List.getElem_cons_succ, List.getElem_cons_zero, List.setIfInBounds_toArray, List.set_cons_zero, List.set_cons_succ]
            refine wpAnyH_ready (rs := [0, 3]) (by kernel_rfl) (by simp) ?_
            refine AllReadyH.cons rfl (fun K hK => ?_) (AllReadyH.cons rfl (fun K hK => ?_) AllReadyH.nil)
            · skip
              obtain ⟨a0, a1⟩ := Y0.out.acc.cells2
              go_simp
              refine hK.out _ _ trivial (fun hH => ?_)
              clear hK K a0 a1
              refine wpAnyH_ready (rs := [3]) (by kernel_rfl) (by simp) ?_
              refine AllReadyH.cons rfl (fun K hK => ?_) AllReadyH.nil
              go_simp
              refine Calls.mono (pick rb Bd q 4 v0 Y0.out.rd (by omega) (by omega) (by omega)) ?_
              rintro e v1 ⟨⟨s, rfl, s0, s1⟩, hR, hO⟩
              have Y1 : Hid (AS rb Bd w m la lc us (q + 1) v1) := Y0.out.only hrb hO hR
              clear hR hO Y0
              refine hK.out _ _ trivial (fun hH => ?_)
              clear hK K
              refine wpAnyH_ready (rs := [5]) (by kernel_rfl) (by simp) ?_
              refine AllReadyH.cons rfl (fun K hK => ?_) AllReadyH.nil
              go_simp
              refine Calls.mono (specOpen v1) ?_
              rintro e v2 ⟨rfl, hw⟩
              have X2 : Hid (Sl v2 (some ⟨v1.heap.size, 0, none⟩) zero4 ∧ v1.heap.size ≠ rb) := ⟨.inr ⟨_, 0, rfl, zeros_at (by rw [hw]; exact heap_new _ _)⟩, by have := Y1.out.bar.size; omega⟩
              have Y2 : Hid (AS rb Bd w m la lc us (q + 1) v2) := Y1.out.keep (by rw [hw]; exact below_new _ _)
              clear hw Y1
              refine hK.out _ _ trivial (fun hH => ?_)
              clear hK K
              refine wpAnyH_ready (rs := [6]) (by kernel_rfl) (by simp) ?_
              refine AllReadyH.cons rfl (fun K hK => ?_) AllReadyH.nil
              go_simp
              refine Calls.mono (l5Any rb Bd (q + 1) (some ⟨v1.heap.size, 0, none⟩) 4 zero4 v2 Y2.out.rd (by omega) X2.out.1 (fun x hx _ => by injection hx with hx; rw [← hx]; exact X2.out.2) (by decide)) ?_
              rintro e v3 ⟨y, rfl, ⟨hy, y1, y2⟩, ⟨q', hq', hR⟩, hB⟩
              have L3 : Hid (y.b.xs.length ≤ 4 ∧ y.b.ys.length ≤ 4) := ⟨y1, y2⟩
              have Y3 : Hid (AS rb Bd w m la lc us q' v3) := Y2.out.bar' hrb hB hR
              have O3 : Hid (OneOwn v3 v2.heap.size y) := hy
              have F3 : Hid (_ ∧ _) := OneOwn.far Y2.out.own hy
              have G3 : Hid (w.heap.size + 2 ≤ v3.heap.size) := by have := Y2.out.acc.lt; have := hB.size; show _ ≤ _; omega
              clear hR hB hy y1 y2 Y2 X2
              refine hK.out _ _ trivial (fun hH => ?_)
              clear hK K
              refine wpAnyH_ready (rs := [7]) (by kernel_rfl) (by simp) ?_
              refine AllReadyH.cons rfl (fun K hK => ?_) AllReadyH.nil
              go_simp
              refine Calls.mono (l6Cast m la lc us (m + c) s y.b.n y.b.p y.b.q y.a1 y.a2 y.c1 y.c2 y.b.xs y.b.ys y.b.v y.b.k (w.heap.size + 2) v3 Y3.out.own G3.out (by have := L0.out; omega) O3.out.l1.sl O3.out.l2.sl (by have := L3.out; omega) (by have := L3.out; omega) O3.out.c1 O3.out.c2 F3.out.1 F3.out.2) ?_
              rintro e v4 hc
              obtain ⟨m', ok, la', lc', us', rfl, hm', ho, hl', hs', hB⟩ := castX hc L0.out S0.out s0 s1 L3.out
              clear hc
              have R4 : Hid (AI rb Bd r0 w (j - 1) ((v4.setCell ⟨w.heap.size + 1, 0, none⟩ (.int .i64 m')).setCell ⟨w.heap.size + 1, 1, none⟩ (.slice la' us'.length lc'))) := ⟨m', la', lc', us', q', Y3.out.cast HBs.out hB ho, hl', hs', by rcases hm' with rfl | rfl <;> omega, by rcases hm' with rfl | rfl <;> omega, by omega⟩
              obtain ⟨a0, a1⟩ := (Y3.out.acc.below hB (by omega)).cells2
              have fr := (Y3.out.acc.below hB (by omega)).frozen
              clear hB ho Y3 O3 F3 G3 L3
              refine hK.out _ _ trivial (fun hH => ?_)
              clear hK K
              refine wpAnyH_take (i := 8) (v := ?vz9) rfl (by kernel_rfl) (by kernel_rfl) (by kernel_rfl) (fun _ _ _ h => h) (Or.inl ⟨by rfl, ?yz9⟩) (by assumption) ?rz9
              case yz9 =>
                intro w' hSw
                try dsimp only at hSw
                go_simp
                try with_reducible rfl
              simp only [Act.put, List.getElem_toArray, List.getElem_cons_succ, List.getElem_cons_zero, List.setIfInBounds_toArray, List.set_cons_zero, List.set_cons_succ]
              refine wpAnyH_take (i := 9) (v := ?vz10) rfl (by kernel_rfl) (by kernel_rfl) (by kernel_rfl) (fun _ _ _ h => h) (Or.inl ⟨by rfl, ?yz10⟩) (by assumption) ?rz10
              case yz10 =>
                intro w' hSw
                try dsimp only at hSw
                go_simp
                try with_reducible rfl
              simp only [Act.put, List.getElem_toArray, List.getElem_cons_succ, List.getElem_cons_zero, List.setIfInBounds_toArray, List.set_cons_zero, List.set_cons_succ]
              refine wpAnyH_take (i := 10) (v := ?vz11) rfl (by kernel_rfl) (by kernel_rfl) (by kernel_rfl) (fun _ _ _ h => h) (Or.inl ⟨by rfl, ?yz11⟩) (by assumption) ?rz11
              case yz11 =>
                intro w' hSw
                try dsimp only at hSw
                go_simp
                try with_reducible rfl
              simp only [Act.put, List.getElem_toArray, List.getElem_cons_succ, List.getElem_cons_zero, List.setIfInBounds_toArray, List.set_cons_zero, List.set_cons_succ]
              refine wpAnyH_ready (rs := [11]) (by kernel_rfl) (by simp) ?_
              refine AllReadyH.cons rfl (fun K hK => ?_) AllReadyH.nil
              go_simp
              refine hK.out _ _ trivial (fun hH => ?_)
              refine wpAnyH_done (by kernel_rfl) ?_ _
              go_wp2_with fail
              go_roundw
              case rel => exact ⟨j - 1, by omega, by go_num, R4.out⟩
              case measure => simp [intOf]; omega
            · skip
              go_simp
              refine Calls.mono (pick rb Bd q 4 v0 Y0.out.rd (by omega) (by omega) (by omega)) ?_
              rintro e v1 ⟨⟨s, rfl, s0, s1⟩, hR, hO⟩
              have Y1 : Hid (AS rb Bd w m la lc us (q + 1) v1) := Y0.out.only hrb hO hR
              clear hR hO Y0
              refine hK.out _ _ trivial (fun hH => ?_)
              clear hK K
              refine wpAnyH_ready (rs := [0, 5]) (by kernel_rfl) (by simp) ?_
              refine AllReadyH.cons rfl (fun K hK => ?_) (AllReadyH.cons rfl (fun K hK => ?_) AllReadyH.nil)
              · skip
                obtain ⟨a0, a1⟩ := Y1.out.acc.cells2
                go_simp
                refine hK.out _ _ trivial (fun hH => ?_)
                clear hK K a0 a1
                refine wpAnyH_ready (rs := [5]) (by kernel_rfl) (by simp) ?_
                refine AllReadyH.cons rfl (fun K hK => ?_) AllReadyH.nil
                go_simp
                refine Calls.mono (specOpen v1) ?_
                rintro e v2 ⟨rfl, hw⟩
                have X2 : Hid (Sl v2 (some ⟨v1.heap.size, 0, none⟩) zero4 ∧ v1.heap.size ≠ rb) := ⟨.inr ⟨_, 0, rfl, zeros_at (by rw [hw]; exact heap_new _ _)⟩, by have := Y1.out.bar.size; omega⟩
                have Y2 : Hid (AS rb Bd w m la lc us (q + 1) v2) := Y1.out.keep (by rw [hw]; exact below_new _ _)
                clear hw Y1
                refine hK.out _ _ trivial (fun hH => ?_)
                clear hK K
                refine wpAnyH_ready (rs := [6]) (by kernel_rfl) (by simp) ?_
                refine AllReadyH.cons rfl (fun K hK => ?_) AllReadyH.nil
                go_simp
                refine Calls.mono (l5Any rb Bd (q + 1) (some ⟨v1.heap.size, 0, none⟩) 4 zero4 v2 Y2.out.rd (by omega) X2.out.1 (fun x hx _ => by injection hx with hx; rw [← hx]; exact X2.out.2) (by decide)) ?_
                rintro e v3 ⟨y, rfl, ⟨hy, y1, y2⟩, ⟨q', hq', hR⟩, hB⟩
                have L3 : Hid (y.b.xs.length ≤ 4 ∧ y.b.ys.length ≤ 4) := ⟨y1, y2⟩
                have Y3 : Hid (AS rb Bd w m la lc us q' v3) := Y2.out.bar' hrb hB hR
                have O3 : Hid (OneOwn v3 v2.heap.size y) := hy
                have F3 : Hid (_ ∧ _) := OneOwn.far Y2.out.own hy
                have G3 : Hid (w.heap.size + 2 ≤ v3.heap.size) := by have := Y2.out.acc.lt; have := hB.size; show _ ≤ _; omega
                clear hR hB hy y1 y2 Y2 X2
                refine hK.out _ _ trivial (fun hH => ?_)
                clear hK K
                refine wpAnyH_ready (rs := [7]) (by kernel_rfl) (by simp) ?_
                refine AllReadyH.cons rfl (fun K hK => ?_) AllReadyH.nil
                go_simp
                refine Calls.mono (l6Cast m la lc us (m + c) s y.b.n y.b.p y.b.q y.a1 y.a2 y.c1 y.c2 y.b.xs y.b.ys y.b.v y.b.k (w.heap.size + 2) v3 Y3.out.own G3.out (by have := L0.out; omega) O3.out.l1.sl O3.out.l2.sl (by have := L3.out; omega) (by have := L3.out; omega) O3.out.c1 O3.out.c2 F3.out.1 F3.out.2) ?_
                rintro e v4 hc
                obtain ⟨m', ok, la', lc', us', rfl, hm', ho, hl', hs', hB⟩ := castX hc L0.out S0.out s0 s1 L3.out
                clear hc
                have R4 : Hid (AI rb Bd r0 w (j - 1) ((v4.setCell ⟨w.heap.size + 1, 0, none⟩ (.int .i64 m')).setCell ⟨w.heap.size + 1, 1, none⟩ (.slice la' us'.length lc'))) := ⟨m', la', lc', us', q', Y3.out.cast HBs.out hB ho, hl', hs', by rcases hm' with rfl | rfl <;> omega, by rcases hm' with rfl | rfl <;> omega, by omega⟩
                obtain ⟨a0, a1⟩ := (Y3.out.acc.below hB (by omega)).cells2
                have fr := (Y3.out.acc.below hB (by omega)).frozen
                clear hB ho Y3 O3 F3 G3 L3
                refine hK.out _ _ trivial (fun hH => ?_)
                clear hK K
                refine wpAnyH_take (i := 8) (v := ?vz12) rfl (by kernel_rfl) (by kernel_rfl) (by kernel_rfl) (fun _ _ _ h => h) (Or.inl ⟨by rfl, ?yz12⟩) (by assumption) ?rz12
                case yz12 =>
                  intro w' hSw
                  try dsimp only at hSw
                  go_simp
                  try with_reducible rfl
                simp only [Act.put, List.getElem_toArray, List.getElem_cons_succ, List.getElem_cons_zero, List.setIfInBounds_toArray, List.set_cons_zero, List.set_cons_succ]
                refine wpAnyH_take (i := 9) (v := ?vz13) rfl (by kernel_rfl) (by kernel_rfl) (by kernel_rfl) (fun _ _ _ h => h) (Or.inl ⟨by rfl, ?yz13⟩) (by assumption) ?rz13
                case yz13 =>
                  intro w' hSw
                  try dsimp only at hSw
                  go_simp
                  try with_reducible rfl
                simp only [Act.put, List.getElem_toArray, List.getElem_cons_succ, List.getElem_cons_zero, List.setIfInBounds_toArray, List.set_cons_zero, List.set_cons_succ]
                refine wpAnyH_take (i := 10) (v := ?vz14) rfl (by kernel_rfl) (by kernel_rfl) (by kernel_rfl) (fun _ _ _ h => h) (Or.inl ⟨by rfl, ?yz14⟩) (by assumption) ?rz14
                case yz14 =>
                  intro w' hSw
                  try dsimp only at hSw
                  go_simp
                  try with_reducible rfl
                simp only [Act.put, List.getElem_toArray, List.getElem_cons_succ, List.getElem_cons_zero, List.setIfInBounds_toArray, List.set_cons_zero, List.set_cons_succ]
                refine wpAnyH_ready (rs := [11]) (by kernel_rfl) (by simp) ?_
                refine AllReadyH.cons rfl (fun K hK => ?_) AllReadyH.nil
                go_simp
                refine hK.out _ _ trivial (fun hH => ?_)
                refine wpAnyH_done (by kernel_rfl) ?_ _
                go_wp2_with fail
                go_roundw
                case rel => exact ⟨j - 1, by omega, by go_num, R4.out⟩
                case measure => simp [intOf]; omega
              · skip
                go_simp
                refine Calls.mono (specOpen v1) ?_
                rintro e v2 ⟨rfl, hw⟩
                have X2 : Hid (Sl v2 (some ⟨v1.heap.size, 0, none⟩) zero4 ∧ v1.heap.size ≠ rb) := ⟨.inr ⟨_, 0, rfl, zeros_at (by rw [hw]; exact heap_new _ _)⟩, by have := Y1.out.bar.size; omega⟩
                have Y2 : Hid (AS rb Bd w m la lc us (q + 1) v2) := Y1.out.keep (by rw [hw]; exact below_new _ _)
                clear hw Y1
                refine hK.out _ _ trivial (fun hH => ?_)
                clear hK K
                refine wpAnyH_ready (rs := [0, 6]) (by kernel_rfl) (by simp) ?_
                refine AllReadyH.cons rfl (fun K hK => ?_) (AllReadyH.cons rfl (fun K hK => ?_) AllReadyH.nil)
                · skip
                  obtain ⟨a0, a1⟩ := Y2.out.acc.cells2
                  go_simp
                  refine hK.out _ _ trivial (fun hH => ?_)
                  clear hK K a0 a1
                  refine wpAnyH_ready (rs := [6]) (by kernel_rfl) (by simp) ?_
                  refine AllReadyH.cons rfl (fun K hK => ?_) AllReadyH.nil
                  go_simp
                  refine Calls.mono (l5Any rb Bd (q + 1) (some ⟨v1.heap.size, 0, none⟩) 4 zero4 v2 Y2.out.rd (by omega) X2.out.1 (fun x hx _ => by injection hx with hx; rw [← hx]; exact X2.out.2) (by decide)) ?_
                  rintro e v3 ⟨y, rfl, ⟨hy, y1, y2⟩, ⟨q', hq', hR⟩, hB⟩
                  have L3 : Hid (y.b.xs.length ≤ 4 ∧ y.b.ys.length ≤ 4) := ⟨y1, y2⟩
                  have Y3 : Hid (AS rb Bd w m la lc us q' v3) := Y2.out.bar' hrb hB hR
                  have O3 : Hid (OneOwn v3 v2.heap.size y) := hy
                  have F3 : Hid (_ ∧ _) := OneOwn.far Y2.out.own hy
                  have G3 : Hid (w.heap.size + 2 ≤ v3.heap.size) := by have := Y2.out.acc.lt; have := hB.size; show _ ≤ _; omega
                  clear hR hB hy y1 y2 Y2 X2
                  refine hK.out _ _ trivial (fun hH => ?_)
                  clear hK K
                  refine wpAnyH_ready (rs := [7]) (by kernel_rfl) (by simp) ?_
                  refine AllReadyH.cons rfl (fun K hK => ?_) AllReadyH.nil
                  go_simp
                  refine Calls.mono (l6Cast m la lc us (m + c) s y.b.n y.b.p y.b.q y.a1 y.a2 y.c1 y.c2 y.b.xs y.b.ys y.b.v y.b.k (w.heap.size + 2) v3 Y3.out.own G3.out (by have := L0.out; omega) O3.out.l1.sl O3.out.l2.sl (by have := L3.out; omega) (by have := L3.out; omega) O3.out.c1 O3.out.c2 F3.out.1 F3.out.2) ?_
                  rintro e v4 hc
                  obtain ⟨m', ok, la', lc', us', rfl, hm', ho, hl', hs', hB⟩ := castX hc L0.out S0.out s0 s1 L3.out
                  clear hc
                  have R4 : Hid (AI rb Bd r0 w (j - 1) ((v4.setCell ⟨w.heap.size + 1, 0, none⟩ (.int .i64 m')).setCell ⟨w.heap.size + 1, 1, none⟩ (.slice la' us'.length lc'))) := ⟨m', la', lc', us', q', Y3.out.cast HBs.out hB ho, hl', hs', by rcases hm' with rfl | rfl <;> omega, by rcases hm' with rfl | rfl <;> omega, by omega⟩
                  obtain ⟨a0, a1⟩ := (Y3.out.acc.below hB (by omega)).cells2
                  have fr := (Y3.out.acc.below hB (by omega)).frozen
                  clear hB ho Y3 O3 F3 G3 L3
                  refine hK.out _ _ trivial (fun hH => ?_)
                  clear hK K
                  refine wpAnyH_take (i := 8) (v := ?vz15) rfl (by kernel_rfl) (by kernel_rfl) (by kernel_rfl) (fun _ _ _ h => h) (Or.inl ⟨by rfl, ?yz15⟩) (by assumption) ?rz15
                  case yz15 =>
                    intro w' hSw
                    try dsimp only at hSw
                    go_simp
                    try with_reducible rfl
                  simp only [Act.put, List.getElem_toArray, List.getElem_cons_succ, List.getElem_cons_zero, List.setIfInBounds_toArray, List.set_cons_zero, List.set_cons_succ]
                  refine wpAnyH_take (i := 9) (v := ?vz16) rfl (by kernel_rfl) (by kernel_rfl) (by kernel_rfl) (fun _ _ _ h => h) (Or.inl ⟨by rfl, ?yz16⟩) (by assumption) ?rz16
                  case yz16 =>
                    intro w' hSw
                    try dsimp only at hSw
                    go_simp
                    try with_reducible rfl
                  simp only [Act.put, List.getElem_toArray, List.getElem_cons_succ, List.getElem_cons_zero, List.setIfInBounds_toArray, List.set_cons_zero, List.set_cons_succ]
                  refine wpAnyH_take (i := 10) (v := ?vz17) rfl (by kernel_rfl) (by kernel_rfl) (by kernel_rfl) (fun _ _ _ h => h) (Or.inl ⟨by rfl, ?yz17⟩) (by assumption) ?rz17
                  case yz17 =>
                    intro w' hSw
                    try dsimp only at hSw
                    go_simp
                    try with_reducible rfl
                  simp only [Act.put, List.getElem_toArray, List.getElem_cons_succ, List.getElem_cons_zero, List.setIfInBounds_toArray, List.set_cons_zero, List.set_cons_succ]
                  refine wpAnyH_ready (rs := [11]) (by kernel_rfl) (by simp) ?_
                  refine AllReadyH.cons rfl (fun K hK => ?_) AllReadyH.nil
                  go_simp
                  refine hK.out _ _ trivial (fun hH => ?_)
                  refine wpAnyH_done (by kernel_rfl) ?_ _
                  go_wp2_with fail
                  go_roundw
                  case rel => exact ⟨j - 1, by omega, by go_num, R4.out⟩
                  case measure => simp [intOf]; omega
                · skip
                  go_simp
                  refine Calls.mono (l5Any rb Bd (q + 1) (some ⟨v1.heap.size, 0, none⟩) 4 zero4 v2 Y2.out.rd (by omega) X2.out.1 (fun x hx _ => by injection hx with hx; rw [← hx]; exact X2.out.2) (by decide)) ?_
                  rintro e v3 ⟨y, rfl, ⟨hy, y1, y2⟩, ⟨q', hq', hR⟩, hB⟩
                  have L3 : Hid (y.b.xs.length ≤ 4 ∧ y.b.ys.length ≤ 4) := ⟨y1, y2⟩
                  have Y3 : Hid (AS rb Bd w m la lc us q' v3) := Y2.out.bar' hrb hB hR
                  have O3 : Hid (OneOwn v3 v2.heap.size y) := hy
                  have F3 : Hid (_ ∧ _) := OneOwn.far Y2.out.own hy
                  have G3 : Hid (w.heap.size + 2 ≤ v3.heap.size) := by have := Y2.out.acc.lt; have := hB.size; show _ ≤ _; omega
                  clear hR hB hy y1 y2 Y2 X2
                  refine hK.out _ _ trivial (fun hH => ?_)
                  clear hK K
                  refine wpAnyH_ready (rs := [0]) (by kernel_rfl) (by simp) ?_
                  refine AllReadyH.cons rfl (fun K hK => ?_) AllReadyH.nil
                  obtain ⟨a0, a1⟩ := Y3.out.acc.cells2
                  go_simp
                  refine hK.out _ _ trivial (fun hH => ?_)
                  clear hK K a0 a1
                  refine wpAnyH_ready (rs := [7]) (by kernel_rfl) (by simp) ?_
                  refine AllReadyH.cons rfl (fun K hK => ?_) AllReadyH.nil
                  go_simp
                  refine Calls.mono (l6Cast m la lc us (m + c) s y.b.n y.b.p y.b.q y.a1 y.a2 y.c1 y.c2 y.b.xs y.b.ys y.b.v y.b.k (w.heap.size + 2) v3 Y3.out.own G3.out (by have := L0.out; omega) O3.out.l1.sl O3.out.l2.sl (by have := L3.out; omega) (by have := L3.out; omega) O3.out.c1 O3.out.c2 F3.out.1 F3.out.2) ?_
                  rintro e v4 hc
                  obtain ⟨m', ok, la', lc', us', rfl, hm', ho, hl', hs', hB⟩ := castX hc L0.out S0.out s0 s1 L3.out
                  clear hc
                  have R4 : Hid (AI rb Bd r0 w (j - 1) ((v4.setCell ⟨w.heap.size + 1, 0, none⟩ (.int .i64 m')).setCell ⟨w.heap.size + 1, 1, none⟩ (.slice la' us'.length lc'))) := ⟨m', la', lc', us', q', Y3.out.cast HBs.out hB ho, hl', hs', by rcases hm' with rfl | rfl <;> omega, by rcases hm' with rfl | rfl <;> omega, by omega⟩
                  obtain ⟨a0, a1⟩ := (Y3.out.acc.below hB (by omega)).cells2
                  have fr := (Y3.out.acc.below hB (by omega)).frozen
                  clear hB ho Y3 O3 F3 G3 L3
                  refine hK.out _ _ trivial (fun hH => ?_)
                  clear hK K
                  refine wpAnyH_take (i := 8) (v := ?vz18) rfl (by kernel_rfl) (by kernel_rfl) (by kernel_rfl) (fun _ _ _ h => h) (Or.inl ⟨by rfl, ?yz18⟩) (by assumption) ?rz18
                  case yz18 =>
                    intro w' hSw
                    try dsimp only at hSw
                    go_simp
                    try with_reducible rfl
                  simp only [Act.put, List.getElem_toArray, List.getElem_cons_succ, List.getElem_cons_zero, List.setIfInBounds_toArray, List.set_cons_zero, List.set_cons_succ]
                  refine wpAnyH_take (i := 9) (v := ?vz19) rfl (by kernel_rfl) (by kernel_rfl) (by kernel_rfl) (fun _ _ _ h => h) (Or.inl ⟨by rfl, ?yz19⟩) (by assumption) ?rz19
                  case yz19 =>
                    intro w' hSw
                    try dsimp only at hSw
                    go_simp
                    try with_reducible rfl
                  simp only [Act.put, List.getElem_toArray, List.getElem_cons_succ, List.getElem_cons_zero, List.setIfInBounds_toArray, List.set_cons_zero, List.set_cons_succ]
                  refine wpAnyH_take (i := 10) (v := ?vz20) rfl (by kernel_rfl) (by kernel_rfl) (by kernel_rfl) (fun _ _ _ h => h) (Or.inl ⟨by rfl, ?yz20⟩) (by assumption) ?rz20
                  case yz20 =>
                    intro w' hSw
                    try dsimp only at hSw
                    go_simp
                    try with_reducible rfl
                  simp only [Act.put, List.getElem_toArray, List.getElem_cons_succ, List.getElem_cons_zero, List.setIfInBounds_toArray, List.set_cons_zero, List.set_cons_succ]
                  refine wpAnyH_ready (rs := [11]) (by kernel_rfl) (by simp) ?_
                  refine AllReadyH.cons rfl (fun K hK => ?_) AllReadyH.nil
                  go_simp
                  refine hK.out _ _ trivial (fun hH => ?_)
                  refine wpAnyH_done (by kernel_rfl) ?_ _
                  go_wp2_with fail
                  go_roundw
                  case rel => exact ⟨j - 1, by omega, by go_num, R4.out⟩
                  case measure => simp [intOf]; omega
    · have hj0 : j = 0 := by omega
      subst hj0
      go_wp2_with fail
      refine (pick rb Bd p 40 wr A0.out.rd (by omega) (by omega) (by omega)).mono ?_
      rintro e w2 ⟨⟨d, rfl, d0, d1⟩, hR, hO⟩
      have A2 : Hid (AS rb Bd w m la lc us (p + 1) w2) := A0.out.only hrb hO hR
      clear hR hO A0
      go_upto_block 2 with fail
      go_cut [] from 40 to 61 (fun wx => AF rb Bd r0 w wx)
      case first =>
        cases t0 : (d == 0) with
        | true =>
          go_wp2_with fail
          refine (num rb Bd (p + 1) w2.heap.size 3 3 [-1, 3001, 0] _ (A2.out.rd.alloc _) (by omega) (nums_newQ _ _ _ _ rfl) rfl (by omega) (by omega) (by have := A2.out.bar.size; omega)).mono ?_
          rintro e w3 ⟨⟨c4, rfl, hc⟩, hR, hO⟩
          have A3 : Hid (AS rb Bd w m la lc us (p + 1 + 1) w3) := (A2.out.keep (below_new _ _)).only hrb hO hR
          have C4 : Hid (-1 ≤ c4 ∧ c4 ≤ 3001) := by show _ ∧ _; simp at hc; omega
          clear hR hO A2 hc
          obtain ⟨z0, z1⟩ := A3.out.acc.cells2
          have fr := A3.out.acc.frozen
          go_wp2_with fail
          go_meet
          exact ⟨c4, la, lc, us, p + 1 + 1, A3.out.setM HBs.out c4, by have := L0.out; omega, S0.out, C4.out.1, C4.out.2, by omega⟩
        | false =>
          cases t1 : (d == 1) with
          | true =>
            obtain ⟨i0, hi, hz0, hz1, hz2⟩ := info_parts infoVoteC
            have I0 : Hid (Try.prog.info? 42 = some i0 ∧ i0.zero = some (.agg #[.int .i64 0, .bool false, .int .i64 0, .int .i64 0, .slice none 0 0, .slice none 0 0, .int .i64 0, .int .i64 0]) ∧ i0.size = 8 ∧ i0.bytes = 96) := ⟨hi, hz0, hz1, hz2⟩
            clear hi hz0 hz1 hz2
            go_upto_region 13 with fail
            refine wp_region_held_drew (S := (fun w' : World => True)) (by kernel_rfl) trivial (fun hHeld => ?_)
            obtain ⟨v0, hV⟩ : ∃ V, V = w2.drew := ⟨_, rfl⟩
            obtain ⟨q, hq⟩ : ∃ q, q = p + 1 := ⟨_, rfl⟩
            have Y0 : Hid (AS rb Bd w m la lc us q v0) := by show AS _ _ _ _ _ _ _ _ _; rw [hq]; exact A2.out.keep (by rw [hV]; exact (Below.refl _ _).drew)
            rw [← hV]
            clear hV A2
            refine wpAnyH_take (i := 0) (v := ?vz21) rfl (by kernel_rfl) (by kernel_rfl) (by kernel_rfl) (fun _ _ _ h => h) (Or.inl ⟨by rfl, ?yz21⟩) (by assumption) ?rz21
            case yz21 =>
              intro w' hSw
              try dsimp only at hSw
              go_simp
              try with_reducible rfl
            simp only [Act.put, List.getElem_toArray, List.getElem_cons_succ, List.getElem_cons_zero, List.setIfInBounds_toArray, List.set_cons_zero, List.set_cons_succ]
            refine wpAnyH_take (i := 2) (v := ?vz22) rfl (by kernel_rfl) (by kernel_rfl) (by kernel_rfl) (fun _ _ _ h => h) (Or.inl ⟨by rfl, ?yz22⟩) (by assumption) ?rz22
            case yz22 =>
              intro w' hSw
              try dsimp only at hSw
              go_simp
              try with_reducible rfl
            simp only [Act.put, List.getElem_toArray, List.getElem_cons_succ, List.getElem_cons_zero, List.setIfInBounds_toArray, List.set_cons_zero, List.set_cons_succ]
            refine wpAnyH_take (i := 4) (v := ?vz23) rfl (by kernel_rfl) (by kernel_rfl) (by kernel_rfl) (fun _ _ _ h => h) (Or.inl ⟨by rfl, ?yz23⟩) (by assumption) ?rz23
            case yz23 =>
              intro w' hSw
              try dsimp only at hSw
              go_simp
              try with_reducible rfl
            simp only [Act.put, List.getElem_toArray, List.getElem_cons_succ, List.getElem_cons_zero, List.setIfInBounds_toArray, List.set_cons_zero, List.set_cons_succ]
            refine wpAnyH_ready (rs := [1, 3]) (by kernel_rfl) (by simp) ?_
            refine AllReadyH.cons rfl (fun K hK => ?_) (AllReadyH.cons rfl (fun K hK => ?_) AllReadyH.nil)
            · skip
              obtain ⟨a0, a1⟩ := Y0.out.acc.cells2
              go_simp
              refine hK.out _ _ trivial (fun hH => ?_)
              clear hK K a0 a1
              refine wpAnyH_ready (rs := [3]) (by kernel_rfl) (by simp) ?_
              refine AllReadyH.cons rfl (fun K hK => ?_) AllReadyH.nil
              go_simp
              refine Calls.mono (pick rb Bd q 9 v0 Y0.out.rd (by omega) (by omega) (by omega)) ?_
              rintro e v1 ⟨⟨s, rfl, s0, s1⟩, hR, hO⟩
              have Y1 : Hid (AS rb Bd w m la lc us (q + 1) v1) := Y0.out.only hrb hO hR
              clear hR hO Y0
              refine hK.out _ _ trivial (fun hH => ?_)
              clear hK K
              refine wpAnyH_ready (rs := [5]) (by kernel_rfl) (by simp) ?_
              refine AllReadyH.cons rfl (fun K hK => ?_) AllReadyH.nil
              go_simp
              refine Calls.mono (specOpen v1) ?_
              rintro e v2 ⟨rfl, hw⟩
              have X2 : Hid (Sl v2 (some ⟨v1.heap.size, 0, none⟩) zero4 ∧ v1.heap.size ≠ rb) := ⟨.inr ⟨_, 0, rfl, zeros_at (by rw [hw]; exact heap_new _ _)⟩, by have := Y1.out.bar.size; omega⟩
              have Y2 : Hid (AS rb Bd w m la lc us (q + 1) v2) := Y1.out.keep (by rw [hw]; exact below_new _ _)
              clear hw Y1
              refine hK.out _ _ trivial (fun hH => ?_)
              clear hK K
              refine wpAnyH_ready (rs := [6]) (by kernel_rfl) (by simp) ?_
              refine AllReadyH.cons rfl (fun K hK => ?_) AllReadyH.nil
              go_simp
              refine Calls.mono (l5AnyX rb Bd (q + 1) (some ⟨v1.heap.size, 0, none⟩) 4 zero4 v2 Y2.out.rd (by omega) X2.out.1 (fun x hx _ => by injection hx with hx; rw [← hx]; exact X2.out.2) (by decide)) ?_
              rintro e v3 ⟨n, pw, ps, a1', c1', xs, a2', c2', ys, v, k, rfl, hy, hl5, ⟨q', hq', hR⟩, hB⟩
              obtain ⟨y, hye⟩ : ∃ y : VM, y = ⟨s, ⟨n, pw, ps, xs, ys, v, k⟩, a1', c1', a2', c2'⟩ := ⟨_, rfl⟩
              have YC : Hid (y.cells = #[.int .i64 s, .bool n, .int .i64 pw, .int .i64 ps, .slice a1' xs.length c1', .slice a2' ys.length c2', .int .i64 v, .int .i64 k]) := by show _ = _; rw [hye]; rfl
              have SY : Hid (Short 4 (bodies (us ++ [y]))) := by
                show Short _ _
                rw [short_iff]
                have h0 := short_iff.1 S0.out
                intro z hz
                simp only [bodies, List.map_append, List.mem_append] at hz
                rcases hz with hz | hz
                · exact h0 z hz
                · simp only [List.map_cons, List.map_nil, List.mem_singleton] at hz
                  subst hz
                  rw [hye]; exact hl5
              have Y3 : Hid (AS rb Bd w m la lc us q' v3) := Y2.out.bar' hrb hB hR
              have X3 : Hid (OwnL v2 (w.heap.size + 2) (.slice la us.length lc) us ∧ Bar rb v2 v3 ∧ w.heap.size + 2 ≤ v2.heap.size ∧ OneOwn v3 v2.heap.size y) := ⟨Y2.out.own, hB, by have := Y2.out.acc.lt; omega, by rw [hye]; exact hy.as _ _ _ _ _ _⟩
              clear hR hB hy hl5 Y2 X2 hye
              refine hK.out _ _ trivial (fun hH => ?_)
              clear hK K
              refine wpAnyH_take (i := 7) (v := ?vz24) rfl (by kernel_rfl) (by kernel_rfl) (by kernel_rfl) (fun _ _ _ h => h) (Or.inl ⟨by rfl, ?yz24⟩) (by assumption) ?rz24
              case yz24 =>
                intro w' hSw
                try dsimp only at hSw
                go_simp
                try with_reducible rfl
              simp only [Act.put, List.getElem_toArray, List.getElem_cons_succ, List.getElem_cons_zero, List.setIfInBounds_toArray, List.set_cons_zero, List.set_cons_succ]
              refine wpAnyH_ready (rs := [8]) (by kernel_rfl) (by simp) ?_
              refine AllReadyH.cons rfl (fun K hK => ?_) AllReadyH.nil
              go_simp
              rw [← YC.out]
              have Y4 : Hid (AS rb Bd w m la lc us q' (v3.alloc (.cells y.cells 42))) := Y3.out.keep (below_new _ _)
              refine hK.out _ _ trivial (fun hH => ?_)
              clear hK K
              refine wpAnyH_ready (rs := [9]) (by kernel_rfl) (by simp) ?_
              refine AllReadyH.cons rfl (fun K hK => ?_) AllReadyH.nil
              have bs := X3.out.2.2.1
              have bs3 := X3.out.2.1.size
              refine step_append_lies (v3.alloc (.cells y.cells 42)) (by rfl) _ _ _ (by rfl) (w.heap.size + 2) 42 i0 _ 8 96 Try.underlying23 I0.out.1 I0.out.2.1 I0.out.2.2.1 I0.out.2.2.2 rfl (by decide) (.slice la us.length lc) us.length (flat8 us) (by rfl) Y4.out.own.row ⟨v3.heap.size, 0, none⟩ 1 1 y.cells.toList (by rfl) rfl (eight_new v3 y) (cells_one y) (by decide) (by have := L0.out; unfold maxLen; omega) (by have := L0.out; omega) (by rw [size_new]; omega) (v3.heap.size + 1) (size_new _ _) ?_
              intro g5 cap5 v5 own5 hgr hloc hg5
              have O5 : Hid (OwnL v5 (w.heap.size + 2) (.slice (some ⟨g5, 0, none⟩) (us.length + 1) cap5) (us ++ [y])) := OwnL.snocBar X3.out.1 X3.out.2.1 (by omega) (by omega) (below_new v3 _) (X3.out.2.2.2.allocV _) X3.out.2.2.1 own5 hgr (fun g hg => by
                simp only [Value.ownBlock] at hg
                injection hg with hg
                rcases hloc with hloc | hloc
                · left; rw [hloc, hg]
                · right; rw [size_new]; omega)
              have K5 : Hid (Below (w.heap.size + 2) v3 v5) := Below.grown ((Below.refl _ v3).alloc (by omega) _) hgr (by rw [size_new]; omega) (fun x hx => X3.out.1.from x hx)
              have R5 : Hid (AF rb Bd r0 w (v5.setCell ⟨w.heap.size + 1, 1, none⟩ (.slice (some ⟨g5, 0, none⟩) (us.length + 1) cap5))) := ⟨m, _, cap5, us ++ [y], q', Y3.out.app HBs.out K5.out (by simp) O5.out, by have := L0.out; simp; omega, SY.out, by omega, by omega, by omega⟩
              obtain ⟨a0, a1⟩ := (Y3.out.acc.below K5.out (by omega)).cells2
              have fr := (Y3.out.acc.below K5.out (by omega)).frozen
              clear own5 hgr hloc hg5 O5 K5 bs bs3
              refine hK.out _ _ trivial (fun hH => ?_)
              clear hK K
              simp only [Act.put, List.getElem_toArray, List.getElem_cons_succ, List.getElem_cons_zero, List.setIfInBounds_toArray, List.set_cons_zero, List.set_cons_succ]
              refine wpAnyH_take (i := 10) (v := ?vz25) rfl (by kernel_rfl) (by kernel_rfl) (by kernel_rfl) (fun _ _ _ h => h) (Or.inl ⟨by rfl, ?yz25⟩) (by assumption) ?rz25
              case yz25 =>
                intro w' hSw
                try dsimp only at hSw
                go_simp
                try with_reducible rfl
              simp only [Act.put, List.getElem_toArray, List.getElem_cons_succ, List.getElem_cons_zero, List.setIfInBounds_toArray, List.set_cons_zero, List.set_cons_succ]
              refine wpAnyH_ready (rs := [11]) (by kernel_rfl) (by simp) ?_
              refine AllReadyH.cons rfl (fun K hK => ?_) AllReadyH.nil
              go_simp
              refine hK.out _ _ trivial (fun hH => ?_)
              refine wpAnyH_done (by kernel_rfl) ?_ _
              go_wp2_with fail
              go_meet
              exact R5.out
            · skip
              go_simp
              refine Calls.mono (pick rb Bd q 9 v0 Y0.out.rd (by omega) (by omega) (by omega)) ?_
              rintro e v1 ⟨⟨s, rfl, s0, s1⟩, hR, hO⟩
              have Y1 : Hid (AS rb Bd w m la lc us (q + 1) v1) := Y0.out.only hrb hO hR
              clear hR hO Y0
              refine hK.out _ _ trivial (fun hH => ?_)
              clear hK K
              refine wpAnyH_ready (rs := [1, 5]) (by kernel_rfl) (by simp) ?_
              refine AllReadyH.cons rfl (fun K hK => ?_) (AllReadyH.cons rfl (fun K hK => ?_) AllReadyH.nil)
              · skip
                obtain ⟨a0, a1⟩ := Y1.out.acc.cells2
                go_simp
                refine hK.out _ _ trivial (fun hH => ?_)
                clear hK K a0 a1
                refine wpAnyH_ready (rs := [5]) (by kernel_rfl) (by simp) ?_
                refine AllReadyH.cons rfl (fun K hK => ?_) AllReadyH.nil
                go_simp
                refine Calls.mono (specOpen v1) ?_
                rintro e v2 ⟨rfl, hw⟩
                have X2 : Hid (Sl v2 (some ⟨v1.heap.size, 0, none⟩) zero4 ∧ v1.heap.size ≠ rb) := ⟨.inr ⟨_, 0, rfl, zeros_at (by rw [hw]; exact heap_new _ _)⟩, by have := Y1.out.bar.size; omega⟩
                have Y2 : Hid (AS rb Bd w m la lc us (q + 1) v2) := Y1.out.keep (by rw [hw]; exact below_new _ _)
                clear hw Y1
                refine hK.out _ _ trivial (fun hH => ?_)
                clear hK K
                refine wpAnyH_ready (rs := [6]) (by kernel_rfl) (by simp) ?_
                refine AllReadyH.cons rfl (fun K hK => ?_) AllReadyH.nil
                go_simp
                refine Calls.mono (l5AnyX rb Bd (q + 1) (some ⟨v1.heap.size, 0, none⟩) 4 zero4 v2 Y2.out.rd (by omega) X2.out.1 (fun x hx _ => by injection hx with hx; rw [← hx]; exact X2.out.2) (by decide)) ?_
                rintro e v3 ⟨n, pw, ps, a1', c1', xs, a2', c2', ys, v, k, rfl, hy, hl5, ⟨q', hq', hR⟩, hB⟩
                obtain ⟨y, hye⟩ : ∃ y : VM, y = ⟨s, ⟨n, pw, ps, xs, ys, v, k⟩, a1', c1', a2', c2'⟩ := ⟨_, rfl⟩
                have YC : Hid (y.cells = #[.int .i64 s, .bool n, .int .i64 pw, .int .i64 ps, .slice a1' xs.length c1', .slice a2' ys.length c2', .int .i64 v, .int .i64 k]) := by show _ = _; rw [hye]; rfl
                have SY : Hid (Short 4 (bodies (us ++ [y]))) := by
                  show Short _ _
                  rw [short_iff]
                  have h0 := short_iff.1 S0.out
                  intro z hz
                  simp only [bodies, List.map_append, List.mem_append] at hz
                  rcases hz with hz | hz
                  · exact h0 z hz
                  · simp only [List.map_cons, List.map_nil, List.mem_singleton] at hz
                    subst hz
                    rw [hye]; exact hl5
                have Y3 : Hid (AS rb Bd w m la lc us q' v3) := Y2.out.bar' hrb hB hR
                have X3 : Hid (OwnL v2 (w.heap.size + 2) (.slice la us.length lc) us ∧ Bar rb v2 v3 ∧ w.heap.size + 2 ≤ v2.heap.size ∧ OneOwn v3 v2.heap.size y) := ⟨Y2.out.own, hB, by have := Y2.out.acc.lt; omega, by rw [hye]; exact hy.as _ _ _ _ _ _⟩
                clear hR hB hy hl5 Y2 X2 hye
                refine hK.out _ _ trivial (fun hH => ?_)
                clear hK K
                refine wpAnyH_take (i := 7) (v := ?vz26) rfl (by kernel_rfl) (by kernel_rfl) (by kernel_rfl) (fun _ _ _ h => h) (Or.inl ⟨by rfl, ?yz26⟩) (by assumption) ?rz26
                case yz26 =>
                  intro w' hSw
                  try dsimp only at hSw
                  go_simp
                  try with_reducible rfl
                simp only [Act.put, List.getElem_toArray, List.getElem_cons_succ, List.getElem_cons_zero, List.setIfInBounds_toArray, List.set_cons_zero, List.set_cons_succ]
                refine wpAnyH_ready (rs := [8]) (by kernel_rfl) (by simp) ?_
                refine AllReadyH.cons rfl (fun K hK => ?_) AllReadyH.nil
                go_simp
                rw [← YC.out]
                have Y4 : Hid (AS rb Bd w m la lc us q' (v3.alloc (.cells y.cells 42))) := Y3.out.keep (below_new _ _)
                refine hK.out _ _ trivial (fun hH => ?_)
                clear hK K
                refine wpAnyH_ready (rs := [9]) (by kernel_rfl) (by simp) ?_
                refine AllReadyH.cons rfl (fun K hK => ?_) AllReadyH.nil
                have bs := X3.out.2.2.1
                have bs3 := X3.out.2.1.size
                refine step_append_lies (v3.alloc (.cells y.cells 42)) (by rfl) _ _ _ (by rfl) (w.heap.size + 2) 42 i0 _ 8 96 Try.underlying23 I0.out.1 I0.out.2.1 I0.out.2.2.1 I0.out.2.2.2 rfl (by decide) (.slice la us.length lc) us.length (flat8 us) (by rfl) Y4.out.own.row ⟨v3.heap.size, 0, none⟩ 1 1 y.cells.toList (by rfl) rfl (eight_new v3 y) (cells_one y) (by decide) (by have := L0.out; unfold maxLen; omega) (by have := L0.out; omega) (by rw [size_new]; omega) (v3.heap.size + 1) (size_new _ _) ?_
                intro g5 cap5 v5 own5 hgr hloc hg5
                have O5 : Hid (OwnL v5 (w.heap.size + 2) (.slice (some ⟨g5, 0, none⟩) (us.length + 1) cap5) (us ++ [y])) := OwnL.snocBar X3.out.1 X3.out.2.1 (by omega) (by omega) (below_new v3 _) (X3.out.2.2.2.allocV _) X3.out.2.2.1 own5 hgr (fun g hg => by
                  simp only [Value.ownBlock] at hg
                  injection hg with hg
                  rcases hloc with hloc | hloc
                  · left; rw [hloc, hg]
                  · right; rw [size_new]; omega)
                have K5 : Hid (Below (w.heap.size + 2) v3 v5) := Below.grown ((Below.refl _ v3).alloc (by omega) _) hgr (by rw [size_new]; omega) (fun x hx => X3.out.1.from x hx)
                have R5 : Hid (AF rb Bd r0 w (v5.setCell ⟨w.heap.size + 1, 1, none⟩ (.slice (some ⟨g5, 0, none⟩) (us.length + 1) cap5))) := ⟨m, _, cap5, us ++ [y], q', Y3.out.app HBs.out K5.out (by simp) O5.out, by have := L0.out; simp; omega, SY.out, by omega, by omega, by omega⟩
                obtain ⟨a0, a1⟩ := (Y3.out.acc.below K5.out (by omega)).cells2
                have fr := (Y3.out.acc.below K5.out (by omega)).frozen
                clear own5 hgr hloc hg5 O5 K5 bs bs3
                refine hK.out _ _ trivial (fun hH => ?_)
                clear hK K
                simp only [Act.put, List.getElem_toArray, List.getElem_cons_succ, List.getElem_cons_zero, List.setIfInBounds_toArray, List.set_cons_zero, List.set_cons_succ]
                refine wpAnyH_take (i := 10) (v := ?vz27) rfl (by kernel_rfl) (by kernel_rfl) (by kernel_rfl) (fun _ _ _ h => h) (Or.inl ⟨by rfl, ?yz27⟩) (by assumption) ?rz27
                case yz27 =>
                  intro w' hSw
                  try dsimp only at hSw
                  go_simp
                  try with_reducible rfl
                simp only [Act.put, List.getElem_toArray, List.getElem_cons_succ, List.getElem_cons_zero, List.setIfInBounds_toArray, List.set_cons_zero, List.set_cons_succ]
                refine wpAnyH_ready (rs := [11]) (by kernel_rfl) (by simp) ?_
                refine AllReadyH.cons rfl (fun K hK => ?_) AllReadyH.nil
                go_simp
                refine hK.out _ _ trivial (fun hH => ?_)
                refine wpAnyH_done (by kernel_rfl) ?_ _
                go_wp2_with fail
                go_meet
                exact R5.out
              · skip
                go_simp
                refine Calls.mono (specOpen v1) ?_
                rintro e v2 ⟨rfl, hw⟩
                have X2 : Hid (Sl v2 (some ⟨v1.heap.size, 0, none⟩) zero4 ∧ v1.heap.size ≠ rb) := ⟨.inr ⟨_, 0, rfl, zeros_at (by rw [hw]; exact heap_new _ _)⟩, by have := Y1.out.bar.size; omega⟩
                have Y2 : Hid (AS rb Bd w m la lc us (q + 1) v2) := Y1.out.keep (by rw [hw]; exact below_new _ _)
                clear hw Y1
                refine hK.out _ _ trivial (fun hH => ?_)
                clear hK K
                refine wpAnyH_ready (rs := [1, 6]) (by kernel_rfl) (by simp) ?_
                refine AllReadyH.cons rfl (fun K hK => ?_) (AllReadyH.cons rfl (fun K hK => ?_) AllReadyH.nil)
                · skip
                  obtain ⟨a0, a1⟩ := Y2.out.acc.cells2
                  go_simp
                  refine hK.out _ _ trivial (fun hH => ?_)
                  clear hK K a0 a1
                  refine wpAnyH_ready (rs := [6]) (by kernel_rfl) (by simp) ?_
                  refine AllReadyH.cons rfl (fun K hK => ?_) AllReadyH.nil
                  go_simp
                  refine Calls.mono (l5AnyX rb Bd (q + 1) (some ⟨v1.heap.size, 0, none⟩) 4 zero4 v2 Y2.out.rd (by omega) X2.out.1 (fun x hx _ => by injection hx with hx; rw [← hx]; exact X2.out.2) (by decide)) ?_
                  rintro e v3 ⟨n, pw, ps, a1', c1', xs, a2', c2', ys, v, k, rfl, hy, hl5, ⟨q', hq', hR⟩, hB⟩
                  obtain ⟨y, hye⟩ : ∃ y : VM, y = ⟨s, ⟨n, pw, ps, xs, ys, v, k⟩, a1', c1', a2', c2'⟩ := ⟨_, rfl⟩
                  have YC : Hid (y.cells = #[.int .i64 s, .bool n, .int .i64 pw, .int .i64 ps, .slice a1' xs.length c1', .slice a2' ys.length c2', .int .i64 v, .int .i64 k]) := by show _ = _; rw [hye]; rfl
                  have SY : Hid (Short 4 (bodies (us ++ [y]))) := by
                    show Short _ _
                    rw [short_iff]
                    have h0 := short_iff.1 S0.out
                    intro z hz
                    simp only [bodies, List.map_append, List.mem_append] at hz
                    rcases hz with hz | hz
                    · exact h0 z hz
                    · simp only [List.map_cons, List.map_nil, List.mem_singleton] at hz
                      subst hz
                      rw [hye]; exact hl5
                  have Y3 : Hid (AS rb Bd w m la lc us q' v3) := Y2.out.bar' hrb hB hR
                  have X3 : Hid (OwnL v2 (w.heap.size + 2) (.slice la us.length lc) us ∧ Bar rb v2 v3 ∧ w.heap.size + 2 ≤ v2.heap.size ∧ OneOwn v3 v2.heap.size y) := ⟨Y2.out.own, hB, by have := Y2.out.acc.lt; omega, by rw [hye]; exact hy.as _ _ _ _ _ _⟩
                  clear hR hB hy hl5 Y2 X2 hye
                  refine hK.out _ _ trivial (fun hH => ?_)
                  clear hK K
                  refine wpAnyH_take (i := 7) (v := ?vz28) rfl (by kernel_rfl) (by kernel_rfl) (by kernel_rfl) (fun _ _ _ h => h) (Or.inl ⟨by rfl, ?yz28⟩) (by assumption) ?rz28
                  case yz28 =>
                    intro w' hSw
                    try dsimp only at hSw
                    go_simp
                    try with_reducible rfl
                  simp only [Act.put, List.getElem_toArray, List.getElem_cons_succ, List.getElem_cons_zero, List.setIfInBounds_toArray, List.set_cons_zero, List.set_cons_succ]
                  refine wpAnyH_ready (rs := [8]) (by kernel_rfl) (by simp) ?_
                  refine AllReadyH.cons rfl (fun K hK => ?_) AllReadyH.nil
                  go_simp
                  rw [← YC.out]
                  have Y4 : Hid (AS rb Bd w m la lc us q' (v3.alloc (.cells y.cells 42))) := Y3.out.keep (below_new _ _)
                  refine hK.out _ _ trivial (fun hH => ?_)
                  clear hK K
                  refine wpAnyH_ready (rs := [9]) (by kernel_rfl) (by simp) ?_
                  refine AllReadyH.cons rfl (fun K hK => ?_) AllReadyH.nil
                  have bs := X3.out.2.2.1
                  have bs3 := X3.out.2.1.size
                  refine step_append_lies (v3.alloc (.cells y.cells 42)) (by rfl) _ _ _ (by rfl) (w.heap.size + 2) 42 i0 _ 8 96 Try.underlying23 I0.out.1 I0.out.2.1 I0.out.2.2.1 I0.out.2.2.2 rfl (by decide) (.slice la us.length lc) us.length (flat8 us) (by rfl) Y4.out.own.row ⟨v3.heap.size, 0, none⟩ 1 1 y.cells.toList (by rfl) rfl (eight_new v3 y) (cells_one y) (by decide) (by have := L0.out; unfold maxLen; omega) (by have := L0.out; omega) (by rw [size_new]; omega) (v3.heap.size + 1) (size_new _ _) ?_
                  intro g5 cap5 v5 own5 hgr hloc hg5
                  have O5 : Hid (OwnL v5 (w.heap.size + 2) (.slice (some ⟨g5, 0, none⟩) (us.length + 1) cap5) (us ++ [y])) := OwnL.snocBar X3.out.1 X3.out.2.1 (by omega) (by omega) (below_new v3 _) (X3.out.2.2.2.allocV _) X3.out.2.2.1 own5 hgr (fun g hg => by
                    simp only [Value.ownBlock] at hg
                    injection hg with hg
                    rcases hloc with hloc | hloc
                    · left; rw [hloc, hg]
                    · right; rw [size_new]; omega)
                  have K5 : Hid (Below (w.heap.size + 2) v3 v5) := Below.grown ((Below.refl _ v3).alloc (by omega) _) hgr (by rw [size_new]; omega) (fun x hx => X3.out.1.from x hx)
                  have R5 : Hid (AF rb Bd r0 w (v5.setCell ⟨w.heap.size + 1, 1, none⟩ (.slice (some ⟨g5, 0, none⟩) (us.length + 1) cap5))) := ⟨m, _, cap5, us ++ [y], q', Y3.out.app HBs.out K5.out (by simp) O5.out, by have := L0.out; simp; omega, SY.out, by omega, by omega, by omega⟩
                  obtain ⟨a0, a1⟩ := (Y3.out.acc.below K5.out (by omega)).cells2
                  have fr := (Y3.out.acc.below K5.out (by omega)).frozen
                  clear own5 hgr hloc hg5 O5 K5 bs bs3
                  refine hK.out _ _ trivial (fun hH => ?_)
                  clear hK K
                  simp only [Act.put, List.getElem_toArray, List.getElem_cons_succ, List.getElem_cons_zero, List.setIfInBounds_toArray, List.set_cons_zero, List.set_cons_succ]
                  refine wpAnyH_take (i := 10) (v := ?vz29) rfl (by kernel_rfl) (by kernel_rfl) (by kernel_rfl) (fun _ _ _ h => h) (Or.inl ⟨by rfl, ?yz29⟩) (by assumption) ?rz29
                  case yz29 =>
                    intro w' hSw
                    try dsimp only at hSw
                    go_simp
                    try with_reducible rfl
                  simp only [Act.put, List.getElem_toArray, List.getElem_cons_succ, List.getElem_cons_zero, List.setIfInBounds_toArray, List.set_cons_zero, List.set_cons_succ]
                  refine wpAnyH_ready (rs := [11]) (by kernel_rfl) (by simp) ?_
                  refine AllReadyH.cons rfl (fun K hK => ?_) AllReadyH.nil
                  go_simp
                  refine hK.out _ _ trivial (fun hH => ?_)
                  refine wpAnyH_done (by kernel_rfl) ?_ _
                  go_wp2_with fail
                  go_meet
                  exact R5.out
                · skip
                  go_simp
                  refine Calls.mono (l5AnyX rb Bd (q + 1) (some ⟨v1.heap.size, 0, none⟩) 4 zero4 v2 Y2.out.rd (by omega) X2.out.1 (fun x hx _ => by injection hx with hx; rw [← hx]; exact X2.out.2) (by decide)) ?_
                  rintro e v3 ⟨n, pw, ps, a1', c1', xs, a2', c2', ys, v, k, rfl, hy, hl5, ⟨q', hq', hR⟩, hB⟩
                  obtain ⟨y, hye⟩ : ∃ y : VM, y = ⟨s, ⟨n, pw, ps, xs, ys, v, k⟩, a1', c1', a2', c2'⟩ := ⟨_, rfl⟩
                  have YC : Hid (y.cells = #[.int .i64 s, .bool n, .int .i64 pw, .int .i64 ps, .slice a1' xs.length c1', .slice a2' ys.length c2', .int .i64 v, .int .i64 k]) := by show _ = _; rw [hye]; rfl
                  have SY : Hid (Short 4 (bodies (us ++ [y]))) := by
                    show Short _ _
                    rw [short_iff]
                    have h0 := short_iff.1 S0.out
                    intro z hz
                    simp only [bodies, List.map_append, List.mem_append] at hz
                    rcases hz with hz | hz
                    · exact h0 z hz
                    · simp only [List.map_cons, List.map_nil, List.mem_singleton] at hz
                      subst hz
                      rw [hye]; exact hl5
                  have Y3 : Hid (AS rb Bd w m la lc us q' v3) := Y2.out.bar' hrb hB hR
                  have X3 : Hid (OwnL v2 (w.heap.size + 2) (.slice la us.length lc) us ∧ Bar rb v2 v3 ∧ w.heap.size + 2 ≤ v2.heap.size ∧ OneOwn v3 v2.heap.size y) := ⟨Y2.out.own, hB, by have := Y2.out.acc.lt; omega, by rw [hye]; exact hy.as _ _ _ _ _ _⟩
                  clear hR hB hy hl5 Y2 X2 hye
                  refine hK.out _ _ trivial (fun hH => ?_)
                  clear hK K
                  refine wpAnyH_take (i := 7) (v := ?vz30) rfl (by kernel_rfl) (by kernel_rfl) (by kernel_rfl) (fun _ _ _ h => h) (Or.inl ⟨by rfl, ?yz30⟩) (by assumption) ?rz30
                  case yz30 =>
                    intro w' hSw
                    try dsimp only at hSw
                    go_simp
                    try with_reducible rfl
                  simp only [Act.put, List.getElem_toArray, List.getElem_cons_succ, List.getElem_cons_zero, List.setIfInBounds_toArray, List.set_cons_zero, List.set_cons_succ]
                  refine wpAnyH_ready (rs := [1, 8]) (by kernel_rfl) (by simp) ?_
                  refine AllReadyH.cons rfl (fun K hK => ?_) (AllReadyH.cons rfl (fun K hK => ?_) AllReadyH.nil)
                  · skip
                    obtain ⟨a0, a1⟩ := Y3.out.acc.cells2
                    go_simp
                    refine hK.out _ _ trivial (fun hH => ?_)
                    clear hK K a0 a1
                    refine wpAnyH_ready (rs := [8]) (by kernel_rfl) (by simp) ?_
                    refine AllReadyH.cons rfl (fun K hK => ?_) AllReadyH.nil
                    go_simp
                    rw [← YC.out]
                    have Y4 : Hid (AS rb Bd w m la lc us q' (v3.alloc (.cells y.cells 42))) := Y3.out.keep (below_new _ _)
                    refine hK.out _ _ trivial (fun hH => ?_)
                    clear hK K
                    refine wpAnyH_ready (rs := [9]) (by kernel_rfl) (by simp) ?_
                    refine AllReadyH.cons rfl (fun K hK => ?_) AllReadyH.nil
                    have bs := X3.out.2.2.1
                    have bs3 := X3.out.2.1.size
                    refine step_append_lies (v3.alloc (.cells y.cells 42)) (by rfl) _ _ _ (by rfl) (w.heap.size + 2) 42 i0 _ 8 96 Try.underlying23 I0.out.1 I0.out.2.1 I0.out.2.2.1 I0.out.2.2.2 rfl (by decide) (.slice la us.length lc) us.length (flat8 us) (by rfl) Y4.out.own.row ⟨v3.heap.size, 0, none⟩ 1 1 y.cells.toList (by rfl) rfl (eight_new v3 y) (cells_one y) (by decide) (by have := L0.out; unfold maxLen; omega) (by have := L0.out; omega) (by rw [size_new]; omega) (v3.heap.size + 1) (size_new _ _) ?_
                    intro g5 cap5 v5 own5 hgr hloc hg5
                    have O5 : Hid (OwnL v5 (w.heap.size + 2) (.slice (some ⟨g5, 0, none⟩) (us.length + 1) cap5) (us ++ [y])) := OwnL.snocBar X3.out.1 X3.out.2.1 (by omega) (by omega) (below_new v3 _) (X3.out.2.2.2.allocV _) X3.out.2.2.1 own5 hgr (fun g hg => by
                      simp only [Value.ownBlock] at hg
                      injection hg with hg
                      rcases hloc with hloc | hloc
                      · left; rw [hloc, hg]
                      · right; rw [size_new]; omega)
                    have K5 : Hid (Below (w.heap.size + 2) v3 v5) := Below.grown ((Below.refl _ v3).alloc (by omega) _) hgr (by rw [size_new]; omega) (fun x hx => X3.out.1.from x hx)
                    have R5 : Hid (AF rb Bd r0 w (v5.setCell ⟨w.heap.size + 1, 1, none⟩ (.slice (some ⟨g5, 0, none⟩) (us.length + 1) cap5))) := ⟨m, _, cap5, us ++ [y], q', Y3.out.app HBs.out K5.out (by simp) O5.out, by have := L0.out; simp; omega, SY.out, by omega, by omega, by omega⟩
                    obtain ⟨a0, a1⟩ := (Y3.out.acc.below K5.out (by omega)).cells2
                    have fr := (Y3.out.acc.below K5.out (by omega)).frozen
                    clear own5 hgr hloc hg5 O5 K5 bs bs3
                    refine hK.out _ _ trivial (fun hH => ?_)
                    clear hK K
                    simp only [Act.put, List.getElem_toArray, List.getElem_cons_succ, List.getElem_cons_zero, List.setIfInBounds_toArray, List.set_cons_zero, List.set_cons_succ]
                    refine wpAnyH_take (i := 10) (v := ?vz31) rfl (by kernel_rfl) (by kernel_rfl) (by kernel_rfl) (fun _ _ _ h => h) (Or.inl ⟨by rfl, ?yz31⟩) (by assumption) ?rz31
                    case yz31 =>
                      intro w' hSw
                      try dsimp only at hSw
                      go_simp
                      try with_reducible rfl
                    simp only [Act.put, List.getElem_toArray, List.getElem_cons_succ, List.getElem_cons_zero, List.setIfInBounds_toArray, List.set_cons_zero, List.set_cons_succ]
                    refine wpAnyH_ready (rs := [11]) (by kernel_rfl) (by simp) ?_
                    refine AllReadyH.cons rfl (fun K hK => ?_) AllReadyH.nil
                    go_simp
                    refine hK.out _ _ trivial (fun hH => ?_)
                    refine wpAnyH_done (by kernel_rfl) ?_ _
                    go_wp2_with fail
                    go_meet
                    exact R5.out
                  · skip
                    go_simp
                    rw [← YC.out]
                    have Y4 : Hid (AS rb Bd w m la lc us q' (v3.alloc (.cells y.cells 42))) := Y3.out.keep (below_new _ _)
                    refine hK.out _ _ trivial (fun hH => ?_)
                    clear hK K
                    refine wpAnyH_ready (rs := [1]) (by kernel_rfl) (by simp) ?_
                    refine AllReadyH.cons rfl (fun K hK => ?_) AllReadyH.nil
                    obtain ⟨a0, a1⟩ := Y4.out.acc.cells2
                    go_simp
                    refine hK.out _ _ trivial (fun hH => ?_)
                    clear hK K a0 a1
                    refine wpAnyH_ready (rs := [9]) (by kernel_rfl) (by simp) ?_
                    refine AllReadyH.cons rfl (fun K hK => ?_) AllReadyH.nil
                    have bs := X3.out.2.2.1
                    have bs3 := X3.out.2.1.size
                    refine step_append_lies (v3.alloc (.cells y.cells 42)) (by rfl) _ _ _ (by rfl) (w.heap.size + 2) 42 i0 _ 8 96 Try.underlying23 I0.out.1 I0.out.2.1 I0.out.2.2.1 I0.out.2.2.2 rfl (by decide) (.slice la us.length lc) us.length (flat8 us) (by rfl) Y4.out.own.row ⟨v3.heap.size, 0, none⟩ 1 1 y.cells.toList (by rfl) rfl (eight_new v3 y) (cells_one y) (by decide) (by have := L0.out; unfold maxLen; omega) (by have := L0.out; omega) (by rw [size_new]; omega) (v3.heap.size + 1) (size_new _ _) ?_
                    intro g5 cap5 v5 own5 hgr hloc hg5
                    have O5 : Hid (OwnL v5 (w.heap.size + 2) (.slice (some ⟨g5, 0, none⟩) (us.length + 1) cap5) (us ++ [y])) := OwnL.snocBar X3.out.1 X3.out.2.1 (by omega) (by omega) (below_new v3 _) (X3.out.2.2.2.allocV _) X3.out.2.2.1 own5 hgr (fun g hg => by
                      simp only [Value.ownBlock] at hg
                      injection hg with hg
                      rcases hloc with hloc | hloc
                      · left; rw [hloc, hg]
                      · right; rw [size_new]; omega)
                    have K5 : Hid (Below (w.heap.size + 2) v3 v5) := Below.grown ((Below.refl _ v3).alloc (by omega) _) hgr (by rw [size_new]; omega) (fun x hx => X3.out.1.from x hx)
                    have R5 : Hid (AF rb Bd r0 w (v5.setCell ⟨w.heap.size + 1, 1, none⟩ (.slice (some ⟨g5, 0, none⟩) (us.length + 1) cap5))) := ⟨m, _, cap5, us ++ [y], q', Y3.out.app HBs.out K5.out (by simp) O5.out, by have := L0.out; simp; omega, SY.out, by omega, by omega, by omega⟩
                    obtain ⟨a0, a1⟩ := (Y3.out.acc.below K5.out (by omega)).cells2
                    have fr := (Y3.out.acc.below K5.out (by omega)).frozen
                    clear own5 hgr hloc hg5 O5 K5 bs bs3
                    refine hK.out _ _ trivial (fun hH => ?_)
                    clear hK K
                    simp only [Act.put, List.getElem_toArray, List.getElem_cons_succ, List.getElem_cons_zero, List.setIfInBounds_toArray, List.set_cons_zero, List.set_cons_succ]
                    refine wpAnyH_take (i := 10) (v := ?vz32) rfl (by kernel_rfl) (by kernel_rfl) (by kernel_rfl) (fun _ _ _ h => h) (Or.inl ⟨by rfl, ?yz32⟩) (by assumption) ?rz32
                    case yz32 =>
                      intro w' hSw
                      try dsimp only at hSw
                      go_simp
                      try with_reducible rfl
                    simp only [Act.put, List.getElem_toArray, List.getElem_cons_succ, List.getElem_cons_zero, List.setIfInBounds_toArray, List.set_cons_zero, List.set_cons_succ]
                    refine wpAnyH_ready (rs := [11]) (by kernel_rfl) (by simp) ?_
                    refine AllReadyH.cons rfl (fun K hK => ?_) AllReadyH.nil
                    go_simp
                    refine hK.out _ _ trivial (fun hH => ?_)
                    refine wpAnyH_done (by kernel_rfl) ?_ _
                    go_wp2_with fail
                    go_meet
                    exact R5.out
          | false =>
            cases t2 : (d == 2) with
            | true =>
              obtain ⟨z0, z1⟩ := A2.out.acc.cells2
              have fr := A2.out.acc.frozen
              go_wp2_with fail
              go_meet
              exact ⟨3000, la, lc, us, p + 1, A2.out.setM HBs.out 3000, by have := L0.out; omega, S0.out, by omega, by omega, by omega⟩
            | false =>
              go_wp2_with fail
              go_meet
              exact ⟨m, la, lc, us, p + 1, A2.out, by have := L0.out; omega, S0.out, by omega, by omega, by omega⟩
      case rest =>
        clear A2 L0 S0
        obtain ⟨m2, la2, lc2, us2, p2, hA, hl, hs, h0, h1, hp2⟩ := hcut
        have A3 : Hid (AS rb Bd w m2 la2 lc2 us2 p2 wc) := hA
        have LS : Hid (us2.length ≤ 5 ∧ Short 4 (bodies us2)) := ⟨hl, hs⟩
        clear hA hl hs
        obtain ⟨z0, z1⟩ := A3.out.acc.cells2
        obtain ⟨y0, y1⟩ := A3.out.res.cells2
        have fr := A3.out.res.frozen
        go_wp2_with fail
        obtain ⟨⟨d0', d1'⟩, hO, hR, hB⟩ := A3.out.fin HBs.out
        refine bodyPost_ret (v := .agg #[.int .i64 m2, .slice la2 us2.length lc2]) (by simp [results, Try.results42, go_sem, d0', d1']) rfl ?_
        exact ⟨m2, la2, lc2, us2, rfl, hO, LS.out.1, LS.out.2, h0, h1, ⟨p2, hp2, hR⟩, hB⟩
end Go.Proofs.Ytfifiobcmdmefaa.Own
