/-
  Own texts, bundled: MsgTextG, MsgTextN.
-/
import Derived.Test.YtildonpdmmliaaaGreatDoorPk7
import Derived.Laws.EntriesVeiled
namespace Go.Proofs.YtildonpdmmliaaaGreatDoor.Own
open Go.RowKit
set_option linter.unusedVariables false
set_option linter.unusedSimpArgs false

set_option maxRecDepth 100000 in
set_option maxHeartbeats 8000000 in
theorem implMessageF (fn : Value) (T : TypeId) (hT : Heads T) (B b : Nat) (x : MM) (w : World) (h : Bd T B b [] w) (wf : WfM x) (hTab : ∀ w', Below B w w' → Tab w') (hX : ∀ w', Below B w w' → AtM w' x) (hs : x.b.xs.length + x.b.ys.length ≤ 2 ^ 21) (hv : ∀ i, i < x.vs.length → (x.vs.getD i v0).b.xs.length + (x.vs.getD i v0).b.ys.length ≤ 2 ^ 21) (hn : x.vs.length ≤ 40) (hBw : B ≤ w.heap.size) (efn : entFn x.kind = fn) (hfn : (fn = .func (.func 49) #[] #[] ∧ hasEnt x.kind = true) ∨ (fn = .func (.func 50) #[] #[] ∧ hasEnt x.kind = true) ∨ (fn = .nilFunc ∧ hasEnt x.kind = false)) :
    Calls Tryz.prog 18 #[.pointer (some ⟨b, 0, none⟩), .agg #[.int .i64 x.kind, .int .i64 x.src, .int .i64 x.dst, .int .i64 x.bal, .int .i64 x.slot, .bool x.b.n, .int .i64 x.b.p, .int .i64 x.b.q, .slice x.a1 x.b.xs.length x.c1, .slice x.a2 x.b.ys.length x.c2, .int .i64 x.b.v, .int .i64 x.b.k, .slice x.a x.vs.length x.c]] w fun e w' => e = .returned (.tuple #[]) ∧ Bd T B b (coreText x) w' ∧ Below B w w' := by
  have CN : Hid (∀ (l' m : List UInt8) (z : Int) (w' : World), Fits z → Bd T B b l' w' → Below B w w' → l'.length + m.length ≤ 2 ^ 44 → Calls Tryz.prog 35 #[.pointer (some ⟨b, 0, none⟩), .string (str m), .int .i64 z] w' fun e w'' => e = .returned (.tuple #[]) ∧ Bd T B b (l' ++ (m ++ Lib.itoa z)) w'' ∧ Below B w' w'' ∧ Lib.OthersKept 5 (some b) w' w'') :=
    fun l' m z w' hz hd hb hlen => implNumber T hT B b l' m z w' hd hz (fun w'' hw => hTab w'' (hb.trans hw)) hlen (Nat.le_trans hBw hb.size)
  have CE : Hid (∀ (l' : List UInt8) (w' : World), Bd T B b l' w' → Below B w w' → l'.length ≤ 2 ^ 42 → Calls Tryz.prog 36 #[.pointer (some ⟨b, 0, none⟩), .agg #[.bool x.b.n, .int .i64 x.b.p, .int .i64 x.b.q, .slice x.a1 x.b.xs.length x.c1, .slice x.a2 x.b.ys.length x.c2, .int .i64 x.b.v, .int .i64 x.b.k]] w' fun e w'' => e = .returned (.tuple #[]) ∧ Bd T B b (l' ++ entText x.b) w'' ∧ Below B w' w'' ∧ Lib.OthersKept 5 (some b) w' w'') :=
    fun l' w' hd hb hlen => implEntryA T hT B b l' x.b.n x.b.p x.b.q x.a1 x.a2 x.c1 x.c2 x.b.xs x.b.ys x.b.v x.b.k w' hd wf.2.2.2.2.2.1 (fun w'' hw => hTab w'' (hb.trans hw)) (fun w'' hw => (hX w'' (hb.trans hw)).1) (fun w'' hw => (hX w'' (hb.trans hw)).2.1) (by omega) (by omega) hlen (Nat.le_trans hBw hb.size)
  have CW : Hid (∀ (l' : List UInt8) (s : ByteArray) (w' : World), Bd T B b l' w' → Below B w w' → l'.length + s.data.toList.length ≤ 2 ^ 46 → Calls Tryz.prog 34 #[.pointer (some ⟨b, 0, none⟩), .string s] w' fun e w'' => (∃ z, e = .returned (.tuple #[.int .i64 z, .nilIface])) ∧ Bd T B b (l' ++ s.data.toList) w'' ∧ Below B w' w'' ∧ Lib.OthersKept 5 (some b) w' w'') :=
    fun l' s w' hd hb hlen => by
      have h := writeG T hT B b l' s.data.toList w' hd hlen (Nat.le_trans hBw hb.size)
      rw [← str_eq (s := s) rfl] at h
      exact h.mono fun e w'' ⟨h1, h2⟩ => ⟨⟨_, h1⟩, h2⟩
  have CV : Hid (∀ (i : Nat) (l' : List UInt8) (w' : World), i < x.vs.length → Bd T B b l' w' → Below B w w' → l'.length ≤ 2 ^ 41 → Calls Tryz.prog 37 #[.pointer (some ⟨b, 0, none⟩), .agg (x.vs.getD i v0).cells] w' fun e w'' => e = .returned (.tuple #[]) ∧ Bd T B b (l' ++ voteText (x.vs.getD i v0).body) w'' ∧ Below B w' w'' ∧ Lib.OthersKept 5 (some b) w' w'') := fun i l' w' hi hd hb hlen => by
    have hw := wf.2.2.2.2.2.2 i (by rw [bodies_len]; exact hi)
    rw [bodies_getD] at hw
    have hl := hv i hi
    have at' : ∀ w'', Below B w' w'' → Sl w'' (x.vs.getD i v0).a1 (x.vs.getD i v0).b.xs ∧ Sl w'' (x.vs.getD i v0).a2 (x.vs.getD i v0).b.ys := fun w'' hw2 => by
      rcases (hX w'' (hb.trans hw2)).2.2 with hh | ⟨b1, o1, _, _, hh⟩
      · rw [hh] at hi; simp at hi
      · exact (hh i hi).2
    exact implWriteVote T hT B b l' (x.vs.getD i v0).bal (x.vs.getD i v0).b.n (x.vs.getD i v0).b.p (x.vs.getD i v0).b.q (x.vs.getD i v0).a1 (x.vs.getD i v0).a2 (x.vs.getD i v0).c1 (x.vs.getD i v0).c2 (x.vs.getD i v0).b.xs (x.vs.getD i v0).b.ys (x.vs.getD i v0).b.v (x.vs.getD i v0).b.k w' hd hw.1 hw.2 (fun w'' hw2 => hTab w'' (hb.trans hw2)) (fun w'' hw2 => (at' w'' hw2).1) (fun w'' hw2 => (at' w'' hw2).2) (by omega) (by omega) hlen (Nat.le_trans hBw hb.size)
  obtain ⟨_, f1, f2, f3, f4, wb, wv⟩ := id wf
  have FF : Hid (Fits x.src ∧ Fits x.dst ∧ Fits x.bal ∧ Fits x.slot) := ⟨f1, f2, f3, f4⟩
  have wl := word_len x.kind
  have i1 := itoa_len _ f1
  have i2 := itoa_len _ f2
  have i3 := itoa_len _ f3
  have i4 := itoa_len _ f4
  have EH : Hid ((((((wordOf x.kind).data.toList ++ ([32] ++ Lib.itoa x.src)) ++ ([32] ++ Lib.itoa x.dst)) ++ ([32] ++ Lib.itoa x.bal)) ++ ([32] ++ Lib.itoa x.slot)) = headM x) := by show _ = _; simp [headM, numText]
  have hl0 := headM_len x wf
  have ml := midM_len x wf hs
  have ME1 : Hid (hasEnt x.kind = true → (headM x ++ [32]) ++ entText x.b = midM x) := fun h => by simp [midM, h]
  have ME0 : Hid (hasEnt x.kind = false → headM x = midM x) := fun h => by simp [midM, h]
  have VL : Hid (∀ j, j ≤ x.vs.length → (votesTo (midM x) (bodies x.vs) j).length ≤ 2 ^ 41) := fun j hj => by
    have h := votesTo_len (midM x) (bodies x.vs) wv (fun i hi => by rw [bodies_getD]; exact hv i (by rw [bodies_len] at hi; exact hi)) j (by rw [bodies_len]; exact hj)
    omega
  have VS : Hid (∀ j, votesTo (midM x) (bodies x.vs) (j + 1) = votesTo (midM x) (bodies x.vs) j ++ voteText (x.vs.getD j v0).body) := fun j => by show _ ++ _ = _; rw [bodies_getD]
  have EC : Hid (coreText x = votesTo (midM x) (bodies x.vs) x.vs.length) := by show _ = _; rw [← bodies_len]; rfl
  rw [EC.out]
  have V0 : Hid (votesTo (midM x) (bodies x.vs) 0 = midM x) := rfl
  generalize votesTo (midM x) (bodies x.vs) = VT at VL VS V0 ⊢
  generalize entText x.b = et at CE ME1
  have HL1 : Hid ((headM x).length ≤ 97) := hl0
  have HN : Hid (x.vs.length ≤ 40) := hn
  have HX : Hid (∀ w', Below B w w' → AtM w' x) := hX
  have hblt := h.lt
  have NEE : Hid (w.heap.size ≠ b) := by show _ ≠ _; omega
  have SB : Hid (B ≤ w.heap.size) := hBw
  obtain ⟨W, hW⟩ : ∃ W, W = w.alloc (.cells #[.int .i64 x.kind, .int .i64 x.src, .int .i64 x.dst, .int .i64 x.bal, .int .i64 x.slot, .bool x.b.n, .int .i64 x.b.p, .int .i64 x.b.q, .slice x.a1 x.b.xs.length x.c1, .slice x.a2 x.b.ys.length x.c2, .int .i64 x.b.v, .int .i64 x.b.k, .slice x.a x.vs.length x.c] 44) := ⟨_, rfl⟩
  have bW : Below w.heap.size w W := by rw [hW]; exact (Below.refl _ _).alloc (Nat.le_refl _) _
  have BW : Hid (Below w.heap.size w W) := bW
  have E0 : Hid (Blk W w.heap.size #[.int .i64 x.kind, .int .i64 x.src, .int .i64 x.dst, .int .i64 x.bal, .int .i64 x.slot, .bool x.b.n, .int .i64 x.b.p, .int .i64 x.b.q, .slice x.a1 x.b.xs.length x.c1, .slice x.a2 x.b.ys.length x.c2, .int .i64 x.b.v, .int .i64 x.b.k, .slice x.a x.vs.length x.c] 44) := by show Blk _ _ _ _; rw [hW]; exact Blk.new _ _ _
  have D0 : Hid (Bd T B b [] W) := h.below bW
  have CF : Hid (Calls Tryz.prog 32 #[.int .i64 x.kind] W fun e w'' => e = .returned (.agg #[.string (wordOf x.kind), .int .i64 (balOf x.kind).1, .int .i64 (balOf x.kind).2, .int .i64 (slotOf x.kind).1, .int .i64 (slotOf x.kind).2, fn, .bool (votesOf x.kind)]) ∧ Below W.heap.size W w'') := by
    have h := implForm x.kind W
    unfold formV at h
    rw [efn] at h
    exact h
  have BLT : Hid (b < w.heap.size) := hblt
  have LL0 : Hid (([] : List UInt8).length + (wordOf x.kind).data.toList.length ≤ 2 ^ 46) := by show _ ≤ _; simp only [List.length_nil]; omega
  have LB2 : Hid (((wordOf x.kind).data.toList).length + ([32] : List UInt8).length ≤ 2 ^ 44) := by show _ ≤ _; simp only [List.length_append, List.length_nil, List.length_cons]; omega
  have LB3 : Hid ((((wordOf x.kind).data.toList ++ ([32] ++ Lib.itoa x.src))).length + ([32] : List UInt8).length ≤ 2 ^ 44) := by show _ ≤ _; simp only [List.length_append, List.length_nil, List.length_cons]; omega
  have LB4 : Hid (((((wordOf x.kind).data.toList ++ ([32] ++ Lib.itoa x.src)) ++ ([32] ++ Lib.itoa x.dst))).length + ([32] : List UInt8).length ≤ 2 ^ 44) := by show _ ≤ _; simp only [List.length_append, List.length_nil, List.length_cons]; omega
  have LB5 : Hid ((((((wordOf x.kind).data.toList ++ ([32] ++ Lib.itoa x.src)) ++ ([32] ++ Lib.itoa x.dst)) ++ ([32] ++ Lib.itoa x.bal))).length + ([32] : List UInt8).length ≤ 2 ^ 44) := by show _ ≤ _; simp only [List.length_append, List.length_nil, List.length_cons]; omega
  have HW : Hid (W = _) := hW
  clear hW bW h hTab hX hT wf f1 f2 f3 f4 wb wv wl i1 i2 i3 i4 hl0 ml hs hv hn hBw hblt
  clear efn
  rcases hfn with ⟨rfl, he⟩ | ⟨rfl, he⟩ | ⟨rfl, he⟩
  case inl =>
    have hnil := fun w : World => ent_nil3 w
    go_enter Tryz.func18, Tryz.ntmps18
    go_wp2_with fail
    rw [← HW.out]
    refine Calls.mono CF.out ?_
    rintro e w1 ⟨rfl, b1⟩
    obtain ⟨X, hX⟩ : ∃ X, X = w1.alloc (.cells #[.string (wordOf x.kind), .int .i64 (balOf x.kind).1, .int .i64 (balOf x.kind).2, .int .i64 (slotOf x.kind).1, .int .i64 (slotOf x.kind).2, .func (.func 49) #[] #[], .bool (votesOf x.kind)] 90) := ⟨_, rfl⟩
    have bX : Below w1.heap.size w1 X := by rw [hX]; exact (Below.refl _ _).alloc (Nat.le_refl _) _
    have bWX : Below W.heap.size W X := b1.trans (bX.mono b1.size)
    have sz : w.heap.size ≤ w1.heap.size := by have := BW.out.size; have := b1.size; omega
    have D1 : Hid (Bd T B b [] X) := D0.out.below bWX
    have E1 : Hid (Blk X w.heap.size _ _) := E0.out.keep bWX
    have G1 : Hid (Blk X w1.heap.size #[.string (wordOf x.kind), .int .i64 (balOf x.kind).1, .int .i64 (balOf x.kind).2, .int .i64 (slotOf x.kind).1, .int .i64 (slotOf x.kind).2, .func (.func 49) #[] #[], .bool (votesOf x.kind)] 90) := by show Blk _ _ _ _; rw [hX]; exact Blk.new _ _ _
    have bwX : Below w.heap.size w X := BW.out.trans (bWX.mono BW.out.size)
    have B1 : Hid (Below B w X) := bwX.mono SB.out
    have K1 : Hid (Lib.OthersKept 5 (some b) w X) := kept_below bwX
    have NEG : Hid (w1.heap.size ≠ b) := by show _ ≠ _; have := BLT.out; omega
    have HX1 : Hid (X = _) := hX
    clear hX b1 bX bWX sz bwX
    obtain ⟨g0, g1, g2, g3, g4, g5, g6⟩ := G1.out.cells7
    go_upto_region 2 with fail
    rw [← HX1.out]
    go_region_with (go_at_call 34; refine (CW.out [] (wordOf x.kind) _ ?_ ?_ ?_).mono ?_; exact Bd.below D1.out (Below.drew (Below.refl _ _)); exact Below.drew B1.out; exact LL0.out; rintro e w2 ⟨⟨zz, rfl⟩, d', b', k'⟩; have D2 : Hid (Bd T B b ((wordOf x.kind).data.toList) w2) := d'; have B2 : Hid (Below B w w2) := (Below.drew B1.out).trans b'; have K2 : Hid (Lib.OthersKept 5 (some b) w w2) := (Lib.OthersKept.drew K1.out).trans k'; have E2 : Hid (Blk w2 _ _ _) := E1.out.kept k' NEE.out (by decide); have G2 : Hid (Blk w2 _ _ _) := G1.out.kept k' NEG.out (by decide); clear d' b' k')
    clear g0 g1 g2 g3 g4 g5 g6
    obtain ⟨q0, q1, q2, q3, q4, q5, q6, q7, q8, q9, q10, q11, q12⟩ := E2.out.cells13
    go_upto_region 3 with fail
    go_region_with (go_at_call 35; refine (CN.out ((wordOf x.kind).data.toList) [32] x.src _ FF.out.1 ?_ ?_ ?_).mono ?_; exact Bd.below D2.out (Below.drew (Below.refl _ _)); exact Below.drew B2.out; exact LB2.out; rintro e w3 ⟨rfl, d', b', k'⟩; have D3 : Hid (Bd T B b (((wordOf x.kind).data.toList) ++ ([32] ++ Lib.itoa x.src)) w3) := d'; have B3 : Hid (Below B w w3) := (Below.drew B2.out).trans b'; have K3 : Hid (Lib.OthersKept 5 (some b) w w3) := (Lib.OthersKept.drew K2.out).trans k'; have E3 : Hid (Blk w3 _ _ _) := E2.out.kept k' NEE.out (by decide); have G3 : Hid (Blk w3 _ _ _) := G2.out.kept k' NEG.out (by decide); clear d' b' k')
    clear q0 q1 q2 q3 q4 q5 q6 q7 q8 q9 q10 q11 q12
    obtain ⟨q0, q1, q2, q3, q4, q5, q6, q7, q8, q9, q10, q11, q12⟩ := E3.out.cells13
    go_upto_region 4 with fail
    go_region_with (go_at_call 35; refine (CN.out (((wordOf x.kind).data.toList ++ ([32] ++ Lib.itoa x.src))) [32] x.dst _ FF.out.2.1 ?_ ?_ ?_).mono ?_; exact Bd.below D3.out (Below.drew (Below.refl _ _)); exact Below.drew B3.out; exact LB3.out; rintro e w4 ⟨rfl, d', b', k'⟩; have D4 : Hid (Bd T B b ((((wordOf x.kind).data.toList ++ ([32] ++ Lib.itoa x.src))) ++ ([32] ++ Lib.itoa x.dst)) w4) := d'; have B4 : Hid (Below B w w4) := (Below.drew B3.out).trans b'; have K4 : Hid (Lib.OthersKept 5 (some b) w w4) := (Lib.OthersKept.drew K3.out).trans k'; have E4 : Hid (Blk w4 _ _ _) := E3.out.kept k' NEE.out (by decide); have G4 : Hid (Blk w4 _ _ _) := G3.out.kept k' NEG.out (by decide); clear d' b' k')
    clear q0 q1 q2 q3 q4 q5 q6 q7 q8 q9 q10 q11 q12
    obtain ⟨q0, q1, q2, q3, q4, q5, q6, q7, q8, q9, q10, q11, q12⟩ := E4.out.cells13
    go_upto_region 5 with fail
    go_region_with (go_at_call 35; refine (CN.out ((((wordOf x.kind).data.toList ++ ([32] ++ Lib.itoa x.src)) ++ ([32] ++ Lib.itoa x.dst))) [32] x.bal _ FF.out.2.2.1 ?_ ?_ ?_).mono ?_; exact Bd.below D4.out (Below.drew (Below.refl _ _)); exact Below.drew B4.out; exact LB4.out; rintro e w5 ⟨rfl, d', b', k'⟩; have D5 : Hid (Bd T B b (((((wordOf x.kind).data.toList ++ ([32] ++ Lib.itoa x.src)) ++ ([32] ++ Lib.itoa x.dst))) ++ ([32] ++ Lib.itoa x.bal)) w5) := d'; have B5 : Hid (Below B w w5) := (Below.drew B4.out).trans b'; have K5 : Hid (Lib.OthersKept 5 (some b) w w5) := (Lib.OthersKept.drew K4.out).trans k'; have E5 : Hid (Blk w5 _ _ _) := E4.out.kept k' NEE.out (by decide); have G5 : Hid (Blk w5 _ _ _) := G4.out.kept k' NEG.out (by decide); clear d' b' k')
    clear q0 q1 q2 q3 q4 q5 q6 q7 q8 q9 q10 q11 q12
    obtain ⟨q0, q1, q2, q3, q4, q5, q6, q7, q8, q9, q10, q11, q12⟩ := E5.out.cells13
    go_upto_region 6 with fail
    go_region_with (go_at_call 35; refine (CN.out (((((wordOf x.kind).data.toList ++ ([32] ++ Lib.itoa x.src)) ++ ([32] ++ Lib.itoa x.dst)) ++ ([32] ++ Lib.itoa x.bal))) [32] x.slot _ FF.out.2.2.2 ?_ ?_ ?_).mono ?_; exact Bd.below D5.out (Below.drew (Below.refl _ _)); exact Below.drew B5.out; exact LB5.out; rintro e w6 ⟨rfl, d', b', k'⟩; have D6 : Hid (Bd T B b ((((((wordOf x.kind).data.toList ++ ([32] ++ Lib.itoa x.src)) ++ ([32] ++ Lib.itoa x.dst)) ++ ([32] ++ Lib.itoa x.bal))) ++ ([32] ++ Lib.itoa x.slot)) w6) := d'; have B6 : Hid (Below B w w6) := (Below.drew B5.out).trans b'; have K6 : Hid (Lib.OthersKept 5 (some b) w w6) := (Lib.OthersKept.drew K5.out).trans k'; have E6 : Hid (Blk w6 _ _ _) := E5.out.kept k' NEE.out (by decide); have G6 : Hid (Blk w6 _ _ _) := G5.out.kept k' NEG.out (by decide); clear d' b' k')
    clear q0 q1 q2 q3 q4 q5 q6 q7 q8 q9 q10 q11 q12
    obtain ⟨g0, g1, g2, g3, g4, g5, g6⟩ := G6.out.cells7
    have D6' : Hid (Bd T B b (headM x) w6) := by show Bd _ _ _ _ _; rw [← EH.out]; exact D6.out
    clear D0 D1 D2 D3 D4 D5 D6 E1 E2 E3 E4 E5 G1 G2 G3 G4 G5 B1 B2 B3 B4 B5 K1 K2 K3 K4 K5 E0 CF
    have EM : Hid ((headM x ++ [32]) ++ et = midM x) := ME1.out he
    clear ME0 ME1 he
    go_wp2_with fail
    clear g0 g1 g2 g3 g4 g5 g6
    refine (CW.out (headM x) ⟨#[32]⟩ w6 D6'.out B6.out (by have := HL1.out; show _ + 1 ≤ _; omega)).mono ?_
    rintro e w7 ⟨⟨zz, rfl⟩, d', b', k'⟩
    have D7 : Hid (Bd T B b (headM x ++ [32]) w7) := d'
    have B7 : Hid (Below B w w7) := B6.out.trans b'
    have K7 : Hid (Lib.OthersKept 5 (some b) w w7) := K6.out.trans k'
    have E7 : Hid (Blk w7 _ _ _) := E6.out.kept k' NEE.out (by decide)
    have LB7 : Hid ((headM x ++ [32]).length ≤ 2 ^ 42) := by show _ ≤ _; have := HL1.out; simp only [List.length_append, List.length_cons, List.length_nil]; omega
    clear d' b' k'
    obtain ⟨q0, q1, q2, q3, q4, q5, q6, q7, q8, q9, q10, q11, q12⟩ := E7.out.cells13
    go_upto_region 9 with fail
    go_region_with (go_at_call 36; refine (CE.out (headM x ++ [32]) _ ?_ ?_ ?_).mono ?_; exact Bd.below D7.out (Below.drew (Below.refl _ _)); exact Below.drew B7.out; exact LB7.out; rintro e w8 ⟨rfl, d', b', k'⟩; have D8 : Hid (Bd T B b ((headM x ++ [32]) ++ et) w8) := d'; have B8 : Hid (Below B w w8) := (Below.drew B7.out).trans b'; have K8 : Hid (Lib.OthersKept 5 (some b) w w8) := (Lib.OthersKept.drew K7.out).trans k'; have E8 : Hid (Blk w8 _ _ _) := E7.out.kept k' NEE.out (by decide); clear d' b' k')
    clear q0 q1 q2 q3 q4 q5 q6 q7 q8 q9 q10 q11 q12
    obtain ⟨q0, q1, q2, q3, q4, q5, q6, q7, q8, q9, q10, q11, q12⟩ := E8.out.cells13
    go_wp2_with fail
    clear q0 q1 q2 q3 q4 q5 q6 q7 q8 q9 q10 q11 q12
    have D9 : Hid (Bd T B b (VT 0) w8) := by show Bd _ _ _ _ _; rw [V0.out, ← EM.out]; exact D8.out
    have B9 : Hid (Below B w w8) := B8.out
    have K9 : Hid (Lib.OthersKept 5 (some b) w w8) := K8.out
    go_loopw [64] (fun i wr => ∃ j : Nat, j ≤ x.vs.length ∧ i = .int .i64 j ∧ Hid (Bd T B b (VT j) wr) ∧ Hid (Below B w wr) ∧ Hid (Lib.OthersKept 5 (some b) w wr)) (fun i _ => x.vs.length - (intOf i).toNat)
    case atStart => exact ⟨0, Nat.zero_le _, rfl, D9.out, B9.out, K9.out⟩
    case round =>
      obtain ⟨j, hj, rfl, DR, BR, KR⟩ := hrel
      have hn40 := HN.out
      by_cases hlt : j < x.vs.length
      · have hji : (j : Int) < (x.vs.length : Int) := by omega
        rcases (HX.out wr BR.out).2.2 with hh | ⟨b1, o1, ha, hb1, hh⟩
        · rw [hh] at hlt; simp at hlt
        obtain ⟨⟨d0, d1, d2, d3, d4, d5, d6, d7⟩, _⟩ := hh j hlt
        have CVj : Hid (∀ (l' : List UInt8) (w' : World), Bd T B b l' w' → Below B w w' → l'.length ≤ 2 ^ 41 → Calls Tryz.prog 37 #[.pointer (some ⟨b, 0, none⟩), .agg #[.int .i64 (x.vs.getD j v0).bal, .bool (x.vs.getD j v0).b.n, .int .i64 (x.vs.getD j v0).b.p, .int .i64 (x.vs.getD j v0).b.q, .slice (x.vs.getD j v0).a1 (x.vs.getD j v0).b.xs.length (x.vs.getD j v0).c1, .slice (x.vs.getD j v0).a2 (x.vs.getD j v0).b.ys.length (x.vs.getD j v0).c2, .int .i64 (x.vs.getD j v0).b.v, .int .i64 (x.vs.getD j v0).b.k]] w' fun e w'' => e = .returned (.tuple #[]) ∧ Bd T B b (l' ++ voteText (x.vs.getD j v0).body) w'' ∧ Below B w' w'' ∧ Lib.OthersKept 5 (some b) w' w'') := fun l' w' => CV.out j l' w' hlt
        have NX : Hid (VT j ++ voteText (x.vs.getD j v0).body = VT (j + 1)) := (VS.out j).symm
        have LVj : Hid ((VT j).length ≤ 2 ^ 41) := VL.out j (by omega)
        clear hh
        generalize x.vs.getD j v0 = y at d0 d1 d2 d3 d4 d5 d6 d7 CVj NX
        have hblt := DR.out.lt
        obtain ⟨Y, hY⟩ : ∃ Y, Y = wr.alloc (.cells #[.int .i64 y.bal, .bool y.b.n, .int .i64 y.b.p, .int .i64 y.b.q, .slice y.a1 y.b.xs.length y.c1, .slice y.a2 y.b.ys.length y.c2, .int .i64 y.b.v, .int .i64 y.b.k] 56) := ⟨_, rfl⟩
        have bY : Below wr.heap.size wr Y := by rw [hY]; exact (Below.refl _ _).alloc (Nat.le_refl _) _
        have BY : Hid (Below B w Y) := BR.out.trans (bY.mono (Nat.le_trans SB.out BR.out.size))
        have DY : Hid (Bd T B b (VT j) Y) := DR.out.below bY
        have KY : Hid (Lib.OthersKept 5 (some b) w Y) := KR.out.trans (kept_below bY)
        have RY : Hid (Blk Y wr.heap.size #[.int .i64 y.bal, .bool y.b.n, .int .i64 y.b.p, .int .i64 y.b.q, .slice y.a1 y.b.xs.length y.c1, .slice y.a2 y.b.ys.length y.c2, .int .i64 y.b.v, .int .i64 y.b.k] 56) := by show Blk _ _ _ _; rw [hY]; exact Blk.new _ _ _
        have HY2 : Hid (Y = _) := hY
        clear hY bY hblt
        rw [ha]
        go_upto_region 13 with fail
        rw [← HY2.out]
        clear d0 d1 d2 d3 d4 d5 d6 d7
        obtain ⟨s0, s1, s2, s3, s4, s5, s6, s7⟩ := RY.out.cells8
        go_wp2_with fail
        refine (CVj.out (VT j) Y DY.out BY.out LVj.out).mono ?_
        rintro e wz ⟨rfl, d', b', k'⟩
        have DZ : Hid (Bd T B b (VT (j + 1)) wz) := by show Bd _ _ _ _ _; rw [← NX.out]; exact d'
        have BZ : Hid (Below B w wz) := BY.out.trans b'
        have KZ : Hid (Lib.OthersKept 5 (some b) w wz) := KY.out.trans k'
        clear d' b' k' s0 s1 s2 s3 s4 s5 s6 s7
        go_wp2_with fail
        go_roundw
        case rel => exact ⟨j + 1, by omega, by go_num, DZ.out, BZ.out, KZ.out⟩
        case measure => simp [intOf]; omega
      · have hji : ¬ (j : Int) < (x.vs.length : Int) := by omega
        obtain rfl : j = x.vs.length := by omega
        go_wp2_with fail
        first | go_end0 | refine bodyPost_ret (results_none rfl _ _ _) rfl ?_
        exact ⟨rfl, DR.out, BR.out⟩
  case inr.inl =>
    have hnil := fun w : World => ent_nil7 w
    go_enter Tryz.func18, Tryz.ntmps18
    go_wp2_with fail
    rw [← HW.out]
    refine Calls.mono CF.out ?_
    rintro e w1 ⟨rfl, b1⟩
    obtain ⟨X, hX⟩ : ∃ X, X = w1.alloc (.cells #[.string (wordOf x.kind), .int .i64 (balOf x.kind).1, .int .i64 (balOf x.kind).2, .int .i64 (slotOf x.kind).1, .int .i64 (slotOf x.kind).2, .func (.func 50) #[] #[], .bool (votesOf x.kind)] 90) := ⟨_, rfl⟩
    have bX : Below w1.heap.size w1 X := by rw [hX]; exact (Below.refl _ _).alloc (Nat.le_refl _) _
    have bWX : Below W.heap.size W X := b1.trans (bX.mono b1.size)
    have sz : w.heap.size ≤ w1.heap.size := by have := BW.out.size; have := b1.size; omega
    have D1 : Hid (Bd T B b [] X) := D0.out.below bWX
    have E1 : Hid (Blk X w.heap.size _ _) := E0.out.keep bWX
    have G1 : Hid (Blk X w1.heap.size #[.string (wordOf x.kind), .int .i64 (balOf x.kind).1, .int .i64 (balOf x.kind).2, .int .i64 (slotOf x.kind).1, .int .i64 (slotOf x.kind).2, .func (.func 50) #[] #[], .bool (votesOf x.kind)] 90) := by show Blk _ _ _ _; rw [hX]; exact Blk.new _ _ _
    have bwX : Below w.heap.size w X := BW.out.trans (bWX.mono BW.out.size)
    have B1 : Hid (Below B w X) := bwX.mono SB.out
    have K1 : Hid (Lib.OthersKept 5 (some b) w X) := kept_below bwX
    have NEG : Hid (w1.heap.size ≠ b) := by show _ ≠ _; have := BLT.out; omega
    have HX1 : Hid (X = _) := hX
    clear hX b1 bX bWX sz bwX
    obtain ⟨g0, g1, g2, g3, g4, g5, g6⟩ := G1.out.cells7
    go_upto_region 2 with fail
    rw [← HX1.out]
    go_region_with (go_at_call 34; refine (CW.out [] (wordOf x.kind) _ ?_ ?_ ?_).mono ?_; exact Bd.below D1.out (Below.drew (Below.refl _ _)); exact Below.drew B1.out; exact LL0.out; rintro e w2 ⟨⟨zz, rfl⟩, d', b', k'⟩; have D2 : Hid (Bd T B b ((wordOf x.kind).data.toList) w2) := d'; have B2 : Hid (Below B w w2) := (Below.drew B1.out).trans b'; have K2 : Hid (Lib.OthersKept 5 (some b) w w2) := (Lib.OthersKept.drew K1.out).trans k'; have E2 : Hid (Blk w2 _ _ _) := E1.out.kept k' NEE.out (by decide); have G2 : Hid (Blk w2 _ _ _) := G1.out.kept k' NEG.out (by decide); clear d' b' k')
    clear g0 g1 g2 g3 g4 g5 g6
    obtain ⟨q0, q1, q2, q3, q4, q5, q6, q7, q8, q9, q10, q11, q12⟩ := E2.out.cells13
    go_upto_region 3 with fail
    go_region_with (go_at_call 35; refine (CN.out ((wordOf x.kind).data.toList) [32] x.src _ FF.out.1 ?_ ?_ ?_).mono ?_; exact Bd.below D2.out (Below.drew (Below.refl _ _)); exact Below.drew B2.out; exact LB2.out; rintro e w3 ⟨rfl, d', b', k'⟩; have D3 : Hid (Bd T B b (((wordOf x.kind).data.toList) ++ ([32] ++ Lib.itoa x.src)) w3) := d'; have B3 : Hid (Below B w w3) := (Below.drew B2.out).trans b'; have K3 : Hid (Lib.OthersKept 5 (some b) w w3) := (Lib.OthersKept.drew K2.out).trans k'; have E3 : Hid (Blk w3 _ _ _) := E2.out.kept k' NEE.out (by decide); have G3 : Hid (Blk w3 _ _ _) := G2.out.kept k' NEG.out (by decide); clear d' b' k')
    clear q0 q1 q2 q3 q4 q5 q6 q7 q8 q9 q10 q11 q12
    obtain ⟨q0, q1, q2, q3, q4, q5, q6, q7, q8, q9, q10, q11, q12⟩ := E3.out.cells13
    go_upto_region 4 with fail
    go_region_with (go_at_call 35; refine (CN.out (((wordOf x.kind).data.toList ++ ([32] ++ Lib.itoa x.src))) [32] x.dst _ FF.out.2.1 ?_ ?_ ?_).mono ?_; exact Bd.below D3.out (Below.drew (Below.refl _ _)); exact Below.drew B3.out; exact LB3.out; rintro e w4 ⟨rfl, d', b', k'⟩; have D4 : Hid (Bd T B b ((((wordOf x.kind).data.toList ++ ([32] ++ Lib.itoa x.src))) ++ ([32] ++ Lib.itoa x.dst)) w4) := d'; have B4 : Hid (Below B w w4) := (Below.drew B3.out).trans b'; have K4 : Hid (Lib.OthersKept 5 (some b) w w4) := (Lib.OthersKept.drew K3.out).trans k'; have E4 : Hid (Blk w4 _ _ _) := E3.out.kept k' NEE.out (by decide); have G4 : Hid (Blk w4 _ _ _) := G3.out.kept k' NEG.out (by decide); clear d' b' k')
    clear q0 q1 q2 q3 q4 q5 q6 q7 q8 q9 q10 q11 q12
    obtain ⟨q0, q1, q2, q3, q4, q5, q6, q7, q8, q9, q10, q11, q12⟩ := E4.out.cells13
    go_upto_region 5 with fail
    go_region_with (go_at_call 35; refine (CN.out ((((wordOf x.kind).data.toList ++ ([32] ++ Lib.itoa x.src)) ++ ([32] ++ Lib.itoa x.dst))) [32] x.bal _ FF.out.2.2.1 ?_ ?_ ?_).mono ?_; exact Bd.below D4.out (Below.drew (Below.refl _ _)); exact Below.drew B4.out; exact LB4.out; rintro e w5 ⟨rfl, d', b', k'⟩; have D5 : Hid (Bd T B b (((((wordOf x.kind).data.toList ++ ([32] ++ Lib.itoa x.src)) ++ ([32] ++ Lib.itoa x.dst))) ++ ([32] ++ Lib.itoa x.bal)) w5) := d'; have B5 : Hid (Below B w w5) := (Below.drew B4.out).trans b'; have K5 : Hid (Lib.OthersKept 5 (some b) w w5) := (Lib.OthersKept.drew K4.out).trans k'; have E5 : Hid (Blk w5 _ _ _) := E4.out.kept k' NEE.out (by decide); have G5 : Hid (Blk w5 _ _ _) := G4.out.kept k' NEG.out (by decide); clear d' b' k')
    clear q0 q1 q2 q3 q4 q5 q6 q7 q8 q9 q10 q11 q12
    obtain ⟨q0, q1, q2, q3, q4, q5, q6, q7, q8, q9, q10, q11, q12⟩ := E5.out.cells13
    go_upto_region 6 with fail
    go_region_with (go_at_call 35; refine (CN.out (((((wordOf x.kind).data.toList ++ ([32] ++ Lib.itoa x.src)) ++ ([32] ++ Lib.itoa x.dst)) ++ ([32] ++ Lib.itoa x.bal))) [32] x.slot _ FF.out.2.2.2 ?_ ?_ ?_).mono ?_; exact Bd.below D5.out (Below.drew (Below.refl _ _)); exact Below.drew B5.out; exact LB5.out; rintro e w6 ⟨rfl, d', b', k'⟩; have D6 : Hid (Bd T B b ((((((wordOf x.kind).data.toList ++ ([32] ++ Lib.itoa x.src)) ++ ([32] ++ Lib.itoa x.dst)) ++ ([32] ++ Lib.itoa x.bal))) ++ ([32] ++ Lib.itoa x.slot)) w6) := d'; have B6 : Hid (Below B w w6) := (Below.drew B5.out).trans b'; have K6 : Hid (Lib.OthersKept 5 (some b) w w6) := (Lib.OthersKept.drew K5.out).trans k'; have E6 : Hid (Blk w6 _ _ _) := E5.out.kept k' NEE.out (by decide); have G6 : Hid (Blk w6 _ _ _) := G5.out.kept k' NEG.out (by decide); clear d' b' k')
    clear q0 q1 q2 q3 q4 q5 q6 q7 q8 q9 q10 q11 q12
    obtain ⟨g0, g1, g2, g3, g4, g5, g6⟩ := G6.out.cells7
    have D6' : Hid (Bd T B b (headM x) w6) := by show Bd _ _ _ _ _; rw [← EH.out]; exact D6.out
    clear D0 D1 D2 D3 D4 D5 D6 E1 E2 E3 E4 E5 G1 G2 G3 G4 G5 B1 B2 B3 B4 B5 K1 K2 K3 K4 K5 E0 CF
    have EM : Hid ((headM x ++ [32]) ++ et = midM x) := ME1.out he
    clear ME0 ME1 he
    go_wp2_with fail
    clear g0 g1 g2 g3 g4 g5 g6
    refine (CW.out (headM x) ⟨#[32]⟩ w6 D6'.out B6.out (by have := HL1.out; show _ + 1 ≤ _; omega)).mono ?_
    rintro e w7 ⟨⟨zz, rfl⟩, d', b', k'⟩
    have D7 : Hid (Bd T B b (headM x ++ [32]) w7) := d'
    have B7 : Hid (Below B w w7) := B6.out.trans b'
    have K7 : Hid (Lib.OthersKept 5 (some b) w w7) := K6.out.trans k'
    have E7 : Hid (Blk w7 _ _ _) := E6.out.kept k' NEE.out (by decide)
    have LB7 : Hid ((headM x ++ [32]).length ≤ 2 ^ 42) := by show _ ≤ _; have := HL1.out; simp only [List.length_append, List.length_cons, List.length_nil]; omega
    clear d' b' k'
    obtain ⟨q0, q1, q2, q3, q4, q5, q6, q7, q8, q9, q10, q11, q12⟩ := E7.out.cells13
    go_upto_region 9 with fail
    go_region_with (go_at_call 36; refine (CE.out (headM x ++ [32]) _ ?_ ?_ ?_).mono ?_; exact Bd.below D7.out (Below.drew (Below.refl _ _)); exact Below.drew B7.out; exact LB7.out; rintro e w8 ⟨rfl, d', b', k'⟩; have D8 : Hid (Bd T B b ((headM x ++ [32]) ++ et) w8) := d'; have B8 : Hid (Below B w w8) := (Below.drew B7.out).trans b'; have K8 : Hid (Lib.OthersKept 5 (some b) w w8) := (Lib.OthersKept.drew K7.out).trans k'; have E8 : Hid (Blk w8 _ _ _) := E7.out.kept k' NEE.out (by decide); clear d' b' k')
    clear q0 q1 q2 q3 q4 q5 q6 q7 q8 q9 q10 q11 q12
    obtain ⟨q0, q1, q2, q3, q4, q5, q6, q7, q8, q9, q10, q11, q12⟩ := E8.out.cells13
    go_wp2_with fail
    clear q0 q1 q2 q3 q4 q5 q6 q7 q8 q9 q10 q11 q12
    have D9 : Hid (Bd T B b (VT 0) w8) := by show Bd _ _ _ _ _; rw [V0.out, ← EM.out]; exact D8.out
    have B9 : Hid (Below B w w8) := B8.out
    have K9 : Hid (Lib.OthersKept 5 (some b) w w8) := K8.out
    go_loopw [64] (fun i wr => ∃ j : Nat, j ≤ x.vs.length ∧ i = .int .i64 j ∧ Hid (Bd T B b (VT j) wr) ∧ Hid (Below B w wr) ∧ Hid (Lib.OthersKept 5 (some b) w wr)) (fun i _ => x.vs.length - (intOf i).toNat)
    case atStart => exact ⟨0, Nat.zero_le _, rfl, D9.out, B9.out, K9.out⟩
    case round =>
      obtain ⟨j, hj, rfl, DR, BR, KR⟩ := hrel
      have hn40 := HN.out
      by_cases hlt : j < x.vs.length
      · have hji : (j : Int) < (x.vs.length : Int) := by omega
        rcases (HX.out wr BR.out).2.2 with hh | ⟨b1, o1, ha, hb1, hh⟩
        · rw [hh] at hlt; simp at hlt
        obtain ⟨⟨d0, d1, d2, d3, d4, d5, d6, d7⟩, _⟩ := hh j hlt
        have CVj : Hid (∀ (l' : List UInt8) (w' : World), Bd T B b l' w' → Below B w w' → l'.length ≤ 2 ^ 41 → Calls Tryz.prog 37 #[.pointer (some ⟨b, 0, none⟩), .agg #[.int .i64 (x.vs.getD j v0).bal, .bool (x.vs.getD j v0).b.n, .int .i64 (x.vs.getD j v0).b.p, .int .i64 (x.vs.getD j v0).b.q, .slice (x.vs.getD j v0).a1 (x.vs.getD j v0).b.xs.length (x.vs.getD j v0).c1, .slice (x.vs.getD j v0).a2 (x.vs.getD j v0).b.ys.length (x.vs.getD j v0).c2, .int .i64 (x.vs.getD j v0).b.v, .int .i64 (x.vs.getD j v0).b.k]] w' fun e w'' => e = .returned (.tuple #[]) ∧ Bd T B b (l' ++ voteText (x.vs.getD j v0).body) w'' ∧ Below B w' w'' ∧ Lib.OthersKept 5 (some b) w' w'') := fun l' w' => CV.out j l' w' hlt
        have NX : Hid (VT j ++ voteText (x.vs.getD j v0).body = VT (j + 1)) := (VS.out j).symm
        have LVj : Hid ((VT j).length ≤ 2 ^ 41) := VL.out j (by omega)
        clear hh
        generalize x.vs.getD j v0 = y at d0 d1 d2 d3 d4 d5 d6 d7 CVj NX
        have hblt := DR.out.lt
        obtain ⟨Y, hY⟩ : ∃ Y, Y = wr.alloc (.cells #[.int .i64 y.bal, .bool y.b.n, .int .i64 y.b.p, .int .i64 y.b.q, .slice y.a1 y.b.xs.length y.c1, .slice y.a2 y.b.ys.length y.c2, .int .i64 y.b.v, .int .i64 y.b.k] 56) := ⟨_, rfl⟩
        have bY : Below wr.heap.size wr Y := by rw [hY]; exact (Below.refl _ _).alloc (Nat.le_refl _) _
        have BY : Hid (Below B w Y) := BR.out.trans (bY.mono (Nat.le_trans SB.out BR.out.size))
        have DY : Hid (Bd T B b (VT j) Y) := DR.out.below bY
        have KY : Hid (Lib.OthersKept 5 (some b) w Y) := KR.out.trans (kept_below bY)
        have RY : Hid (Blk Y wr.heap.size #[.int .i64 y.bal, .bool y.b.n, .int .i64 y.b.p, .int .i64 y.b.q, .slice y.a1 y.b.xs.length y.c1, .slice y.a2 y.b.ys.length y.c2, .int .i64 y.b.v, .int .i64 y.b.k] 56) := by show Blk _ _ _ _; rw [hY]; exact Blk.new _ _ _
        have HY2 : Hid (Y = _) := hY
        clear hY bY hblt
        rw [ha]
        go_upto_region 13 with fail
        rw [← HY2.out]
        clear d0 d1 d2 d3 d4 d5 d6 d7
        obtain ⟨s0, s1, s2, s3, s4, s5, s6, s7⟩ := RY.out.cells8
        go_wp2_with fail
        refine (CVj.out (VT j) Y DY.out BY.out LVj.out).mono ?_
        rintro e wz ⟨rfl, d', b', k'⟩
        have DZ : Hid (Bd T B b (VT (j + 1)) wz) := by show Bd _ _ _ _ _; rw [← NX.out]; exact d'
        have BZ : Hid (Below B w wz) := BY.out.trans b'
        have KZ : Hid (Lib.OthersKept 5 (some b) w wz) := KY.out.trans k'
        clear d' b' k' s0 s1 s2 s3 s4 s5 s6 s7
        go_wp2_with fail
        go_roundw
        case rel => exact ⟨j + 1, by omega, by go_num, DZ.out, BZ.out, KZ.out⟩
        case measure => simp [intOf]; omega
      · have hji : ¬ (j : Int) < (x.vs.length : Int) := by omega
        obtain rfl : j = x.vs.length := by omega
        go_wp2_with fail
        first | go_end0 | refine bodyPost_ret (results_none rfl _ _ _) rfl ?_
        exact ⟨rfl, DR.out, BR.out⟩
  case inr.inr =>
    have hnil := fun w : World => ent_nil0 w
    go_enter Tryz.func18, Tryz.ntmps18
    go_wp2_with fail
    rw [← HW.out]
    refine Calls.mono CF.out ?_
    rintro e w1 ⟨rfl, b1⟩
    obtain ⟨X, hX⟩ : ∃ X, X = w1.alloc (.cells #[.string (wordOf x.kind), .int .i64 (balOf x.kind).1, .int .i64 (balOf x.kind).2, .int .i64 (slotOf x.kind).1, .int .i64 (slotOf x.kind).2, .nilFunc, .bool (votesOf x.kind)] 90) := ⟨_, rfl⟩
    have bX : Below w1.heap.size w1 X := by rw [hX]; exact (Below.refl _ _).alloc (Nat.le_refl _) _
    have bWX : Below W.heap.size W X := b1.trans (bX.mono b1.size)
    have sz : w.heap.size ≤ w1.heap.size := by have := BW.out.size; have := b1.size; omega
    have D1 : Hid (Bd T B b [] X) := D0.out.below bWX
    have E1 : Hid (Blk X w.heap.size _ _) := E0.out.keep bWX
    have G1 : Hid (Blk X w1.heap.size #[.string (wordOf x.kind), .int .i64 (balOf x.kind).1, .int .i64 (balOf x.kind).2, .int .i64 (slotOf x.kind).1, .int .i64 (slotOf x.kind).2, .nilFunc, .bool (votesOf x.kind)] 90) := by show Blk _ _ _ _; rw [hX]; exact Blk.new _ _ _
    have bwX : Below w.heap.size w X := BW.out.trans (bWX.mono BW.out.size)
    have B1 : Hid (Below B w X) := bwX.mono SB.out
    have K1 : Hid (Lib.OthersKept 5 (some b) w X) := kept_below bwX
    have NEG : Hid (w1.heap.size ≠ b) := by show _ ≠ _; have := BLT.out; omega
    have HX1 : Hid (X = _) := hX
    clear hX b1 bX bWX sz bwX
    obtain ⟨g0, g1, g2, g3, g4, g5, g6⟩ := G1.out.cells7
    go_upto_region 2 with fail
    rw [← HX1.out]
    go_region_with (go_at_call 34; refine (CW.out [] (wordOf x.kind) _ ?_ ?_ ?_).mono ?_; exact Bd.below D1.out (Below.drew (Below.refl _ _)); exact Below.drew B1.out; exact LL0.out; rintro e w2 ⟨⟨zz, rfl⟩, d', b', k'⟩; have D2 : Hid (Bd T B b ((wordOf x.kind).data.toList) w2) := d'; have B2 : Hid (Below B w w2) := (Below.drew B1.out).trans b'; have K2 : Hid (Lib.OthersKept 5 (some b) w w2) := (Lib.OthersKept.drew K1.out).trans k'; have E2 : Hid (Blk w2 _ _ _) := E1.out.kept k' NEE.out (by decide); have G2 : Hid (Blk w2 _ _ _) := G1.out.kept k' NEG.out (by decide); clear d' b' k')
    clear g0 g1 g2 g3 g4 g5 g6
    obtain ⟨q0, q1, q2, q3, q4, q5, q6, q7, q8, q9, q10, q11, q12⟩ := E2.out.cells13
    go_upto_region 3 with fail
    go_region_with (go_at_call 35; refine (CN.out ((wordOf x.kind).data.toList) [32] x.src _ FF.out.1 ?_ ?_ ?_).mono ?_; exact Bd.below D2.out (Below.drew (Below.refl _ _)); exact Below.drew B2.out; exact LB2.out; rintro e w3 ⟨rfl, d', b', k'⟩; have D3 : Hid (Bd T B b (((wordOf x.kind).data.toList) ++ ([32] ++ Lib.itoa x.src)) w3) := d'; have B3 : Hid (Below B w w3) := (Below.drew B2.out).trans b'; have K3 : Hid (Lib.OthersKept 5 (some b) w w3) := (Lib.OthersKept.drew K2.out).trans k'; have E3 : Hid (Blk w3 _ _ _) := E2.out.kept k' NEE.out (by decide); have G3 : Hid (Blk w3 _ _ _) := G2.out.kept k' NEG.out (by decide); clear d' b' k')
    clear q0 q1 q2 q3 q4 q5 q6 q7 q8 q9 q10 q11 q12
    obtain ⟨q0, q1, q2, q3, q4, q5, q6, q7, q8, q9, q10, q11, q12⟩ := E3.out.cells13
    go_upto_region 4 with fail
    go_region_with (go_at_call 35; refine (CN.out (((wordOf x.kind).data.toList ++ ([32] ++ Lib.itoa x.src))) [32] x.dst _ FF.out.2.1 ?_ ?_ ?_).mono ?_; exact Bd.below D3.out (Below.drew (Below.refl _ _)); exact Below.drew B3.out; exact LB3.out; rintro e w4 ⟨rfl, d', b', k'⟩; have D4 : Hid (Bd T B b ((((wordOf x.kind).data.toList ++ ([32] ++ Lib.itoa x.src))) ++ ([32] ++ Lib.itoa x.dst)) w4) := d'; have B4 : Hid (Below B w w4) := (Below.drew B3.out).trans b'; have K4 : Hid (Lib.OthersKept 5 (some b) w w4) := (Lib.OthersKept.drew K3.out).trans k'; have E4 : Hid (Blk w4 _ _ _) := E3.out.kept k' NEE.out (by decide); have G4 : Hid (Blk w4 _ _ _) := G3.out.kept k' NEG.out (by decide); clear d' b' k')
    clear q0 q1 q2 q3 q4 q5 q6 q7 q8 q9 q10 q11 q12
    obtain ⟨q0, q1, q2, q3, q4, q5, q6, q7, q8, q9, q10, q11, q12⟩ := E4.out.cells13
    go_upto_region 5 with fail
    go_region_with (go_at_call 35; refine (CN.out ((((wordOf x.kind).data.toList ++ ([32] ++ Lib.itoa x.src)) ++ ([32] ++ Lib.itoa x.dst))) [32] x.bal _ FF.out.2.2.1 ?_ ?_ ?_).mono ?_; exact Bd.below D4.out (Below.drew (Below.refl _ _)); exact Below.drew B4.out; exact LB4.out; rintro e w5 ⟨rfl, d', b', k'⟩; have D5 : Hid (Bd T B b (((((wordOf x.kind).data.toList ++ ([32] ++ Lib.itoa x.src)) ++ ([32] ++ Lib.itoa x.dst))) ++ ([32] ++ Lib.itoa x.bal)) w5) := d'; have B5 : Hid (Below B w w5) := (Below.drew B4.out).trans b'; have K5 : Hid (Lib.OthersKept 5 (some b) w w5) := (Lib.OthersKept.drew K4.out).trans k'; have E5 : Hid (Blk w5 _ _ _) := E4.out.kept k' NEE.out (by decide); have G5 : Hid (Blk w5 _ _ _) := G4.out.kept k' NEG.out (by decide); clear d' b' k')
    clear q0 q1 q2 q3 q4 q5 q6 q7 q8 q9 q10 q11 q12
    obtain ⟨q0, q1, q2, q3, q4, q5, q6, q7, q8, q9, q10, q11, q12⟩ := E5.out.cells13
    go_upto_region 6 with fail
    go_region_with (go_at_call 35; refine (CN.out (((((wordOf x.kind).data.toList ++ ([32] ++ Lib.itoa x.src)) ++ ([32] ++ Lib.itoa x.dst)) ++ ([32] ++ Lib.itoa x.bal))) [32] x.slot _ FF.out.2.2.2 ?_ ?_ ?_).mono ?_; exact Bd.below D5.out (Below.drew (Below.refl _ _)); exact Below.drew B5.out; exact LB5.out; rintro e w6 ⟨rfl, d', b', k'⟩; have D6 : Hid (Bd T B b ((((((wordOf x.kind).data.toList ++ ([32] ++ Lib.itoa x.src)) ++ ([32] ++ Lib.itoa x.dst)) ++ ([32] ++ Lib.itoa x.bal))) ++ ([32] ++ Lib.itoa x.slot)) w6) := d'; have B6 : Hid (Below B w w6) := (Below.drew B5.out).trans b'; have K6 : Hid (Lib.OthersKept 5 (some b) w w6) := (Lib.OthersKept.drew K5.out).trans k'; have E6 : Hid (Blk w6 _ _ _) := E5.out.kept k' NEE.out (by decide); have G6 : Hid (Blk w6 _ _ _) := G5.out.kept k' NEG.out (by decide); clear d' b' k')
    clear q0 q1 q2 q3 q4 q5 q6 q7 q8 q9 q10 q11 q12
    obtain ⟨g0, g1, g2, g3, g4, g5, g6⟩ := G6.out.cells7
    have D6' : Hid (Bd T B b (headM x) w6) := by show Bd _ _ _ _ _; rw [← EH.out]; exact D6.out
    clear D0 D1 D2 D3 D4 D5 D6 E1 E2 E3 E4 E5 G1 G2 G3 G4 G5 B1 B2 B3 B4 B5 K1 K2 K3 K4 K5 E0 CF
    have EM : Hid (headM x = midM x) := ME0.out he
    obtain ⟨q0, q1, q2, q3, q4, q5, q6, q7, q8, q9, q10, q11, q12⟩ := E6.out.cells13
    clear ME0 ME1 he
    go_wp2_with fail
    clear q0 q1 q2 q3 q4 q5 q6 q7 q8 q9 q10 q11 q12 g0 g1 g2 g3 g4 g5 g6
    have D9 : Hid (Bd T B b (VT 0) w6) := by show Bd _ _ _ _ _; rw [V0.out, ← EM.out]; exact D6'.out
    have B9 : Hid (Below B w w6) := B6.out
    have K9 : Hid (Lib.OthersKept 5 (some b) w w6) := K6.out
    go_loopw [64] (fun i wr => ∃ j : Nat, j ≤ x.vs.length ∧ i = .int .i64 j ∧ Hid (Bd T B b (VT j) wr) ∧ Hid (Below B w wr) ∧ Hid (Lib.OthersKept 5 (some b) w wr)) (fun i _ => x.vs.length - (intOf i).toNat)
    case atStart => exact ⟨0, Nat.zero_le _, rfl, D9.out, B9.out, K9.out⟩
    case round =>
      obtain ⟨j, hj, rfl, DR, BR, KR⟩ := hrel
      have hn40 := HN.out
      by_cases hlt : j < x.vs.length
      · have hji : (j : Int) < (x.vs.length : Int) := by omega
        rcases (HX.out wr BR.out).2.2 with hh | ⟨b1, o1, ha, hb1, hh⟩
        · rw [hh] at hlt; simp at hlt
        obtain ⟨⟨d0, d1, d2, d3, d4, d5, d6, d7⟩, _⟩ := hh j hlt
        have CVj : Hid (∀ (l' : List UInt8) (w' : World), Bd T B b l' w' → Below B w w' → l'.length ≤ 2 ^ 41 → Calls Tryz.prog 37 #[.pointer (some ⟨b, 0, none⟩), .agg #[.int .i64 (x.vs.getD j v0).bal, .bool (x.vs.getD j v0).b.n, .int .i64 (x.vs.getD j v0).b.p, .int .i64 (x.vs.getD j v0).b.q, .slice (x.vs.getD j v0).a1 (x.vs.getD j v0).b.xs.length (x.vs.getD j v0).c1, .slice (x.vs.getD j v0).a2 (x.vs.getD j v0).b.ys.length (x.vs.getD j v0).c2, .int .i64 (x.vs.getD j v0).b.v, .int .i64 (x.vs.getD j v0).b.k]] w' fun e w'' => e = .returned (.tuple #[]) ∧ Bd T B b (l' ++ voteText (x.vs.getD j v0).body) w'' ∧ Below B w' w'' ∧ Lib.OthersKept 5 (some b) w' w'') := fun l' w' => CV.out j l' w' hlt
        have NX : Hid (VT j ++ voteText (x.vs.getD j v0).body = VT (j + 1)) := (VS.out j).symm
        have LVj : Hid ((VT j).length ≤ 2 ^ 41) := VL.out j (by omega)
        clear hh
        generalize x.vs.getD j v0 = y at d0 d1 d2 d3 d4 d5 d6 d7 CVj NX
        have hblt := DR.out.lt
        obtain ⟨Y, hY⟩ : ∃ Y, Y = wr.alloc (.cells #[.int .i64 y.bal, .bool y.b.n, .int .i64 y.b.p, .int .i64 y.b.q, .slice y.a1 y.b.xs.length y.c1, .slice y.a2 y.b.ys.length y.c2, .int .i64 y.b.v, .int .i64 y.b.k] 56) := ⟨_, rfl⟩
        have bY : Below wr.heap.size wr Y := by rw [hY]; exact (Below.refl _ _).alloc (Nat.le_refl _) _
        have BY : Hid (Below B w Y) := BR.out.trans (bY.mono (Nat.le_trans SB.out BR.out.size))
        have DY : Hid (Bd T B b (VT j) Y) := DR.out.below bY
        have KY : Hid (Lib.OthersKept 5 (some b) w Y) := KR.out.trans (kept_below bY)
        have RY : Hid (Blk Y wr.heap.size #[.int .i64 y.bal, .bool y.b.n, .int .i64 y.b.p, .int .i64 y.b.q, .slice y.a1 y.b.xs.length y.c1, .slice y.a2 y.b.ys.length y.c2, .int .i64 y.b.v, .int .i64 y.b.k] 56) := by show Blk _ _ _ _; rw [hY]; exact Blk.new _ _ _
        have HY2 : Hid (Y = _) := hY
        clear hY bY hblt
        rw [ha]
        go_upto_region 13 with fail
        rw [← HY2.out]
        clear d0 d1 d2 d3 d4 d5 d6 d7
        obtain ⟨s0, s1, s2, s3, s4, s5, s6, s7⟩ := RY.out.cells8
        go_wp2_with fail
        refine (CVj.out (VT j) Y DY.out BY.out LVj.out).mono ?_
        rintro e wz ⟨rfl, d', b', k'⟩
        have DZ : Hid (Bd T B b (VT (j + 1)) wz) := by show Bd _ _ _ _ _; rw [← NX.out]; exact d'
        have BZ : Hid (Below B w wz) := BY.out.trans b'
        have KZ : Hid (Lib.OthersKept 5 (some b) w wz) := KY.out.trans k'
        clear d' b' k' s0 s1 s2 s3 s4 s5 s6 s7
        go_wp2_with fail
        go_roundw
        case rel => exact ⟨j + 1, by omega, by go_num, DZ.out, BZ.out, KZ.out⟩
        case measure => simp [intOf]; omega
      · have hji : ¬ (j : Int) < (x.vs.length : Int) := by omega
        obtain rfl : j = x.vs.length := by omega
        go_wp2_with fail
        first | go_end0 | refine bodyPost_ret (results_none rfl _ _ _) rfl ?_
        exact ⟨rfl, DR.out, BR.out⟩
end Go.Proofs.YtildonpdmmliaaaGreatDoor.Own

namespace Go.Proofs.YtildonpdmmliaaaGreatDoor.Own
open Go.RowKit
set_option linter.unusedVariables false
set_option linter.unusedSimpArgs false

theorem entFn_cases (kind : Int) : (entFn kind = .func (.func 49) #[] #[] ∧ hasEnt kind = true) ∨ (entFn kind = .func (.func 50) #[] #[] ∧ hasEnt kind = true) ∨ (entFn kind = .nilFunc ∧ hasEnt kind = false) := by
  by_cases k3 : kind = 3 ∨ kind = 5
  · exact .inl ⟨by simp only [entFn, k3, if_true], hasEnt_iff.2 (by omega)⟩
  · by_cases k7 : kind = 7
    · exact .inr (.inl ⟨by rw [k7]; rfl, hasEnt_iff.2 (by omega)⟩)
    · exact .inr (.inr ⟨by simp only [entFn, k3, k7, if_false], by rw [← Bool.not_eq_true, hasEnt_iff]; omega⟩)
theorem coreText_ne {x : MM} (h : msgOk x = true) : coreText x ≠ [] := by
  have hk := msgOk_kind h
  have hw : (wordOf x.kind).data.toList ≠ [] := by
    rw [← ByteArray.toList_eq]
    intro e
    have := (word_list x.kind).1 e
    have k2 : isKind x.kind = true := by simp [isKind, hk]
    rw [k2] at this
    cases this
  have hh : headM x ≠ [] := by
    unfold headM
    intro e
    simp only [List.append_eq_nil_iff] at e
    exact hw e.1.1.1.1
  have hm : midM x ≠ [] := by
    unfold midM
    split
    · intro e; simp at e
    · exact hh
  have hv : ∀ j, votesTo (midM x) (bodies x.vs) j ≠ [] := by
    intro j
    induction j with
    | zero => exact hm
    | succ j ih => intro e; simp only [votesTo, List.append_eq_nil_iff] at e; exact ih e.1
  exact hv _

set_option maxRecDepth 100000 in
set_option maxHeartbeats 4000000 in
theorem implMsgText (x : MM) (w : World) (ht : Tab w) (h : AtM w x) (f : FitM x) (wf : WfM x) (hs : x.b.xs.length + x.b.ys.length ≤ 2 ^ 21) (hv : ∀ i, i < x.vs.length → (x.vs.getD i v0).b.xs.length + (x.vs.getD i v0).b.ys.length ≤ 2 ^ 21) :
    Calls Tryz.prog 7 #[.agg #[.int .i64 x.kind, .int .i64 x.src, .int .i64 x.dst, .int .i64 x.bal, .int .i64 x.slot, .bool x.b.n, .int .i64 x.b.p, .int .i64 x.b.q, .slice x.a1 x.b.xs.length x.c1, .slice x.a2 x.b.ys.length x.c2, .int .i64 x.b.v, .int .i64 x.b.k, .slice x.a x.vs.length x.c]] w fun e w' => e = .returned (.string (str (msgText x))) ∧ Below w.heap.size w w' := by
  obtain ⟨V, hV⟩ : ∃ V, V = w.alloc (.cells #[.int .i64 x.kind, .int .i64 x.src, .int .i64 x.dst, .int .i64 x.bal, .int .i64 x.slot, .bool x.b.n, .int .i64 x.b.p, .int .i64 x.b.q, .slice x.a1 x.b.xs.length x.c1, .slice x.a2 x.b.ys.length x.c2, .int .i64 x.b.v, .int .i64 x.b.k, .slice x.a x.vs.length x.c] 44) := ⟨_, rfl⟩
  have BV : Hid (Below w.heap.size w V) := by show Below _ _ _; rw [hV]; exact (Below.refl _ _).alloc (Nat.le_refl _) _
  have GV : Hid (Blk V w.heap.size #[.int .i64 x.kind, .int .i64 x.src, .int .i64 x.dst, .int .i64 x.bal, .int .i64 x.slot, .bool x.b.n, .int .i64 x.b.p, .int .i64 x.b.q, .slice x.a1 x.b.xs.length x.c1, .slice x.a2 x.b.ys.length x.c2, .int .i64 x.b.v, .int .i64 x.b.k, .slice x.a x.vs.length x.c] 44) := by show Blk _ _ _ _; rw [hV]; exact Blk.new _ _ _
  have HV : Hid (V = _) := hV
  clear hV
  have CO : Hid (Calls Tryz.prog 17 #[.agg #[.int .i64 x.kind, .int .i64 x.src, .int .i64 x.dst, .int .i64 x.bal, .int .i64 x.slot, .bool x.b.n, .int .i64 x.b.p, .int .i64 x.b.q, .slice x.a1 x.b.xs.length x.c1, .slice x.a2 x.b.ys.length x.c2, .int .i64 x.b.v, .int .i64 x.b.k, .slice x.a x.vs.length x.c]] V fun e w' => e = .returned (.bool (msgOk x)) ∧ Below V.heap.size V w') := implMsgOk x V (h.below BV.out) f
  cases hok : msgOk x with
  | false =>
    have ET : Hid (msgText x = []) := by show _ = _; simp [msgText, hok]
    rw [ET.out]
    rw [hok] at CO
    clear h f wf hs hv hok ht
    go_enter Tryz.func7, Tryz.ntmps7
    go_wp2_with fail
    rw [← HV.out]
    refine Calls.mono CO.out ?_
    rintro e w1 ⟨rfl, b1⟩
    have B1 : Hid (Below w.heap.size w w1) := BV.out.trans (b1.mono BV.out.size)
    clear b1
    go_wp2_with fail
    go_ret
    exact ⟨rfl, B1.out⟩
  | true =>
    have ET : Hid (msgText x = coreText x) := by show _ = _; simp [msgText, hok]
    have NE := coreText_ne hok
    have hn : x.vs.length ≤ 40 := by rw [← bodies_len]; exact (msgOk_votes hok).1
    rw [ET.out]
    rw [hok] at CO
    have CM : Hid (∀ (U W : World), Below V.heap.size V U → W = U.alloc (.cells #[.pointer none, .slice none 0 0] 68) → Calls Tryz.prog 18 #[.pointer (some ⟨U.heap.size, 0, none⟩), .agg #[.int .i64 x.kind, .int .i64 x.src, .int .i64 x.dst, .int .i64 x.bal, .int .i64 x.slot, .bool x.b.n, .int .i64 x.b.p, .int .i64 x.b.q, .slice x.a1 x.b.xs.length x.c1, .slice x.a2 x.b.ys.length x.c2, .int .i64 x.b.v, .int .i64 x.b.k, .slice x.a x.vs.length x.c]] W fun e w' => e = .returned (.tuple #[]) ∧ Bd 68 U.heap.size U.heap.size (coreText x) w' ∧ Below U.heap.size W w') := fun U W hU hW => by
      have bW : Below U.heap.size U W := by rw [hW]; exact (Below.refl _ _).alloc (Nat.le_refl _) _
      have dW : Bd 68 U.heap.size U.heap.size [] W := by rw [hW]; exact Lib.fresh_isBuilder _ _ _
      have bU : Below w.heap.size w U := BV.out.trans (hU.mono BV.out.size)
      have bb : ∀ w', Below U.heap.size W w' → Below w.heap.size w w' := fun w' h => bU.trans ((bW.trans h).mono bU.size)
      exact implMessageF (entFn x.kind) 68 headsMsg U.heap.size U.heap.size x W dW wf (fun w' h => tab_below ht ht (bb w' h) (Nat.le_refl _)) (fun w' h' => h.below (bb w' h')) hs hv hn bW.size rfl (entFn_cases x.kind)
    have CS : Hid (∀ (B : Nat) (w' : World), Bd 68 B B (coreText x) w' → Calls Tryz.prog 19 #[.pointer (some ⟨B, 0, none⟩)] w' fun e w'' => e = .returned (.string (str (coreText x))) ∧ Below B w' w'') := fun B w' h => stringG _ B B _ w' h NE
    clear h f wf hs hv hok ht NE hn
    generalize coreText x = FIN at CM CS ⊢
    go_enter Tryz.func7, Tryz.ntmps7
    go_wp2_with fail
    rw [← HV.out]
    refine Calls.mono CO.out ?_
    rintro e U ⟨rfl, b1⟩
    have BU : Hid (Below V.heap.size V U) := b1
    have GU : Hid (Blk U w.heap.size _ _) := GV.out.keep b1
    clear b1
    obtain ⟨W, hW⟩ : ∃ W, W = U.alloc (.cells #[.pointer none, .slice none 0 0] 68) := ⟨_, rfl⟩
    have BW : Hid (Below U.heap.size U W) := by show Below _ _ _; rw [hW]; exact (Below.refl _ _).alloc (Nat.le_refl _) _
    have GW : Hid (Blk W w.heap.size _ _) := GU.out.keep BW.out
    have CMW : Hid _ := CM.out U W BU.out hW
    have HW : Hid (W = _) := hW
    clear hW
    obtain ⟨q0, q1, q2, q3, q4, q5, q6, q7, q8, q9, q10, q11, q12⟩ := GW.out.cells13
    go_upto_region 4 with fail
    rw [← HW.out]
    go_wp2_with fail
    refine Calls.mono CMW.out ?_
    rintro e w1 ⟨rfl, d1, b1⟩
    have D1 : Hid (Bd _ _ _ _ w1) := d1
    have B1 : Hid (Below U.heap.size U w1) := BW.out.trans b1
    clear d1 b1 q0 q1 q2 q3 q4 q5 q6 q7 q8 q9 q10 q11 q12
    go_wp2_with fail
    refine (CS.out _ w1 D1.out).mono ?_
    rintro e w2 ⟨rfl, b2⟩
    have B2 : Hid (Below w.heap.size w w2) := BV.out.trans ((BU.out.trans ((B1.out.trans b2).mono BU.out.size)).mono BV.out.size)
    clear b2
    go_wp2_with fail
    go_ret
    exact ⟨rfl, B2.out⟩
end Go.Proofs.YtildonpdmmliaaaGreatDoor.Own
