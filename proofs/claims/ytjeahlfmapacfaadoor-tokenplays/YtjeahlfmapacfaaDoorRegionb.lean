/-
  Layer 2 (hash): 'd.state = d.state.after(wordsOf(d.tail))', in whatever order.
-/
import Derived.Test.YtjeahlfmapacfaaDoorRegion
namespace Go.Proofs.YtjeahlfmapacfaaDoor.Oct
open Go.RowKit Sha

theorem g4 : R8[4]? = some o4 := by kernel_rfl
theorem g8 : R8[8]? = some o8 := by kernel_rfl
theorem g9 : R8[9]? = some o9 := by kernel_rfl
theorem d4 : o4.dst = some 45 := rfl
theorem d8 : o8.dst = some 49 := rfl
theorem d9 : o9.dst = some 50 := rfl
theorem s45 (s : St) : (Tryd.prog.info? 104).map (·.size) = some (V s.words).length := by show _ = some 8; kernel_rfl
theorem s46 (tail : List UInt8) (ht : tail.length = 64) : (Tryd.prog.info? 85).map (·.size) = some (U tail).length := by rw [U_length, ht]; kernel_rfl

section
variable (d N : Nat) (s : St) (tail : List UInt8) (Q : Exit → Act → World → Prop)
/-- the load of the state -/
theorem load8a (w : World) (hB : Blk w d 106 (cellsOf s tail N)) (K : Act → World → Prop) (b : Act) (e44 : b.eval (.tmp 44) = .pointer (some ⟨d, 1, none⟩)) (h : K (b.put (some 45) (.agg (V s.words).toArray)) w) : wpOp Tryd.prog R8 Q 4 K b w := by
  refine op_wp g4 rfl ?_
  have e := hB.range 1 8
  rw [cellsOf_state] at e
  exact wp_load_mid 104 (.tmp 44) rfl d 1 e44 (V s.words) _ e Tryd.underlying104 rfl (s45 s) h
/-- the load of the tail -/
theorem load8b (ht : tail.length = 64) (w : World) (hB : Blk w d 106 (cellsOf s tail N)) (K : Act → World → Prop) (b : Act) (e48 : b.eval (.tmp 48) = .pointer (some ⟨d, 9, none⟩)) (h : K (b.put (some 49) (.agg (U tail).toArray)) w) : wpOp Tryd.prog R8 Q 8 K b w := by
  refine op_wp g8 rfl ?_
  have e := hB.range 9 64
  rw [cellsOf_tail ht] at e
  exact wp_load_mid 85 (.tmp 48) rfl d 9 e48 (U tail) _ e arr46 rfl (s46 tail ht) h
/-- the words -/
theorem call8 (ht : tail.length = 64) (w w1 : World) (hB1 : Blk w1 d 106 (cellsOf s tail N)) (hk1 : KT w1) (hg1 : w.grownBy w1 (some d)) (K : Act → World → Prop) (b : Act) (e49 : b.eval (.tmp 49) = .agg (U tail).toArray)
    (hK : ∀ w6, Blk w6 d 106 (cellsOf s tail N) → KT w6 → w.grownBy w6 (some d) → K (b.put (some 50) (.agg (V (wordsOf tail)).toArray)) w6) : wpOp Tryd.prog R8 Q 9 K b w1 := by
  refine op_call g9 rfl 63 #[b.eval (.tmp 49)] (call_one rfl _) ?_
  rw [e49]
  refine (wordsOf_is tail _ ht rfl w1).mono ?_
  rintro e w6 ⟨rfl, hb6⟩
  exact ⟨_, rfl, hK w6 (hB1.below hb6 hB1.lt) (hk1.below hb6) (grown_tr hg1 (grown_of_below hb6 _))⟩
end

theorem stV (s : St) : (V s.words).toArray = #[.int .u32 (s.a.toNat : Int), .int .u32 (s.b.toNat : Int), .int .u32 (s.c.toNat : Int), .int .u32 (s.d.toNat : Int), .int .u32 (s.e.toNat : Int), .int .u32 (s.f.toNat : Int), .int .u32 (s.g.toNat : Int), .int .u32 (s.h.toNat : Int)] := rfl

/-- which of the operations have run -/
def L7 : Array Bool := #[true, true, true, true, false, true, true, true, false, false, false, false, false, false]
theorem r7 : Region.ready .any R8 L7 = [4, 8] := by kernel_rfl
def L4 : Array Bool := #[true, true, true, true, true, true, true, true, false, false, false, false, false, false]
def L8 : Array Bool := #[true, true, true, true, false, true, true, true, true, false, false, false, false, false]
def L48 : Array Bool := #[true, true, true, true, true, true, true, true, true, false, false, false, false, false]
def L89 : Array Bool := #[true, true, true, true, false, true, true, true, true, true, false, false, false, false]
def L489 : Array Bool := #[true, true, true, true, true, true, true, true, true, true, false, false, false, false]
theorem r4 : Region.ready .any R8 L4 = [8] := by kernel_rfl
theorem r8 : Region.ready .any R8 L8 = [4, 9] := by kernel_rfl
theorem r48 : Region.ready .any R8 L48 = [9] := by kernel_rfl
theorem r89 : Region.ready .any R8 L89 = [4] := by kernel_rfl
theorem m74 : L7.setIfInBounds 4 true = L4 := by decide
theorem m78 : L7.setIfInBounds 8 true = L8 := by decide
theorem m48 : L4.setIfInBounds 8 true = L48 := by decide
theorem m84 : L8.setIfInBounds 4 true = L48 := by decide
theorem m89 : L8.setIfInBounds 9 true = L89 := by decide
theorem m489 : L48.setIfInBounds 9 true = L489 := by decide
theorem m894 : L89.setIfInBounds 4 true = L489 := by decide

set_option maxHeartbeats 1000000 in
/-- behind the addresses -/
theorem mid8 (d N : Nat) (s : St) (tail : List UInt8) (ht : tail.length = 64) (w w1 : World) (hB1 : Blk w1 d 106 (cellsOf s tail N)) (hk1 : KT w1) (hg1 : w.grownBy w1 (some d)) (Q : Exit → Act → World → Prop)
    (b : Act) (hs : b.tmps.size = 54) (e41 : b.eval (.tmp 41) = .pointer (some ⟨d, 0, none⟩)) (e44 : b.eval (.tmp 44) = .pointer (some ⟨d, 1, none⟩)) (e48 : b.eval (.tmp 48) = .pointer (some ⟨d, 9, none⟩))
    (h : ∀ w8, Hid (Blk w8 d 106 (cellsOf (Sha.step s tail) tail N)) → Hid (w.grownBy w8 (some d)) → ∀ x51, Q .normal ((((((b.put (some 45) (.agg (V s.words).toArray)).put (some 49) (.agg (U tail).toArray)).put (some 50) (.agg (V (wordsOf tail)).toArray)).put (some 51) x51).put (some 52) (.pointer (some ⟨d, 0, none⟩))).put (some 53) (.pointer (some ⟨d, 1, none⟩))) w8) :
    wpAny Tryd.prog .any R8 Q 7 L7 b w1 := by
  have hlast : ∀ w6, Blk w6 d 106 (cellsOf s tail N) → KT w6 → w.grownBy w6 (some d) → wpAny Tryd.prog .any R8 Q 4 L489 (((b.put (some 45) (.agg (V s.words).toArray)).put (some 49) (.agg (U tail).toArray)).put (some 50) (.agg (V (wordsOf tail)).toArray)) w6 := by
    intro w6 hB6 hk6 hg6
    refine tail8 d N s tail ht w w6 hB6 hk6 hg6 Q L489 _ ?_ ?_ ?_ ?_ (by kernel_rfl) (by kernel_rfl) (by kernel_rfl) (by kernel_rfl) (by kernel_rfl) h
    · rw [put_size, put_size, put_size, hs]
    · rw [ev_other _ _ _ _ (by decide), ev_other _ _ _ _ (by decide), ev_other _ _ _ _ (by decide), e41]
    · rw [ev_other _ _ _ _ (by decide), ev_other _ _ _ _ (by decide), ev_same _ _ _ (by rw [hs]; decide)]; rfl
    · rw [ev_same _ _ _ (by rw [put_size, put_size, hs]; decide)]
  refine two r7 ?_ ?_
  · refine load8a d N s tail Q w1 hB1 _ b e44 ?_
    rw [m74]
    refine one r4 ?_
    refine load8b d N s tail Q ht w1 hB1 _ _ (by rw [ev_other _ _ _ _ (by decide), e48]) ?_
    rw [m48]
    refine one r48 ?_
    refine call8 d N s tail Q ht w w1 hB1 hk1 hg1 _ _ (by rw [ev_same _ _ _ (by rw [put_size, hs]; decide)]) ?_
    rw [m489]
    exact hlast
  · refine load8b d N s tail Q ht w1 hB1 _ b e48 ?_
    rw [m78]
    refine two r8 ?_ ?_
    · refine load8a d N s tail Q w1 hB1 _ _ (by rw [ev_other _ _ _ _ (by decide), e44]) ?_
      rw [m84, Act.put_comm _ (x := some 49) (y := some 45) _ _ (by simp)]
      refine one r48 ?_
      refine call8 d N s tail Q ht w w1 hB1 hk1 hg1 _ _ (by rw [ev_same _ _ _ (by rw [put_size, hs]; decide)]) ?_
      rw [m489]
      exact hlast
    · refine call8 d N s tail Q ht w w1 hB1 hk1 hg1 _ _ (by rw [ev_same _ _ _ (by rw [hs]; decide)]) ?_
      rw [m89]
      intro w6 hB6 hk6 hg6
      refine one r89 ?_
      refine load8a d N s tail Q w6 hB6 _ _ (by rw [ev_other _ _ _ _ (by decide), ev_other _ _ _ _ (by decide), e44]) ?_
      rw [m894, Act.put_comm _ (x := some 50) (y := some 45) _ _ (by simp), Act.put_comm _ (x := some 49) (y := some 45) _ _ (by simp)]
      exact hlast w6 hB6 hk6 hg6

set_option linter.unusedSimpArgs false in
set_option maxHeartbeats 2000000 in
theorem region8 (d N : Nat) (s : St) (tail : List UInt8) (ht : tail.length = 64) (w : World) (hB : Blk w d 106 (cellsOf s tail N)) (hk : KT w) (Q : Exit → Act → World → Prop) (hQ : ∀ c a (t : Nat) v w, Q (.panic c) (Act.put a (some t) v) w → Q (.panic c) a w)
    (a : Act) (hs : a.tmps.size = 54) (e0 : a.eval (.tmp 0) = .pointer (some ⟨d, 0, none⟩))
    (h : ∀ w8, Hid (Blk w8 d 106 (cellsOf (Sha.step s tail) tail N)) → Hid (w.grownBy w8 (some d)) → ∀ x45 x49 x50 x51, Q .normal (behind a d x45 x49 x50 x51) w8) :
    Code.wp Tryd.prog (Code.region 8 R8 true) Q a w := by
  refine wp_region_any (by kernel_rfl) ?_
  show wpAny Tryd.prog .any R8 Q 14 _ _ _
  have hB1 : Blk { w with drawn := w.drawn + 1 } d 106 (cellsOf s tail N) := hB
  have hk1 : KT { w with drawn := w.drawn + 1 } := hk
  have hg1 : w.grownBy { w with drawn := w.drawn + 1 } (some d) := ⟨rfl, rfl, rfl, Nat.le_refl _, fun _ _ _ => rfl⟩
  generalize ({ w with drawn := w.drawn + 1 } : World) = w1 at hB1 hk1 hg1 ⊢
  refine wpAny_take (i := 0) (oi := o0) (v := .pointer (some ⟨d, 0, none⟩)) rfl (by kernel_rfl) (by kernel_rfl) (by kernel_rfl) (fun c x y h => hQ c _ _ _ _ h) (Or.inl ⟨wanted_plain rfl, y_move rfl e0⟩) ?_
  refine wpAny_take (i := 1) (oi := o1) (v := .pointer (some ⟨d, 0, none⟩)) rfl (by kernel_rfl) (by kernel_rfl) (by kernel_rfl) (fun c x y h => hQ c _ _ _ _ h) (Or.inl ⟨wanted_plain rfl, y_move rfl (by simp only [o0, o1, o2, o3, o5, o6, o7, o4, o8, o9, ev_same, ev_other, put_size, hs, Nat.reduceLT, ne_eq, Nat.reduceEqDiff, not_false_eq_true, e0])⟩) ?_
  refine wpAny_take (i := 2) (oi := o2) (v := .pointer (some ⟨d, 0, none⟩)) rfl (by kernel_rfl) (by kernel_rfl) (by kernel_rfl) (fun c x y h => hQ c _ _ _ _ h) (Or.inl ⟨wanted_plain rfl, y_nil rfl (by simp only [o0, o1, o2, o3, o5, o6, o7, o4, o8, o9, ev_same, ev_other, put_size, hs, Nat.reduceLT, ne_eq, Nat.reduceEqDiff, not_false_eq_true, e0])⟩) ?_
  refine wpAny_take (i := 3) (oi := o3) (v := .pointer (some ⟨d, 1, none⟩)) rfl (by kernel_rfl) (by kernel_rfl) (by kernel_rfl) (fun c x y h => hQ c _ _ _ _ h) (Or.inl ⟨wanted_plain rfl, y_field1 rfl (by simp only [o0, o1, o2, o3, o5, o6, o7, o4, o8, o9, ev_same, ev_other, put_size, hs, Nat.reduceLT, ne_eq, Nat.reduceEqDiff, not_false_eq_true, e0])⟩) ?_
  refine wpAny_take (i := 5) (oi := o5) (v := .pointer (some ⟨d, 0, none⟩)) rfl (by kernel_rfl) (by kernel_rfl) (by kernel_rfl) (fun c x y h => hQ c _ _ _ _ h) (Or.inl ⟨wanted_plain rfl, y_move rfl (by simp only [o0, o1, o2, o3, o5, o6, o7, o4, o8, o9, ev_same, ev_other, put_size, hs, Nat.reduceLT, ne_eq, Nat.reduceEqDiff, not_false_eq_true, e0])⟩) ?_
  refine wpAny_take (i := 6) (oi := o6) (v := .pointer (some ⟨d, 0, none⟩)) rfl (by kernel_rfl) (by kernel_rfl) (by kernel_rfl) (fun c x y h => hQ c _ _ _ _ h) (Or.inl ⟨wanted_plain rfl, y_nil rfl (by simp only [o0, o1, o2, o3, o5, o6, o7, o4, o8, o9, ev_same, ev_other, put_size, hs, Nat.reduceLT, ne_eq, Nat.reduceEqDiff, not_false_eq_true, e0])⟩) ?_
  refine wpAny_take (i := 7) (oi := o7) (v := .pointer (some ⟨d, 9, none⟩)) rfl (by kernel_rfl) (by kernel_rfl) (by kernel_rfl) (fun c x y h => hQ c _ _ _ _ h) (Or.inl ⟨wanted_plain rfl, y_field2 rfl (by simp only [o0, o1, o2, o3, o5, o6, o7, o4, o8, o9, ev_same, ev_other, put_size, hs, Nat.reduceLT, ne_eq, Nat.reduceEqDiff, not_false_eq_true, e0])⟩) ?_
  refine mid8 d N s tail ht w w1 hB1 hk1 hg1 Q _ ?_ ?_ ?_ ?_ (fun w8 hb hg x51 => h w8 hb hg _ _ _ x51)
  · simp only [o0, o1, o2, o3, o5, o6, o7, put_size, hs]
  · simp only [o0, o1, o2, o3, o5, o6, o7, o4, o8, o9, ev_same, ev_other, put_size, hs, Nat.reduceLT, ne_eq, Nat.reduceEqDiff, not_false_eq_true, e0]
  · simp only [o0, o1, o2, o3, o5, o6, o7, o4, o8, o9, ev_same, ev_other, put_size, hs, Nat.reduceLT, ne_eq, Nat.reduceEqDiff, not_false_eq_true, e0]
  · simp only [o0, o1, o2, o3, o5, o6, o7, o4, o8, o9, ev_same, ev_other, put_size, hs, Nat.reduceLT, ne_eq, Nat.reduceEqDiff, not_false_eq_true, e0]

#print axioms region8
end Go.Proofs.YtjeahlfmapacfaaDoor.Oct
