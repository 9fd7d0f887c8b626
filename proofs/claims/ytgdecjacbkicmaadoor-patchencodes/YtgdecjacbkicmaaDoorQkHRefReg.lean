/-
  Layer 2 (hash): 's = block(s, m[i:i+64], k)' of the reference, in whatever order.
-/
import Derived.Test.YtgdecjacbkicmaaDoorQkG
import Derived.Test.YtgdecjacbkicmaaDoorQkF
/- Layer 2 (hash): 's = block(s, m[i:i+64], k)' of the reference, in whatever order. -/
namespace Go.Proofs.YtgdecjacbkicmaaDoor.Hsh
open Go.RowKit Sha

def BlockIs : Prop := ∀ (s : St) (bs : List UInt8) (a : Option Addr) (cp : Nat) (w : World), In w a 64 cp bs →
    Calls Tryd.prog 34 #[.agg (V s.words).toArray, .slice a 64 cp, .agg (V kTab).toArray] w fun e w' => e = .returned (.agg (V (Sha.step s bs).words).toArray) ∧ Below w.heap.size w w'

def p0 : Oper := { dst := some 48, op := Op.load 73 (Operand.tmp 6), type := 73, pos := "ref.go:64", after := #[], guard := none }
def p1 : Oper := { dst := some 49, op := Op.move (Operand.tmp 3), type := 28, pos := "ref.go:64", after := #[], guard := none }
def p2 : Oper := { dst := some 50, op := Op.move (Operand.tmp 8), type := 3, pos := "ref.go:64", after := #[], guard := none }
def p3 : Oper := { dst := some 51, op := Op.move (Operand.tmp 8), type := 3, pos := "ref.go:64", after := #[], guard := none }
def p4 : Oper := { dst := some 52, op := Op.binOp BinOp.add 3 (Operand.tmp 51) (Operand.const (Value.int IntKind.i64 64)) 3, type := 3, pos := "ref.go:64", after := #[{ on := 3, ground := Ground.data }], guard := none }
def p5 : Oper := { dst := some 53, op := Op.slice 28 (Operand.tmp 49) (some (Operand.tmp 50)) (some (Operand.tmp 52)) none, type := 28, pos := "ref.go:64", after := #[{ on := 1, ground := Ground.data }, { on := 2, ground := Ground.data }, { on := 4, ground := Ground.data }], guard := none }
def p6 : Oper := { dst := some 54, op := Op.load 74 (Operand.tmp 7), type := 74, pos := "ref.go:64", after := #[], guard := none }
def p7 : Oper := { dst := some 55, op := Op.call { callee := Callee.value (Operand.func 34), args := #[Operand.tmp 48, Operand.tmp 53, Operand.tmp 54], argTypes := #[73, 28, 74] }, type := 73, pos := "ref.go:64", after := #[{ on := 0, ground := Ground.data }, { on := 5, ground := Ground.data }, { on := 6, ground := Ground.data }], guard := none }
def p8 : Oper := { dst := none, op := Op.store 73 (Operand.tmp 6) (Operand.tmp 55), type := 0, pos := "ref.go:64", after := #[{ on := 7, ground := Ground.data }, { on := 7, ground := Ground.chain }, { on := 0, ground := Ground.phase }, { on := 1, ground := Ground.phase }, { on := 2, ground := Ground.phase }, { on := 3, ground := Ground.phase }, { on := 4, ground := Ground.phase }, { on := 5, ground := Ground.phase }, { on := 6, ground := Ground.phase }, { on := 7, ground := Ground.phase }], guard := none }
def R14 : Array Oper := #[p0, p1, p2, p3, p4, p5, p6, p7, p8]

theorem h0 : R14[0]? = some p0 := by kernel_rfl
theorem h6 : R14[6]? = some p6 := by kernel_rfl
theorem h7 : R14[7]? = some p7 := by kernel_rfl
theorem h8 : R14[8]? = some p8 := by kernel_rfl
def M5 : Array Bool := #[false, true, true, true, true, true, false, false, false]
def M0 : Array Bool := #[true, true, true, true, true, true, false, false, false]
def M6 : Array Bool := #[false, true, true, true, true, true, true, false, false]
def M06 : Array Bool := #[true, true, true, true, true, true, true, false, false]
def M7 : Array Bool := #[true, true, true, true, true, true, true, true, false]
def M8 : Array Bool := #[true, true, true, true, true, true, true, true, true]
theorem rM5 : Region.ready .any R14 M5 = [0, 6] := by kernel_rfl
theorem rM0 : Region.ready .any R14 M0 = [6] := by kernel_rfl
theorem rM6 : Region.ready .any R14 M6 = [0] := by kernel_rfl
theorem rM06 : Region.ready .any R14 M06 = [7] := by kernel_rfl
theorem rM7 : Region.ready .any R14 M7 = [8] := by kernel_rfl
theorem rM8 : Region.ready .any R14 M8 = [] := by kernel_rfl
theorem n50 : M5.setIfInBounds 0 true = M0 := by decide
theorem n56 : M5.setIfInBounds 6 true = M6 := by decide
theorem n06 : M0.setIfInBounds 6 true = M06 := by decide
theorem n60 : M6.setIfInBounds 0 true = M06 := by decide
theorem n67 : M06.setIfInBounds 7 true = M7 := by decide
theorem n78 : M7.setIfInBounds 8 true = M8 := by decide

theorem y_add64 {o : Oper} {a : Act} {i : Nat} (hi : i < 1000000) (ho : o.op = Op.binOp BinOp.add 3 (Operand.tmp 51) (Operand.const (Value.int IntKind.i64 64)) 3) (hx : a.eval (.tmp 51) = .int .i64 (i : Int)) (w : World) : (execOp a.eval o).run Tryd.prog w = .ok (.value (.int .i64 ((i : Int) + 64))) w := by
  have hw : IntKind.i64.wrap ((i : Int) + 64) = (i : Int) + 64 := by rw [IntKind.wrap_i64]; omega
  have hc : a.eval (.const (Value.int IntKind.i64 64)) = .int .i64 64 := rfl
  unfold execOp
  simp only [ho, hx, hc]
  go_simp
theorem y_slice64 {o : Oper} {a : Act} {g M c i : Nat} (hM : i + 64 ≤ M) (hc : M ≤ c) (ho : o.op = Op.slice 28 (Operand.tmp 49) (some (Operand.tmp 50)) (some (Operand.tmp 52)) none) (h1 : a.eval (.tmp 49) = .slice (some ⟨g, 0, none⟩) M c) (h2 : a.eval (.tmp 50) = .int .i64 (i : Int)) (h3 : a.eval (.tmp 52) = .int .i64 ((i : Int) + 64)) (w : World) :
    (execOp a.eval o).run Tryd.prog w = .ok (.value (.slice (some ⟨g, i, none⟩) 64 (c - i))) w := by
  have q1 : (i : Int) + 64 ≤ (c : Int) := by omega
  have q2 : ((i : Int) + 64).toNat = i + 64 := by omega
  have q3 : ¬ c = i := by omega
  have q4 : i + 64 ≤ c := by omega
  unfold execOp
  simp only [ho, h1, h2, h3, Option.map_some]
  go_simp
  intro h
  omega

section
variable (Q : Exit → Act → World → Prop)
theorem ld0 (bS : Nat) (s : St) (w : World) (hB : Blk w bS 73 (V s.words)) (K : Act → World → Prop) (b : Act) (e6 : b.eval (.tmp 6) = .pointer (some ⟨bS, 0, none⟩)) (h : K (b.put (some 48) (.agg (V s.words).toArray)) w) : wpOp Tryd.prog R14 Q 0 K b w := by
  refine op_wp h0 rfl ?_
  have e := hB.range 0 8
  exact wp_load_mid 73 (.tmp 6) rfl bS 0 e6 (V s.words) _ e Tryd.underlying73 rfl (by rw [size44]; rfl) h
theorem ld6 (bK : Nat) (w : World) (hB : Blk w bK 74 (V kTab)) (K : Act → World → Prop) (b : Act) (e7 : b.eval (.tmp 7) = .pointer (some ⟨bK, 0, none⟩)) (h : K (b.put (some 54) (.agg (V kTab).toArray)) w) : wpOp Tryd.prog R14 Q 6 K b w := by
  refine op_wp h6 rfl ?_
  have e := hB.range 0 64
  exact wp_load_mid 74 (.tmp 7) rfl bK 0 e7 (V kTab) _ e Tryd.underlying74 rfl (by rw [size52]; rfl) h
end
theorem call_three {o : Oper} {a : Act} {ts : Array TypeId} (ho : o.op = .call { callee := .value (.func 34), args := #[.tmp 48, .tmp 53, .tmp 54], argTypes := ts }) (w : World) : (execOp a.eval o).run Tryd.prog w = .ok (.enter 34 #[a.eval (.tmp 48), a.eval (.tmp 53), a.eval (.tmp 54)]) w := by
  unfold execOp; simp only [ho]; go_simp

/-- the act behind the statement -/
def behind14 (a : Act) (g c i M : Nat) (x48 x54 x55 : Value) : Act :=
  (((((((a.put (some 49) (.slice (some ⟨g, 0, none⟩) M c)).put (some 50) (.int .i64 (i : Int))).put (some 51) (.int .i64 (i : Int))).put (some 52) (.int .i64 ((i : Int) + 64))).put (some 53) (.slice (some ⟨g, i, none⟩) 64 (c - i))).put (some 48) x48).put (some 54) x54).put (some 55) x55

set_option maxHeartbeats 1000000 in
theorem tail14 (HBL : BlockIs) (bS : Nat) (s : St) (bs : List UInt8) (g c i : Nat) (w w1 : World) (hB : Blk w1 bS 73 (V s.words)) (hin : In w1 (some ⟨g, i, none⟩) 64 (c - i) bs) (hg : w.grownBy w1 (some bS)) (Q : Exit → Act → World → Prop)
    (b : Act) (hs : b.tmps.size = 74) (e6 : b.eval (.tmp 6) = .pointer (some ⟨bS, 0, none⟩)) (e48 : b.eval (.tmp 48) = .agg (V s.words).toArray) (e53 : b.eval (.tmp 53) = .slice (some ⟨g, i, none⟩) 64 (c - i)) (e54 : b.eval (.tmp 54) = .agg (V kTab).toArray)
    (h : ∀ w8, Hid (Blk w8 bS 73 (V (Sha.step s bs).words)) → Hid (w.grownBy w8 (some bS)) → ∀ x55, Q .normal (b.put (some 55) x55) w8) : wpAny Tryd.prog .any R14 Q 2 M06 b w1 := by
  refine one rM06 (op_call h7 rfl 34 #[b.eval (.tmp 48), b.eval (.tmp 53), b.eval (.tmp 54)] (call_three rfl _) ?_)
  rw [e48, e53, e54]
  refine (HBL s bs _ _ w1 hin).mono ?_
  rintro e w6 ⟨rfl, hb6⟩
  refine ⟨_, rfl, ?_⟩
  have hB6 := hB.below hb6 hB.lt
  generalize hx : Value.agg (V (Sha.step s bs).words).toArray = x55
  rw [n67, show p7.dst = some 55 from rfl]
  refine one rM7 (op_wp h8 rfl ?_)
  have sz : (Tryd.prog.info? 73).map (·.size) = some (V (Sha.step s bs).words).toArray.size := by rw [size44]; rfl
  refine wp_store_mid 73 (.tmp 6) (.tmp 55) rfl bS 0 (V (Sha.step s bs).words).toArray ?_ ?_ ?_ sz (all_oneCell_toArray (V_one _)) ?_
  · rw [ev_other _ _ _ _ (by decide), e6]
  · rw [ev_same _ _ _ (by rw [hs]; decide), ← hx]
  · exact hB6.there 0 8 (by show 0 + 8 ≤ 8; omega)
  · have e := Blk.setCells (V (Sha.step s bs).words) 0 w6 _ hB6 (by show 0 + 8 ≤ 8; omega)
    rw [n78]
    refine wpAny_done rM8 ?_ _
    refine h _ ?_ (grown_tr hg (grown_tr (grown_of_below hb6 _) e.2)) x55
    exact e.1

set_option maxHeartbeats 1000000 in
set_option linter.unusedSimpArgs false in
theorem region14 (HBL : BlockIs) (bS bK : Nat) (s : St) (bs : List UInt8) (g c i M : Nat) (hi : i < 1000000) (hM : i + 64 ≤ M) (hc : M ≤ c) (w : World) (hB : Blk w bS 73 (V s.words)) (hK : Blk w bK 74 (V kTab)) (hin : In w (some ⟨g, i, none⟩) 64 (c - i) bs)
    (Q : Exit → Act → World → Prop) (hQ : ∀ ch a (t : Nat) v w, Q (.panic ch) (Act.put a (some t) v) w → Q (.panic ch) a w)
    (a : Act) (hs : a.tmps.size = 74) (e3 : a.eval (.tmp 3) = .slice (some ⟨g, 0, none⟩) M c) (e6 : a.eval (.tmp 6) = .pointer (some ⟨bS, 0, none⟩)) (e7 : a.eval (.tmp 7) = .pointer (some ⟨bK, 0, none⟩)) (e8 : a.eval (.tmp 8) = .int .i64 (i : Int))
    (h : ∀ w8, Hid (Blk w8 bS 73 (V (Sha.step s bs).words)) → Hid (w.grownBy w8 (some bS)) → ∀ x48 x54 x55, Q .normal (behind14 a g c i M x48 x54 x55) w8) :
    Code.wp Tryd.prog (Code.region 14 R14 true) Q a w := by
  refine wp_region_any (by kernel_rfl) ?_
  show wpAny Tryd.prog .any R14 Q 9 _ _ _
  have hB1 : Blk { w with drawn := w.drawn + 1 } bS 73 (V s.words) := hB
  have hK1 : Blk { w with drawn := w.drawn + 1 } bK 74 (V kTab) := hK
  have hin1 : In { w with drawn := w.drawn + 1 } (some ⟨g, i, none⟩) 64 (c - i) bs := hin
  have hg1 : w.grownBy { w with drawn := w.drawn + 1 } (some bS) := ⟨rfl, rfl, rfl, Nat.le_refl _, fun _ _ _ => rfl⟩
  generalize ({ w with drawn := w.drawn + 1 } : World) = w1 at hB1 hK1 hin1 hg1 ⊢
  refine wpAny_take (i := 1) (oi := p1) (v := .slice (some ⟨g, 0, none⟩) M c) rfl (by kernel_rfl) (by kernel_rfl) (by kernel_rfl) (fun c x y h => hQ c _ _ _ _ h) (Or.inl ⟨wanted_plain rfl, y_move rfl e3⟩) ?_
  refine wpAny_take (i := 2) (oi := p2) (v := .int .i64 (i : Int)) rfl (by kernel_rfl) (by kernel_rfl) (by kernel_rfl) (fun c x y h => hQ c _ _ _ _ h) (Or.inl ⟨wanted_plain rfl, y_move rfl (by simp only [p1, p2, p3, p4, p5, ev_same, ev_other, put_size, hs, Nat.reduceLT, ne_eq, Nat.reduceEqDiff, not_false_eq_true, e8])⟩) ?_
  refine wpAny_take (i := 3) (oi := p3) (v := .int .i64 (i : Int)) rfl (by kernel_rfl) (by kernel_rfl) (by kernel_rfl) (fun c x y h => hQ c _ _ _ _ h) (Or.inl ⟨wanted_plain rfl, y_move rfl (by simp only [p1, p2, p3, p4, p5, ev_same, ev_other, put_size, hs, Nat.reduceLT, ne_eq, Nat.reduceEqDiff, not_false_eq_true, e8])⟩) ?_
  refine wpAny_take (i := 4) (oi := p4) (v := .int .i64 ((i : Int) + 64)) rfl (by kernel_rfl) (by kernel_rfl) (by kernel_rfl) (fun c x y h => hQ c _ _ _ _ h) (Or.inl ⟨wanted_plain rfl, y_add64 hi rfl (by simp only [p1, p2, p3, p4, p5, ev_same, ev_other, put_size, hs, Nat.reduceLT, ne_eq, Nat.reduceEqDiff, not_false_eq_true, e8])⟩) ?_
  refine wpAny_take (i := 5) (oi := p5) (v := .slice (some ⟨g, i, none⟩) 64 (c - i)) rfl (by kernel_rfl) (by kernel_rfl) (by kernel_rfl) (fun c x y h => hQ c _ _ _ _ h) (Or.inl ⟨wanted_plain rfl, y_slice64 hM hc rfl (by simp only [p1, p2, p3, p4, p5, ev_same, ev_other, put_size, hs, Nat.reduceLT, ne_eq, Nat.reduceEqDiff, not_false_eq_true, e8]) (by simp only [p1, p2, p3, p4, p5, ev_same, ev_other, put_size, hs, Nat.reduceLT, ne_eq, Nat.reduceEqDiff, not_false_eq_true, e8]) (by simp only [p1, p2, p3, p4, p5, ev_same, ev_other, put_size, hs, Nat.reduceLT, ne_eq, Nat.reduceEqDiff, not_false_eq_true, e8])⟩) ?_
  show wpAny Tryd.prog .any R14 Q 4 M5 (((((a.put (some 49) (.slice (some ⟨g, 0, none⟩) M c)).put (some 50) (.int .i64 (i : Int))).put (some 51) (.int .i64 (i : Int))).put (some 52) (.int .i64 ((i : Int) + 64))).put (some 53) (.slice (some ⟨g, i, none⟩) 64 (c - i))) w1
  have hh : ∀ w8, Hid (Blk w8 bS 73 (V (Sha.step s bs).words)) → Hid (w.grownBy w8 (some bS)) → ∀ x48 x54 x55, Q .normal (((((((((a.put (some 49) (.slice (some ⟨g, 0, none⟩) M c)).put (some 50) (.int .i64 (i : Int))).put (some 51) (.int .i64 (i : Int))).put (some 52) (.int .i64 ((i : Int) + 64))).put (some 53) (.slice (some ⟨g, i, none⟩) 64 (c - i))).put (some 48) x48).put (some 54) x54).put (some 55) x55)) w8 := h
  have f6 : ((((((a.put (some 49) (.slice (some ⟨g, 0, none⟩) M c)).put (some 50) (.int .i64 (i : Int))).put (some 51) (.int .i64 (i : Int))).put (some 52) (.int .i64 ((i : Int) + 64))).put (some 53) (.slice (some ⟨g, i, none⟩) 64 (c - i)))).eval (.tmp 6) = .pointer (some ⟨bS, 0, none⟩) := by simp only [ev_other, ne_eq, Nat.reduceEqDiff, not_false_eq_true, e6]
  have f7 : ((((((a.put (some 49) (.slice (some ⟨g, 0, none⟩) M c)).put (some 50) (.int .i64 (i : Int))).put (some 51) (.int .i64 (i : Int))).put (some 52) (.int .i64 ((i : Int) + 64))).put (some 53) (.slice (some ⟨g, i, none⟩) 64 (c - i)))).eval (.tmp 7) = .pointer (some ⟨bK, 0, none⟩) := by simp only [ev_other, ne_eq, Nat.reduceEqDiff, not_false_eq_true, e7]
  have f53 : ((((((a.put (some 49) (.slice (some ⟨g, 0, none⟩) M c)).put (some 50) (.int .i64 (i : Int))).put (some 51) (.int .i64 (i : Int))).put (some 52) (.int .i64 ((i : Int) + 64))).put (some 53) (.slice (some ⟨g, i, none⟩) 64 (c - i)))).eval (.tmp 53) = .slice (some ⟨g, i, none⟩) 64 (c - i) := ev_same _ _ _ (by simp only [put_size, hs]; decide)
  have fs : ((((((a.put (some 49) (.slice (some ⟨g, 0, none⟩) M c)).put (some 50) (.int .i64 (i : Int))).put (some 51) (.int .i64 (i : Int))).put (some 52) (.int .i64 ((i : Int) + 64))).put (some 53) (.slice (some ⟨g, i, none⟩) 64 (c - i)))).tmps.size = 74 := by simp only [put_size, hs]
  generalize ((((((a.put (some 49) (.slice (some ⟨g, 0, none⟩) M c)).put (some 50) (.int .i64 (i : Int))).put (some 51) (.int .i64 (i : Int))).put (some 52) (.int .i64 ((i : Int) + 64))).put (some 53) (.slice (some ⟨g, i, none⟩) 64 (c - i)))) = b at *
  have hlast : wpAny Tryd.prog .any R14 Q 2 M06 ((b.put (some 48) (.agg (V s.words).toArray)).put (some 54) (.agg (V kTab).toArray)) w1 := by
    refine tail14 HBL bS s bs g c i w w1 hB1 hin1 hg1 Q _ ?_ ?_ ?_ ?_ ?_ (fun w8 h1 h2 x => hh w8 h1 h2 _ _ x)
    · rw [put_size, put_size, fs]
    · rw [ev_other _ _ _ _ (by decide), ev_other _ _ _ _ (by decide), f6]
    · rw [ev_other _ _ _ _ (by decide), ev_same _ _ _ (by rw [fs]; decide)]
    · rw [ev_other _ _ _ _ (by decide), ev_other _ _ _ _ (by decide), f53]
    · rw [ev_same _ _ _ (by rw [put_size, fs]; decide)]
  refine two rM5 ?_ ?_
  · refine ld0 Q bS s w1 hB1 _ b f6 ?_
    rw [n50]
    refine one rM0 ?_
    refine ld6 Q bK w1 hK1 _ _ (by rw [ev_other _ _ _ _ (by decide), f7]) ?_
    rw [n06]
    exact hlast
  · refine ld6 Q bK w1 hK1 _ b f7 ?_
    rw [n56]
    refine one rM6 ?_
    refine ld0 Q bS s w1 hB1 _ _ (by rw [ev_other _ _ _ _ (by decide), f6]) ?_
    rw [n60, Act.put_comm _ (x := some 54) (y := some 48) _ _ (by simp)]
    exact hlast
end Go.Proofs.YtgdecjacbkicmaaDoor.Hsh
