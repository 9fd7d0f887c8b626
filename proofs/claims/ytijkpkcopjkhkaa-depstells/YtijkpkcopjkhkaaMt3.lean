/-
  Layer 12 (deps): webOf's first region, whatever its order: a fact for each state of it.
  Layer 12 (deps): webOf: a number put behind the row of one that is needed, whatever the order.
  Layer 12 (deps): numbers by names, and the rows above, in memory and as lists.
  Layer 12 (deps): webOf.
-/
import Derived.Test.YtijkpkcopjkhkaaMt2
/- Layer 12 (deps): webOf's first region, whatever its order: a fact for each state of it. -/
namespace Go.Proofs.Ytijkpkcopjkhkaa.Oct
open Go.RowKit
set_option linter.unusedSimpArgs false
set_option linter.unusedVariables false

def RowF (W : World) (ks : List Hs) (an : Option Addr) (nn cc : Nat) (rs : List Hs) : Prop := HsR W an nn rs ∧ nn ≤ cc ∧ rs.Pairwise LtH ∧ ∀ x, x ∈ rs ↔ x ∈ ks
def NewA (A W : World) (len ga : Nat) : Prop := Blk W ga 56 (List.replicate len (.slice none 0 0)) ∧ A.heap.size ≤ ga
def NewW (A W : World) (len gw : Nat) : Prop := Blk W gw 3 (List.replicate len (.int .i64 0)) ∧ A.heap.size ≤ gw
def NewS (A W : World) (gs : Nat) : Prop := Blk W gs 58 [.slice none 0 0, .slice none 0 0, .slice none 0 0] ∧ A.heap.size ≤ gs
def Web0 (A W : World) (ks : List Hs) (len : Nat) (an : Option Addr) (nn cc : Nat) (rs : List Hs) (ga gw gs : Nat) : Prop :=
  Below A.heap.size A W ∧ RowF W ks an nn cc rs ∧ NewA A W len ga ∧ NewW A W len gw ∧ Blk W gs 58 [.slice an nn cc, .slice (some ⟨ga, 0, none⟩) len len, .slice (some ⟨gw, 0, none⟩) len len] ∧ A.heap.size ≤ gs
def MapF (W : World) (bm : Nat) (ks : List Hs) : Prop := SM W bm ks
theorem MapF.below {W V : World} {bm : Nat} {ks : List Hs} (h : MapF W bm ks) (hb : Below W.heap.size W V) : MapF V bm ks := SM.below h hb (SM.lt h)
theorem RowF.below {W V : World} {ks : List Hs} {an : Option Addr} {nn cc : Nat} {rs : List Hs} (h : RowF W ks an nn cc rs) (hb : Below W.heap.size W V) : RowF V ks an nn cc rs := ⟨h.1.below hb, h.2⟩
theorem NewA.below {A W V : World} {len ga : Nat} (h : NewA A W len ga) (hb : Below W.heap.size W V) : NewA A V len ga := ⟨h.1.below hb h.1.lt, h.2⟩
theorem NewW.below {A W V : World} {len ga : Nat} (h : NewW A W len ga) (hb : Below W.heap.size W V) : NewW A V len ga := ⟨h.1.below hb h.1.lt, h.2⟩
theorem NewS.below {A W V : World} {ga : Nat} (h : NewS A W ga) (hb : Below W.heap.size W V) : NewS A V ga := ⟨h.1.below hb h.1.lt, h.2⟩
theorem below_new (W : World) (o : Obj) : Below W.heap.size W (W.alloc o) := (Below.refl _ W).alloc (Nat.le_refl _) o
/-- a row of hashes lies in no block without a byte -/
theorem HsR.kept {W V : World} {an : Option Addr} {nn : Nat} {rs : List Hs} (h : HsR W an nn rs) {b : Nat} {t : TypeId} {L : List Value} (hb : Blk W b t L) (hL : ∀ v ∈ L, ∀ k, v ≠ .int .u8 k) (hg : W.grownBy V (some b)) : HsR V an nn rs := by
  by_cases hn : 0 < nn
  · obtain ⟨g, off, rfl, hgl, hel⟩ := h.2.2 hn
    have hne : g ≠ b := by
      intro e
      subst e
      obtain ⟨x, hx⟩ : ∃ x, rs[0]? = some x := ⟨_, List.getElem?_eq_getElem (by rw [h.1]; exact hn)⟩
      have hl := h.2.1 x (List.mem_of_getElem? hx)
      have h0 := hel 0 x hx 0 (.int .u8 (x[0].toNat : Int)) (by simpa using U_get x 0 (by omega))
      rw [cell_of_row W g _ _ t (0, 0) hb] at h0
      simp only [List.getElem?_toArray] at h0
      exact hL _ (List.mem_of_getElem? h0) _ rfl
    refine h.same hg.size fun g' off' e => ?_
    simp only [Option.some.injEq, Addr.mk.injEq] at e
    obtain ⟨rfl, -⟩ := e
    exact hg.block _ hgl (by simpa using hne)
  · obtain rfl : nn = 0 := by omega
    obtain rfl : rs = [] := List.eq_nil_of_length_eq_zero h.1
    exact HsR.nil _ _

def QN (Q : Exit → Act → World → Prop) : Exit → Act → World → Prop := fun x a w => match x with | .normal => Q .normal a w | _ => False
def webOps : Array Oper := #[{ dst := some 12, op := Op.move (Operand.tmp 0), type := 22, pos := "order.go:34", after := #[], guard := none }, { dst := some 13, op := Op.call { callee := Callee.value (Operand.func 24), args := #[Operand.tmp 12], argTypes := #[22] }, type := 43, pos := "order.go:34", after := #[{ on := 0, ground := Ground.data }], guard := none }, { dst := some 14, op := Op.call { callee := Callee.value (Operand.func 33), args := #[Operand.tmp 13], argTypes := #[43] }, type := 26, pos := "order.go:34", after := #[{ on := 1, ground := Ground.data }, { on := 1, ground := Ground.chain }], guard := none }, { dst := some 15, op := Op.move (Operand.tmp 0), type := 22, pos := "order.go:34", after := #[], guard := none }, { dst := some 16, op := Op.call { callee := Callee.builtin Builtin.len, args := #[Operand.tmp 15], argTypes := #[22] }, type := 3, pos := "order.go:34", after := #[{ on := 3, ground := Ground.data }], guard := none }, { dst := some 17, op := Op.makeSlice 55 (Operand.tmp 16) (Operand.tmp 16), type := 55, pos := "order.go:34", after := #[{ on := 4, ground := Ground.data }, { on := 4, ground := Ground.data }], guard := none }, { dst := some 18, op := Op.move (Operand.tmp 0), type := 22, pos := "order.go:34", after := #[], guard := none }, { dst := some 19, op := Op.call { callee := Callee.builtin Builtin.len, args := #[Operand.tmp 18], argTypes := #[22] }, type := 3, pos := "order.go:34", after := #[{ on := 6, ground := Ground.data }], guard := none }, { dst := some 20, op := Op.makeSlice 56 (Operand.tmp 19) (Operand.tmp 19), type := 56, pos := "order.go:34", after := #[{ on := 7, ground := Ground.data }, { on := 7, ground := Ground.data }], guard := none }, { dst := some 21, op := Op.build 58 #[(0, Operand.tmp 14), (1, Operand.tmp 17), (2, Operand.tmp 20)], type := 58, pos := "order.go:34", after := #[{ on := 2, ground := Ground.data }, { on := 5, ground := Ground.data }, { on := 8, ground := Ground.data }], guard := none }, { dst := some 3, op := Op.alloc 58, type := 0, pos := "order.go:34", after := #[], guard := none }, { dst := none, op := Op.store 58 (Operand.tmp 3) (Operand.tmp 21), type := 0, pos := "order.go:34", after := #[{ on := 10, ground := Ground.data }, { on := 9, ground := Ground.data }, { on := 2, ground := Ground.chain }, { on := 0, ground := Ground.phase }, { on := 1, ground := Ground.phase }, { on := 2, ground := Ground.phase }, { on := 3, ground := Ground.phase }, { on := 4, ground := Ground.phase }, { on := 5, ground := Ground.phase }, { on := 6, ground := Ground.phase }, { on := 7, ground := Ground.phase }, { on := 8, ground := Ground.phase }, { on := 9, ground := Ground.phase }, { on := 10, ground := Ground.phase }], guard := none }]
set_option maxRecDepth 100000 in
set_option maxHeartbeats 2000000 in
theorem web1_fin {Q : Exit → Act → World → Prop} {ds : List Deferred} {A W : World} {len cap : Nat} {ad : Option Addr} {ks : List Hs} {bm : Nat} {an : Option Addr} {nn cc : Nat} {rs : List Hs} {ga : Nat} {gw : Nat} {gs : Nat} {x1 x2 x4 x5 x6 x7 x8 x9 x10 x11 x22 x23 x24 x25 x26 x27 x28 x29 x30 x31 x32 x33 x34 x35 x36 x37 x38 x39 x40 x41 x42 x43 x44 x45 x46 x47 x48 x49 x50 x51 x52 x53 x54 x55 x56 x57 x58 x59 x60 x61 x62 x63 x64 x65 x66 x67 x68 x69 x70 x71 x72 x73 x74 x75 x76 x77 x78 x79 : Value} (hn : Hid (len ≤ 100000)) (h24 : Hid (∀ V, Below A.heap.size A V → Calls Try.prog 24 #[.slice ad len cap] V (NamesP V ks))) (h33 : Hid (∀ V b, SM V b ks → Calls Try.prog 33 #[.map (some b)] V (RiseP V ks))) (hb : Hid (Below A.heap.size A W)) (hc : Hid (RowF W ks an nn cc rs)) (ha : Hid (NewA A W len ga)) (hw : Hid (NewW A W len gw)) (hs : Hid (NewS A W gs))
    (hQ : Hid (∀ (bm : Nat) (an : Option Addr) (nn cc : Nat) (rs : List Hs) (ga gw gs : Nat) (V : World), Web0 A V ks len an nn cc rs ga gw gs → Q .normal { tmps := #[.slice ad len cap, x1, x2, .pointer (some ⟨gs, 0, none⟩), x4, x5, x6, x7, x8, x9, x10, x11, .slice ad len cap, .map (some bm), .slice an nn cc, .slice ad len cap, .int .i64 (len : Int), .slice (some ⟨ga, 0, none⟩) len len, .slice ad len cap, .int .i64 (len : Int), .slice (some ⟨gw, 0, none⟩) len len, .agg #[.slice an nn cc, .slice (some ⟨ga, 0, none⟩) len len, .slice (some ⟨gw, 0, none⟩) len len], x22, x23, x24, x25, x26, x27, x28, x29, x30, x31, x32, x33, x34, x35, x36, x37, x38, x39, x40, x41, x42, x43, x44, x45, x46, x47, x48, x49, x50, x51, x52, x53, x54, x55, x56, x57, x58, x59, x60, x61, x62, x63, x64, x65, x66, x67, x68, x69, x70, x71, x72, x73, x74, x75, x76, x77, x78, x79], defers := ds } V)) :
    wpAnyH Try.prog .any webOps (QN Q) (fun _ => True) 1 #[true, true, true, true, true, true, true, true, true, true, true, false] { tmps := #[.slice ad len cap, x1, x2, .pointer (some ⟨gs, 0, none⟩), x4, x5, x6, x7, x8, x9, x10, x11, .slice ad len cap, .map (some bm), .slice an nn cc, .slice ad len cap, .int .i64 (len : Int), .slice (some ⟨ga, 0, none⟩) len len, .slice ad len cap, .int .i64 (len : Int), .slice (some ⟨gw, 0, none⟩) len len, .agg #[.slice an nn cc, .slice (some ⟨ga, 0, none⟩) len len, .slice (some ⟨gw, 0, none⟩) len len], x22, x23, x24, x25, x26, x27, x28, x29, x30, x31, x32, x33, x34, x35, x36, x37, x38, x39, x40, x41, x42, x43, x44, x45, x46, x47, x48, x49, x50, x51, x52, x53, x54, x55, x56, x57, x58, x59, x60, x61, x62, x63, x64, x65, x66, x67, x68, x69, x70, x71, x72, x73, x74, x75, x76, x77, x78, x79], defers := ds } W := by
  refine wpAnyH_ready (rs := [11]) (by kernel_rfl) (by simp) (AllReadyH.cons (i := 11) (o := { dst := none, op := Op.store 58 (Operand.tmp 3) (Operand.tmp 21), type := 0, pos := "order.go:34", after := #[{ on := 10, ground := Ground.data }, { on := 9, ground := Ground.data }, { on := 2, ground := Ground.chain }, { on := 0, ground := Ground.phase }, { on := 1, ground := Ground.phase }, { on := 2, ground := Ground.phase }, { on := 3, ground := Ground.phase }, { on := 4, ground := Ground.phase }, { on := 5, ground := Ground.phase }, { on := 6, ground := Ground.phase }, { on := 7, ground := Ground.phase }, { on := 8, ground := Ground.phase }, { on := 9, ground := Ground.phase }, { on := 10, ground := Ground.phase }], guard := none }) rfl ?_ AllReadyH.nil)
  intro K1 hK1
  rw [if_pos (by rfl)]
  have hbs := hs.out.1
  refine wp_store_mid 58 (.tmp 3) (.tmp 21) rfl gs 0 #[.slice an nn cc, .slice (some ⟨ga, 0, none⟩) len len, .slice (some ⟨gw, 0, none⟩) len len] rfl rfl (by simpa using hbs.there 0 3 (by simp)) (by kernel_rfl) (by simp [Value.oneCell']) ?_
  have e := Blk.setCells [.slice an nn cc, .slice (some ⟨ga, 0, none⟩) len len, .slice (some ⟨gw, 0, none⟩) len len] 0 W _ hbs (by simp)
  refine hK1.out _ _ trivial ?_
  intro _
  refine wpAnyH_done (by kernel_rfl) ?_ _
  refine hQ.out bm an nn cc rs ga gw gs _ ⟨below_grownBy hb.out e.2 hs.out.2 (Nat.le_refl _), ⟨hc.out.1.kept hbs (by simp) e.2, hc.out.2⟩, ⟨ha.out.1.kept e.2 ?_, ha.out.2⟩, ⟨hw.out.1.kept e.2 ?_, hw.out.2⟩, by simpa using e.1, hs.out.2⟩
  · intro e1; simp only [Option.some.injEq] at e1; subst e1
    have := ha.out.1.symm.trans hbs
    simp at this
  · intro e1; simp only [Option.some.injEq] at e1; subst e1
    have := hw.out.1.symm.trans hbs
    simp at this
set_option maxRecDepth 100000 in
set_option maxHeartbeats 2000000 in
theorem web1_2111 {Q : Exit → Act → World → Prop} {ds : List Deferred} {A W : World} {len cap : Nat} {ad : Option Addr} {ks : List Hs} {bm : Nat} {an : Option Addr} {nn cc : Nat} {rs : List Hs} {ga : Nat} {gw : Nat} {gs : Nat} {x1 x2 x4 x5 x6 x7 x8 x9 x10 x11 x21 x22 x23 x24 x25 x26 x27 x28 x29 x30 x31 x32 x33 x34 x35 x36 x37 x38 x39 x40 x41 x42 x43 x44 x45 x46 x47 x48 x49 x50 x51 x52 x53 x54 x55 x56 x57 x58 x59 x60 x61 x62 x63 x64 x65 x66 x67 x68 x69 x70 x71 x72 x73 x74 x75 x76 x77 x78 x79 : Value} (hn : Hid (len ≤ 100000)) (h24 : Hid (∀ V, Below A.heap.size A V → Calls Try.prog 24 #[.slice ad len cap] V (NamesP V ks))) (h33 : Hid (∀ V b, SM V b ks → Calls Try.prog 33 #[.map (some b)] V (RiseP V ks))) (hb : Hid (Below A.heap.size A W)) (hc : Hid (RowF W ks an nn cc rs)) (ha : Hid (NewA A W len ga)) (hw : Hid (NewW A W len gw)) (hs : Hid (NewS A W gs))
    (hQ : Hid (∀ (bm : Nat) (an : Option Addr) (nn cc : Nat) (rs : List Hs) (ga gw gs : Nat) (V : World), Web0 A V ks len an nn cc rs ga gw gs → Q .normal { tmps := #[.slice ad len cap, x1, x2, .pointer (some ⟨gs, 0, none⟩), x4, x5, x6, x7, x8, x9, x10, x11, .slice ad len cap, .map (some bm), .slice an nn cc, .slice ad len cap, .int .i64 (len : Int), .slice (some ⟨ga, 0, none⟩) len len, .slice ad len cap, .int .i64 (len : Int), .slice (some ⟨gw, 0, none⟩) len len, .agg #[.slice an nn cc, .slice (some ⟨ga, 0, none⟩) len len, .slice (some ⟨gw, 0, none⟩) len len], x22, x23, x24, x25, x26, x27, x28, x29, x30, x31, x32, x33, x34, x35, x36, x37, x38, x39, x40, x41, x42, x43, x44, x45, x46, x47, x48, x49, x50, x51, x52, x53, x54, x55, x56, x57, x58, x59, x60, x61, x62, x63, x64, x65, x66, x67, x68, x69, x70, x71, x72, x73, x74, x75, x76, x77, x78, x79], defers := ds } V)) :
    wpAnyH Try.prog .any webOps (QN Q) (fun _ => True) 2 #[true, true, true, true, true, true, true, true, true, false, true, false] { tmps := #[.slice ad len cap, x1, x2, .pointer (some ⟨gs, 0, none⟩), x4, x5, x6, x7, x8, x9, x10, x11, .slice ad len cap, .map (some bm), .slice an nn cc, .slice ad len cap, .int .i64 (len : Int), .slice (some ⟨ga, 0, none⟩) len len, .slice ad len cap, .int .i64 (len : Int), .slice (some ⟨gw, 0, none⟩) len len, x21, x22, x23, x24, x25, x26, x27, x28, x29, x30, x31, x32, x33, x34, x35, x36, x37, x38, x39, x40, x41, x42, x43, x44, x45, x46, x47, x48, x49, x50, x51, x52, x53, x54, x55, x56, x57, x58, x59, x60, x61, x62, x63, x64, x65, x66, x67, x68, x69, x70, x71, x72, x73, x74, x75, x76, x77, x78, x79], defers := ds } W := by
  refine wpAnyH_take (i := 9) (oi := { dst := some 21, op := Op.build 58 #[(0, Operand.tmp 14), (1, Operand.tmp 17), (2, Operand.tmp 20)], type := 58, pos := "order.go:34", after := #[{ on := 2, ground := Ground.data }, { on := 5, ground := Ground.data }, { on := 8, ground := Ground.data }], guard := none }) (v := .agg #[.slice an nn cc, .slice (some ⟨ga, 0, none⟩) len len, .slice (some ⟨gw, 0, none⟩) len len]) rfl (by kernel_rfl) (by kernel_rfl) (by kernel_rfl) (fun _ _ _ h => (show False from h).elim) (Or.inl ⟨by rfl, ?y9⟩) trivial ?_
  case y9 =>
    intro V hV
    go_simp
  simp only [Act.put, List.setIfInBounds_toArray, List.set_cons_zero, List.set_cons_succ]
  exact web1_fin hn h24 h33 hb hc ha hw hs hQ
set_option maxRecDepth 100000 in
set_option maxHeartbeats 2000000 in
theorem web1_1111 {Q : Exit → Act → World → Prop} {ds : List Deferred} {A W : World} {len cap : Nat} {ad : Option Addr} {ks : List Hs} {bm : Nat} {ga : Nat} {gw : Nat} {gs : Nat} {x1 x2 x4 x5 x6 x7 x8 x9 x10 x11 x14 x21 x22 x23 x24 x25 x26 x27 x28 x29 x30 x31 x32 x33 x34 x35 x36 x37 x38 x39 x40 x41 x42 x43 x44 x45 x46 x47 x48 x49 x50 x51 x52 x53 x54 x55 x56 x57 x58 x59 x60 x61 x62 x63 x64 x65 x66 x67 x68 x69 x70 x71 x72 x73 x74 x75 x76 x77 x78 x79 : Value} (hn : Hid (len ≤ 100000)) (h24 : Hid (∀ V, Below A.heap.size A V → Calls Try.prog 24 #[.slice ad len cap] V (NamesP V ks))) (h33 : Hid (∀ V b, SM V b ks → Calls Try.prog 33 #[.map (some b)] V (RiseP V ks))) (hb : Hid (Below A.heap.size A W)) (hc : Hid (MapF W bm ks)) (ha : Hid (NewA A W len ga)) (hw : Hid (NewW A W len gw)) (hs : Hid (NewS A W gs))
    (hQ : Hid (∀ (bm : Nat) (an : Option Addr) (nn cc : Nat) (rs : List Hs) (ga gw gs : Nat) (V : World), Web0 A V ks len an nn cc rs ga gw gs → Q .normal { tmps := #[.slice ad len cap, x1, x2, .pointer (some ⟨gs, 0, none⟩), x4, x5, x6, x7, x8, x9, x10, x11, .slice ad len cap, .map (some bm), .slice an nn cc, .slice ad len cap, .int .i64 (len : Int), .slice (some ⟨ga, 0, none⟩) len len, .slice ad len cap, .int .i64 (len : Int), .slice (some ⟨gw, 0, none⟩) len len, .agg #[.slice an nn cc, .slice (some ⟨ga, 0, none⟩) len len, .slice (some ⟨gw, 0, none⟩) len len], x22, x23, x24, x25, x26, x27, x28, x29, x30, x31, x32, x33, x34, x35, x36, x37, x38, x39, x40, x41, x42, x43, x44, x45, x46, x47, x48, x49, x50, x51, x52, x53, x54, x55, x56, x57, x58, x59, x60, x61, x62, x63, x64, x65, x66, x67, x68, x69, x70, x71, x72, x73, x74, x75, x76, x77, x78, x79], defers := ds } V)) :
    wpAnyH Try.prog .any webOps (QN Q) (fun _ => True) 3 #[true, true, false, true, true, true, true, true, true, false, true, false] { tmps := #[.slice ad len cap, x1, x2, .pointer (some ⟨gs, 0, none⟩), x4, x5, x6, x7, x8, x9, x10, x11, .slice ad len cap, .map (some bm), x14, .slice ad len cap, .int .i64 (len : Int), .slice (some ⟨ga, 0, none⟩) len len, .slice ad len cap, .int .i64 (len : Int), .slice (some ⟨gw, 0, none⟩) len len, x21, x22, x23, x24, x25, x26, x27, x28, x29, x30, x31, x32, x33, x34, x35, x36, x37, x38, x39, x40, x41, x42, x43, x44, x45, x46, x47, x48, x49, x50, x51, x52, x53, x54, x55, x56, x57, x58, x59, x60, x61, x62, x63, x64, x65, x66, x67, x68, x69, x70, x71, x72, x73, x74, x75, x76, x77, x78, x79], defers := ds } W := by
  refine wpAnyH_ready (rs := [2]) (by kernel_rfl) (by simp) ?_
  refine AllReadyH.cons (i := 2) (o := { dst := some 14, op := Op.call { callee := Callee.value (Operand.func 33), args := #[Operand.tmp 13], argTypes := #[43] }, type := 26, pos := "order.go:34", after := #[{ on := 1, ground := Ground.data }, { on := 1, ground := Ground.chain }], guard := none }) rfl ?_ AllReadyH.nil
  · intro K1 hK1
    rw [if_pos (by rfl)]
    have H := h33.out W bm hc.out
    go_wp2_with fail
    refine H.mono ?_
    rintro e w1 ⟨an, nn, cc, rs, rfl, H1, HB1⟩
    dsimp only
    refine hK1.out _ _ trivial ?_
    intro _
    try simp only [Act.put, List.setIfInBounds_toArray, List.set_cons_zero, List.set_cons_succ]
    exact web1_2111 (bm := bm) (an := an) (nn := nn) (cc := cc) (rs := rs) hn h24 h33 (hb.out.trans (HB1.out.mono hb.out.size)) H1.out (ha.out.below HB1.out) (hw.out.below HB1.out) (hs.out.below HB1.out) hQ
set_option maxRecDepth 100000 in
set_option maxHeartbeats 2000000 in
theorem web1_2011 {Q : Exit → Act → World → Prop} {ds : List Deferred} {A W : World} {len cap : Nat} {ad : Option Addr} {ks : List Hs} {bm : Nat} {an : Option Addr} {nn cc : Nat} {rs : List Hs} {gw : Nat} {gs : Nat} {x1 x2 x4 x5 x6 x7 x8 x9 x10 x11 x17 x21 x22 x23 x24 x25 x26 x27 x28 x29 x30 x31 x32 x33 x34 x35 x36 x37 x38 x39 x40 x41 x42 x43 x44 x45 x46 x47 x48 x49 x50 x51 x52 x53 x54 x55 x56 x57 x58 x59 x60 x61 x62 x63 x64 x65 x66 x67 x68 x69 x70 x71 x72 x73 x74 x75 x76 x77 x78 x79 : Value} (hn : Hid (len ≤ 100000)) (h24 : Hid (∀ V, Below A.heap.size A V → Calls Try.prog 24 #[.slice ad len cap] V (NamesP V ks))) (h33 : Hid (∀ V b, SM V b ks → Calls Try.prog 33 #[.map (some b)] V (RiseP V ks))) (hb : Hid (Below A.heap.size A W)) (hc : Hid (RowF W ks an nn cc rs)) (hw : Hid (NewW A W len gw)) (hs : Hid (NewS A W gs))
    (hQ : Hid (∀ (bm : Nat) (an : Option Addr) (nn cc : Nat) (rs : List Hs) (ga gw gs : Nat) (V : World), Web0 A V ks len an nn cc rs ga gw gs → Q .normal { tmps := #[.slice ad len cap, x1, x2, .pointer (some ⟨gs, 0, none⟩), x4, x5, x6, x7, x8, x9, x10, x11, .slice ad len cap, .map (some bm), .slice an nn cc, .slice ad len cap, .int .i64 (len : Int), .slice (some ⟨ga, 0, none⟩) len len, .slice ad len cap, .int .i64 (len : Int), .slice (some ⟨gw, 0, none⟩) len len, .agg #[.slice an nn cc, .slice (some ⟨ga, 0, none⟩) len len, .slice (some ⟨gw, 0, none⟩) len len], x22, x23, x24, x25, x26, x27, x28, x29, x30, x31, x32, x33, x34, x35, x36, x37, x38, x39, x40, x41, x42, x43, x44, x45, x46, x47, x48, x49, x50, x51, x52, x53, x54, x55, x56, x57, x58, x59, x60, x61, x62, x63, x64, x65, x66, x67, x68, x69, x70, x71, x72, x73, x74, x75, x76, x77, x78, x79], defers := ds } V)) :
    wpAnyH Try.prog .any webOps (QN Q) (fun _ => True) 3 #[true, true, true, true, true, false, true, true, true, false, true, false] { tmps := #[.slice ad len cap, x1, x2, .pointer (some ⟨gs, 0, none⟩), x4, x5, x6, x7, x8, x9, x10, x11, .slice ad len cap, .map (some bm), .slice an nn cc, .slice ad len cap, .int .i64 (len : Int), x17, .slice ad len cap, .int .i64 (len : Int), .slice (some ⟨gw, 0, none⟩) len len, x21, x22, x23, x24, x25, x26, x27, x28, x29, x30, x31, x32, x33, x34, x35, x36, x37, x38, x39, x40, x41, x42, x43, x44, x45, x46, x47, x48, x49, x50, x51, x52, x53, x54, x55, x56, x57, x58, x59, x60, x61, x62, x63, x64, x65, x66, x67, x68, x69, x70, x71, x72, x73, x74, x75, x76, x77, x78, x79], defers := ds } W := by
  refine wpAnyH_ready (rs := [5]) (by kernel_rfl) (by simp) ?_
  refine AllReadyH.cons (i := 5) (o := { dst := some 17, op := Op.makeSlice 55 (Operand.tmp 16) (Operand.tmp 16), type := 55, pos := "order.go:34", after := #[{ on := 4, ground := Ground.data }, { on := 4, ground := Ground.data }], guard := none }) rfl ?_ AllReadyH.nil
  · intro K1 hK1
    rw [if_pos (by rfl)]
    refine wp_mk55 (.tmp 16) (.tmp 16) rfl len rfl rfl hn.out ?_
    refine hK1.out _ _ trivial ?_
    intro _
    try simp only [Act.put, List.setIfInBounds_toArray, List.set_cons_zero, List.set_cons_succ]
    exact web1_2111 (ga := W.heap.size) hn h24 h33 (hb.out.alloc hb.out.size _) (hc.out.below (below_new W (.cells (List.replicate len (.slice none 0 0)).toArray 56))) ⟨by simpa using Blk.new W (List.replicate len (.slice none 0 0)).toArray 56, hb.out.size⟩ (hw.out.below (below_new W (.cells (List.replicate len (.slice none 0 0)).toArray 56))) (hs.out.below (below_new W (.cells (List.replicate len (.slice none 0 0)).toArray 56))) hQ
set_option maxRecDepth 100000 in
set_option maxHeartbeats 2000000 in
theorem web1_2101 {Q : Exit → Act → World → Prop} {ds : List Deferred} {A W : World} {len cap : Nat} {ad : Option Addr} {ks : List Hs} {bm : Nat} {an : Option Addr} {nn cc : Nat} {rs : List Hs} {ga : Nat} {gs : Nat} {x1 x2 x4 x5 x6 x7 x8 x9 x10 x11 x20 x21 x22 x23 x24 x25 x26 x27 x28 x29 x30 x31 x32 x33 x34 x35 x36 x37 x38 x39 x40 x41 x42 x43 x44 x45 x46 x47 x48 x49 x50 x51 x52 x53 x54 x55 x56 x57 x58 x59 x60 x61 x62 x63 x64 x65 x66 x67 x68 x69 x70 x71 x72 x73 x74 x75 x76 x77 x78 x79 : Value} (hn : Hid (len ≤ 100000)) (h24 : Hid (∀ V, Below A.heap.size A V → Calls Try.prog 24 #[.slice ad len cap] V (NamesP V ks))) (h33 : Hid (∀ V b, SM V b ks → Calls Try.prog 33 #[.map (some b)] V (RiseP V ks))) (hb : Hid (Below A.heap.size A W)) (hc : Hid (RowF W ks an nn cc rs)) (ha : Hid (NewA A W len ga)) (hs : Hid (NewS A W gs))
    (hQ : Hid (∀ (bm : Nat) (an : Option Addr) (nn cc : Nat) (rs : List Hs) (ga gw gs : Nat) (V : World), Web0 A V ks len an nn cc rs ga gw gs → Q .normal { tmps := #[.slice ad len cap, x1, x2, .pointer (some ⟨gs, 0, none⟩), x4, x5, x6, x7, x8, x9, x10, x11, .slice ad len cap, .map (some bm), .slice an nn cc, .slice ad len cap, .int .i64 (len : Int), .slice (some ⟨ga, 0, none⟩) len len, .slice ad len cap, .int .i64 (len : Int), .slice (some ⟨gw, 0, none⟩) len len, .agg #[.slice an nn cc, .slice (some ⟨ga, 0, none⟩) len len, .slice (some ⟨gw, 0, none⟩) len len], x22, x23, x24, x25, x26, x27, x28, x29, x30, x31, x32, x33, x34, x35, x36, x37, x38, x39, x40, x41, x42, x43, x44, x45, x46, x47, x48, x49, x50, x51, x52, x53, x54, x55, x56, x57, x58, x59, x60, x61, x62, x63, x64, x65, x66, x67, x68, x69, x70, x71, x72, x73, x74, x75, x76, x77, x78, x79], defers := ds } V)) :
    wpAnyH Try.prog .any webOps (QN Q) (fun _ => True) 3 #[true, true, true, true, true, true, true, true, false, false, true, false] { tmps := #[.slice ad len cap, x1, x2, .pointer (some ⟨gs, 0, none⟩), x4, x5, x6, x7, x8, x9, x10, x11, .slice ad len cap, .map (some bm), .slice an nn cc, .slice ad len cap, .int .i64 (len : Int), .slice (some ⟨ga, 0, none⟩) len len, .slice ad len cap, .int .i64 (len : Int), x20, x21, x22, x23, x24, x25, x26, x27, x28, x29, x30, x31, x32, x33, x34, x35, x36, x37, x38, x39, x40, x41, x42, x43, x44, x45, x46, x47, x48, x49, x50, x51, x52, x53, x54, x55, x56, x57, x58, x59, x60, x61, x62, x63, x64, x65, x66, x67, x68, x69, x70, x71, x72, x73, x74, x75, x76, x77, x78, x79], defers := ds } W := by
  refine wpAnyH_ready (rs := [8]) (by kernel_rfl) (by simp) ?_
  refine AllReadyH.cons (i := 8) (o := { dst := some 20, op := Op.makeSlice 56 (Operand.tmp 19) (Operand.tmp 19), type := 56, pos := "order.go:34", after := #[{ on := 7, ground := Ground.data }, { on := 7, ground := Ground.data }], guard := none }) rfl ?_ AllReadyH.nil
  · intro K1 hK1
    rw [if_pos (by rfl)]
    refine wp_mk56 (.tmp 19) (.tmp 19) rfl len rfl rfl hn.out ?_
    refine hK1.out _ _ trivial ?_
    intro _
    try simp only [Act.put, List.setIfInBounds_toArray, List.set_cons_zero, List.set_cons_succ]
    exact web1_2111 (gw := W.heap.size) hn h24 h33 (hb.out.alloc hb.out.size _) (hc.out.below (below_new W (.cells (List.replicate len (.int .i64 0)).toArray 3))) (ha.out.below (below_new W (.cells (List.replicate len (.int .i64 0)).toArray 3))) ⟨by simpa using Blk.new W (List.replicate len (.int .i64 0)).toArray 3, hb.out.size⟩ (hs.out.below (below_new W (.cells (List.replicate len (.int .i64 0)).toArray 3))) hQ
set_option maxRecDepth 100000 in
set_option maxHeartbeats 2000000 in
theorem web1_2110 {Q : Exit → Act → World → Prop} {ds : List Deferred} {A W : World} {len cap : Nat} {ad : Option Addr} {ks : List Hs} {bm : Nat} {an : Option Addr} {nn cc : Nat} {rs : List Hs} {ga : Nat} {gw : Nat} {x1 x2 x3 x4 x5 x6 x7 x8 x9 x10 x11 x21 x22 x23 x24 x25 x26 x27 x28 x29 x30 x31 x32 x33 x34 x35 x36 x37 x38 x39 x40 x41 x42 x43 x44 x45 x46 x47 x48 x49 x50 x51 x52 x53 x54 x55 x56 x57 x58 x59 x60 x61 x62 x63 x64 x65 x66 x67 x68 x69 x70 x71 x72 x73 x74 x75 x76 x77 x78 x79 : Value} (hn : Hid (len ≤ 100000)) (h24 : Hid (∀ V, Below A.heap.size A V → Calls Try.prog 24 #[.slice ad len cap] V (NamesP V ks))) (h33 : Hid (∀ V b, SM V b ks → Calls Try.prog 33 #[.map (some b)] V (RiseP V ks))) (hb : Hid (Below A.heap.size A W)) (hc : Hid (RowF W ks an nn cc rs)) (ha : Hid (NewA A W len ga)) (hw : Hid (NewW A W len gw))
    (hQ : Hid (∀ (bm : Nat) (an : Option Addr) (nn cc : Nat) (rs : List Hs) (ga gw gs : Nat) (V : World), Web0 A V ks len an nn cc rs ga gw gs → Q .normal { tmps := #[.slice ad len cap, x1, x2, .pointer (some ⟨gs, 0, none⟩), x4, x5, x6, x7, x8, x9, x10, x11, .slice ad len cap, .map (some bm), .slice an nn cc, .slice ad len cap, .int .i64 (len : Int), .slice (some ⟨ga, 0, none⟩) len len, .slice ad len cap, .int .i64 (len : Int), .slice (some ⟨gw, 0, none⟩) len len, .agg #[.slice an nn cc, .slice (some ⟨ga, 0, none⟩) len len, .slice (some ⟨gw, 0, none⟩) len len], x22, x23, x24, x25, x26, x27, x28, x29, x30, x31, x32, x33, x34, x35, x36, x37, x38, x39, x40, x41, x42, x43, x44, x45, x46, x47, x48, x49, x50, x51, x52, x53, x54, x55, x56, x57, x58, x59, x60, x61, x62, x63, x64, x65, x66, x67, x68, x69, x70, x71, x72, x73, x74, x75, x76, x77, x78, x79], defers := ds } V)) :
    wpAnyH Try.prog .any webOps (QN Q) (fun _ => True) 3 #[true, true, true, true, true, true, true, true, true, false, false, false] { tmps := #[.slice ad len cap, x1, x2, x3, x4, x5, x6, x7, x8, x9, x10, x11, .slice ad len cap, .map (some bm), .slice an nn cc, .slice ad len cap, .int .i64 (len : Int), .slice (some ⟨ga, 0, none⟩) len len, .slice ad len cap, .int .i64 (len : Int), .slice (some ⟨gw, 0, none⟩) len len, x21, x22, x23, x24, x25, x26, x27, x28, x29, x30, x31, x32, x33, x34, x35, x36, x37, x38, x39, x40, x41, x42, x43, x44, x45, x46, x47, x48, x49, x50, x51, x52, x53, x54, x55, x56, x57, x58, x59, x60, x61, x62, x63, x64, x65, x66, x67, x68, x69, x70, x71, x72, x73, x74, x75, x76, x77, x78, x79], defers := ds } W := by
  refine wpAnyH_take (i := 9) (oi := { dst := some 21, op := Op.build 58 #[(0, Operand.tmp 14), (1, Operand.tmp 17), (2, Operand.tmp 20)], type := 58, pos := "order.go:34", after := #[{ on := 2, ground := Ground.data }, { on := 5, ground := Ground.data }, { on := 8, ground := Ground.data }], guard := none }) (v := .agg #[.slice an nn cc, .slice (some ⟨ga, 0, none⟩) len len, .slice (some ⟨gw, 0, none⟩) len len]) rfl (by kernel_rfl) (by kernel_rfl) (by kernel_rfl) (fun _ _ _ h => (show False from h).elim) (Or.inl ⟨by rfl, ?y9⟩) trivial ?_
  case y9 =>
    intro V hV
    go_simp
  simp only [Act.put, List.setIfInBounds_toArray, List.set_cons_zero, List.set_cons_succ]
  refine wpAnyH_ready (rs := [10]) (by kernel_rfl) (by simp) (AllReadyH.cons (i := 10) (o := { dst := some 3, op := Op.alloc 58, type := 0, pos := "order.go:34", after := #[], guard := none }) rfl ?_ AllReadyH.nil)
  intro K1 hK1
  rw [if_pos (by rfl)]
  refine wp_al58 3 rfl rfl ?_
  refine hK1.out _ _ trivial ?_
  intro _
  try simp only [Act.put, List.setIfInBounds_toArray, List.set_cons_zero, List.set_cons_succ]
  exact web1_fin (gs := W.heap.size) hn h24 h33 (hb.out.alloc hb.out.size _) (hc.out.below (below_new W (.cells #[.slice none 0 0, .slice none 0 0, .slice none 0 0] 58))) (ha.out.below (below_new W (.cells #[.slice none 0 0, .slice none 0 0, .slice none 0 0] 58))) (hw.out.below (below_new W (.cells #[.slice none 0 0, .slice none 0 0, .slice none 0 0] 58))) ⟨by simpa using Blk.new W #[.slice none 0 0, .slice none 0 0, .slice none 0 0] 58, hb.out.size⟩ hQ
set_option maxRecDepth 100000 in
set_option maxHeartbeats 2000000 in
theorem web1_0111 {Q : Exit → Act → World → Prop} {ds : List Deferred} {A W : World} {len cap : Nat} {ad : Option Addr} {ks : List Hs} {ga : Nat} {gw : Nat} {gs : Nat} {x1 x2 x4 x5 x6 x7 x8 x9 x10 x11 x13 x14 x21 x22 x23 x24 x25 x26 x27 x28 x29 x30 x31 x32 x33 x34 x35 x36 x37 x38 x39 x40 x41 x42 x43 x44 x45 x46 x47 x48 x49 x50 x51 x52 x53 x54 x55 x56 x57 x58 x59 x60 x61 x62 x63 x64 x65 x66 x67 x68 x69 x70 x71 x72 x73 x74 x75 x76 x77 x78 x79 : Value} (hn : Hid (len ≤ 100000)) (h24 : Hid (∀ V, Below A.heap.size A V → Calls Try.prog 24 #[.slice ad len cap] V (NamesP V ks))) (h33 : Hid (∀ V b, SM V b ks → Calls Try.prog 33 #[.map (some b)] V (RiseP V ks))) (hb : Hid (Below A.heap.size A W)) (ha : Hid (NewA A W len ga)) (hw : Hid (NewW A W len gw)) (hs : Hid (NewS A W gs))
    (hQ : Hid (∀ (bm : Nat) (an : Option Addr) (nn cc : Nat) (rs : List Hs) (ga gw gs : Nat) (V : World), Web0 A V ks len an nn cc rs ga gw gs → Q .normal { tmps := #[.slice ad len cap, x1, x2, .pointer (some ⟨gs, 0, none⟩), x4, x5, x6, x7, x8, x9, x10, x11, .slice ad len cap, .map (some bm), .slice an nn cc, .slice ad len cap, .int .i64 (len : Int), .slice (some ⟨ga, 0, none⟩) len len, .slice ad len cap, .int .i64 (len : Int), .slice (some ⟨gw, 0, none⟩) len len, .agg #[.slice an nn cc, .slice (some ⟨ga, 0, none⟩) len len, .slice (some ⟨gw, 0, none⟩) len len], x22, x23, x24, x25, x26, x27, x28, x29, x30, x31, x32, x33, x34, x35, x36, x37, x38, x39, x40, x41, x42, x43, x44, x45, x46, x47, x48, x49, x50, x51, x52, x53, x54, x55, x56, x57, x58, x59, x60, x61, x62, x63, x64, x65, x66, x67, x68, x69, x70, x71, x72, x73, x74, x75, x76, x77, x78, x79], defers := ds } V)) :
    wpAnyH Try.prog .any webOps (QN Q) (fun _ => True) 4 #[true, false, false, true, true, true, true, true, true, false, true, false] { tmps := #[.slice ad len cap, x1, x2, .pointer (some ⟨gs, 0, none⟩), x4, x5, x6, x7, x8, x9, x10, x11, .slice ad len cap, x13, x14, .slice ad len cap, .int .i64 (len : Int), .slice (some ⟨ga, 0, none⟩) len len, .slice ad len cap, .int .i64 (len : Int), .slice (some ⟨gw, 0, none⟩) len len, x21, x22, x23, x24, x25, x26, x27, x28, x29, x30, x31, x32, x33, x34, x35, x36, x37, x38, x39, x40, x41, x42, x43, x44, x45, x46, x47, x48, x49, x50, x51, x52, x53, x54, x55, x56, x57, x58, x59, x60, x61, x62, x63, x64, x65, x66, x67, x68, x69, x70, x71, x72, x73, x74, x75, x76, x77, x78, x79], defers := ds } W := by
  refine wpAnyH_ready (rs := [1]) (by kernel_rfl) (by simp) ?_
  refine AllReadyH.cons (i := 1) (o := { dst := some 13, op := Op.call { callee := Callee.value (Operand.func 24), args := #[Operand.tmp 12], argTypes := #[22] }, type := 43, pos := "order.go:34", after := #[{ on := 0, ground := Ground.data }], guard := none }) rfl ?_ AllReadyH.nil
  · intro K1 hK1
    rw [if_pos (by rfl)]
    have H := h24.out W hb.out
    go_wp2_with fail
    refine H.mono ?_
    rintro e w1 ⟨b1, rfl, H1, HB1⟩
    dsimp only
    refine hK1.out _ _ trivial ?_
    intro _
    try simp only [Act.put, List.setIfInBounds_toArray, List.set_cons_zero, List.set_cons_succ]
    exact web1_1111 (bm := b1) hn h24 h33 (hb.out.trans (HB1.out.mono hb.out.size)) H1.out.1 (ha.out.below HB1.out) (hw.out.below HB1.out) (hs.out.below HB1.out) hQ
set_option maxRecDepth 100000 in
set_option maxHeartbeats 2000000 in
theorem web1_1011 {Q : Exit → Act → World → Prop} {ds : List Deferred} {A W : World} {len cap : Nat} {ad : Option Addr} {ks : List Hs} {bm : Nat} {gw : Nat} {gs : Nat} {x1 x2 x4 x5 x6 x7 x8 x9 x10 x11 x14 x17 x21 x22 x23 x24 x25 x26 x27 x28 x29 x30 x31 x32 x33 x34 x35 x36 x37 x38 x39 x40 x41 x42 x43 x44 x45 x46 x47 x48 x49 x50 x51 x52 x53 x54 x55 x56 x57 x58 x59 x60 x61 x62 x63 x64 x65 x66 x67 x68 x69 x70 x71 x72 x73 x74 x75 x76 x77 x78 x79 : Value} (hn : Hid (len ≤ 100000)) (h24 : Hid (∀ V, Below A.heap.size A V → Calls Try.prog 24 #[.slice ad len cap] V (NamesP V ks))) (h33 : Hid (∀ V b, SM V b ks → Calls Try.prog 33 #[.map (some b)] V (RiseP V ks))) (hb : Hid (Below A.heap.size A W)) (hc : Hid (MapF W bm ks)) (hw : Hid (NewW A W len gw)) (hs : Hid (NewS A W gs))
    (hQ : Hid (∀ (bm : Nat) (an : Option Addr) (nn cc : Nat) (rs : List Hs) (ga gw gs : Nat) (V : World), Web0 A V ks len an nn cc rs ga gw gs → Q .normal { tmps := #[.slice ad len cap, x1, x2, .pointer (some ⟨gs, 0, none⟩), x4, x5, x6, x7, x8, x9, x10, x11, .slice ad len cap, .map (some bm), .slice an nn cc, .slice ad len cap, .int .i64 (len : Int), .slice (some ⟨ga, 0, none⟩) len len, .slice ad len cap, .int .i64 (len : Int), .slice (some ⟨gw, 0, none⟩) len len, .agg #[.slice an nn cc, .slice (some ⟨ga, 0, none⟩) len len, .slice (some ⟨gw, 0, none⟩) len len], x22, x23, x24, x25, x26, x27, x28, x29, x30, x31, x32, x33, x34, x35, x36, x37, x38, x39, x40, x41, x42, x43, x44, x45, x46, x47, x48, x49, x50, x51, x52, x53, x54, x55, x56, x57, x58, x59, x60, x61, x62, x63, x64, x65, x66, x67, x68, x69, x70, x71, x72, x73, x74, x75, x76, x77, x78, x79], defers := ds } V)) :
    wpAnyH Try.prog .any webOps (QN Q) (fun _ => True) 4 #[true, true, false, true, true, false, true, true, true, false, true, false] { tmps := #[.slice ad len cap, x1, x2, .pointer (some ⟨gs, 0, none⟩), x4, x5, x6, x7, x8, x9, x10, x11, .slice ad len cap, .map (some bm), x14, .slice ad len cap, .int .i64 (len : Int), x17, .slice ad len cap, .int .i64 (len : Int), .slice (some ⟨gw, 0, none⟩) len len, x21, x22, x23, x24, x25, x26, x27, x28, x29, x30, x31, x32, x33, x34, x35, x36, x37, x38, x39, x40, x41, x42, x43, x44, x45, x46, x47, x48, x49, x50, x51, x52, x53, x54, x55, x56, x57, x58, x59, x60, x61, x62, x63, x64, x65, x66, x67, x68, x69, x70, x71, x72, x73, x74, x75, x76, x77, x78, x79], defers := ds } W := by
  refine wpAnyH_ready (rs := [2, 5]) (by kernel_rfl) (by simp) ?_
  refine AllReadyH.cons (i := 2) (o := { dst := some 14, op := Op.call { callee := Callee.value (Operand.func 33), args := #[Operand.tmp 13], argTypes := #[43] }, type := 26, pos := "order.go:34", after := #[{ on := 1, ground := Ground.data }, { on := 1, ground := Ground.chain }], guard := none }) rfl ?_ (AllReadyH.cons (i := 5) (o := { dst := some 17, op := Op.makeSlice 55 (Operand.tmp 16) (Operand.tmp 16), type := 55, pos := "order.go:34", after := #[{ on := 4, ground := Ground.data }, { on := 4, ground := Ground.data }], guard := none }) rfl ?_ AllReadyH.nil)
  · intro K1 hK1
    rw [if_pos (by rfl)]
    have H := h33.out W bm hc.out
    go_wp2_with fail
    refine H.mono ?_
    rintro e w1 ⟨an, nn, cc, rs, rfl, H1, HB1⟩
    dsimp only
    refine hK1.out _ _ trivial ?_
    intro _
    try simp only [Act.put, List.setIfInBounds_toArray, List.set_cons_zero, List.set_cons_succ]
    exact web1_2011 (bm := bm) (an := an) (nn := nn) (cc := cc) (rs := rs) hn h24 h33 (hb.out.trans (HB1.out.mono hb.out.size)) H1.out (hw.out.below HB1.out) (hs.out.below HB1.out) hQ
  · intro K1 hK1
    rw [if_pos (by rfl)]
    refine wp_mk55 (.tmp 16) (.tmp 16) rfl len rfl rfl hn.out ?_
    refine hK1.out _ _ trivial ?_
    intro _
    try simp only [Act.put, List.setIfInBounds_toArray, List.set_cons_zero, List.set_cons_succ]
    exact web1_1111 (ga := W.heap.size) hn h24 h33 (hb.out.alloc hb.out.size _) (hc.out.below (below_new W (.cells (List.replicate len (.slice none 0 0)).toArray 56))) ⟨by simpa using Blk.new W (List.replicate len (.slice none 0 0)).toArray 56, hb.out.size⟩ (hw.out.below (below_new W (.cells (List.replicate len (.slice none 0 0)).toArray 56))) (hs.out.below (below_new W (.cells (List.replicate len (.slice none 0 0)).toArray 56))) hQ
set_option maxRecDepth 100000 in
set_option maxHeartbeats 2000000 in
theorem web1_1101 {Q : Exit → Act → World → Prop} {ds : List Deferred} {A W : World} {len cap : Nat} {ad : Option Addr} {ks : List Hs} {bm : Nat} {ga : Nat} {gs : Nat} {x1 x2 x4 x5 x6 x7 x8 x9 x10 x11 x14 x20 x21 x22 x23 x24 x25 x26 x27 x28 x29 x30 x31 x32 x33 x34 x35 x36 x37 x38 x39 x40 x41 x42 x43 x44 x45 x46 x47 x48 x49 x50 x51 x52 x53 x54 x55 x56 x57 x58 x59 x60 x61 x62 x63 x64 x65 x66 x67 x68 x69 x70 x71 x72 x73 x74 x75 x76 x77 x78 x79 : Value} (hn : Hid (len ≤ 100000)) (h24 : Hid (∀ V, Below A.heap.size A V → Calls Try.prog 24 #[.slice ad len cap] V (NamesP V ks))) (h33 : Hid (∀ V b, SM V b ks → Calls Try.prog 33 #[.map (some b)] V (RiseP V ks))) (hb : Hid (Below A.heap.size A W)) (hc : Hid (MapF W bm ks)) (ha : Hid (NewA A W len ga)) (hs : Hid (NewS A W gs))
    (hQ : Hid (∀ (bm : Nat) (an : Option Addr) (nn cc : Nat) (rs : List Hs) (ga gw gs : Nat) (V : World), Web0 A V ks len an nn cc rs ga gw gs → Q .normal { tmps := #[.slice ad len cap, x1, x2, .pointer (some ⟨gs, 0, none⟩), x4, x5, x6, x7, x8, x9, x10, x11, .slice ad len cap, .map (some bm), .slice an nn cc, .slice ad len cap, .int .i64 (len : Int), .slice (some ⟨ga, 0, none⟩) len len, .slice ad len cap, .int .i64 (len : Int), .slice (some ⟨gw, 0, none⟩) len len, .agg #[.slice an nn cc, .slice (some ⟨ga, 0, none⟩) len len, .slice (some ⟨gw, 0, none⟩) len len], x22, x23, x24, x25, x26, x27, x28, x29, x30, x31, x32, x33, x34, x35, x36, x37, x38, x39, x40, x41, x42, x43, x44, x45, x46, x47, x48, x49, x50, x51, x52, x53, x54, x55, x56, x57, x58, x59, x60, x61, x62, x63, x64, x65, x66, x67, x68, x69, x70, x71, x72, x73, x74, x75, x76, x77, x78, x79], defers := ds } V)) :
    wpAnyH Try.prog .any webOps (QN Q) (fun _ => True) 4 #[true, true, false, true, true, true, true, true, false, false, true, false] { tmps := #[.slice ad len cap, x1, x2, .pointer (some ⟨gs, 0, none⟩), x4, x5, x6, x7, x8, x9, x10, x11, .slice ad len cap, .map (some bm), x14, .slice ad len cap, .int .i64 (len : Int), .slice (some ⟨ga, 0, none⟩) len len, .slice ad len cap, .int .i64 (len : Int), x20, x21, x22, x23, x24, x25, x26, x27, x28, x29, x30, x31, x32, x33, x34, x35, x36, x37, x38, x39, x40, x41, x42, x43, x44, x45, x46, x47, x48, x49, x50, x51, x52, x53, x54, x55, x56, x57, x58, x59, x60, x61, x62, x63, x64, x65, x66, x67, x68, x69, x70, x71, x72, x73, x74, x75, x76, x77, x78, x79], defers := ds } W := by
  refine wpAnyH_ready (rs := [2, 8]) (by kernel_rfl) (by simp) ?_
  refine AllReadyH.cons (i := 2) (o := { dst := some 14, op := Op.call { callee := Callee.value (Operand.func 33), args := #[Operand.tmp 13], argTypes := #[43] }, type := 26, pos := "order.go:34", after := #[{ on := 1, ground := Ground.data }, { on := 1, ground := Ground.chain }], guard := none }) rfl ?_ (AllReadyH.cons (i := 8) (o := { dst := some 20, op := Op.makeSlice 56 (Operand.tmp 19) (Operand.tmp 19), type := 56, pos := "order.go:34", after := #[{ on := 7, ground := Ground.data }, { on := 7, ground := Ground.data }], guard := none }) rfl ?_ AllReadyH.nil)
  · intro K1 hK1
    rw [if_pos (by rfl)]
    have H := h33.out W bm hc.out
    go_wp2_with fail
    refine H.mono ?_
    rintro e w1 ⟨an, nn, cc, rs, rfl, H1, HB1⟩
    dsimp only
    refine hK1.out _ _ trivial ?_
    intro _
    try simp only [Act.put, List.setIfInBounds_toArray, List.set_cons_zero, List.set_cons_succ]
    exact web1_2101 (bm := bm) (an := an) (nn := nn) (cc := cc) (rs := rs) hn h24 h33 (hb.out.trans (HB1.out.mono hb.out.size)) H1.out (ha.out.below HB1.out) (hs.out.below HB1.out) hQ
  · intro K1 hK1
    rw [if_pos (by rfl)]
    refine wp_mk56 (.tmp 19) (.tmp 19) rfl len rfl rfl hn.out ?_
    refine hK1.out _ _ trivial ?_
    intro _
    try simp only [Act.put, List.setIfInBounds_toArray, List.set_cons_zero, List.set_cons_succ]
    exact web1_1111 (gw := W.heap.size) hn h24 h33 (hb.out.alloc hb.out.size _) (hc.out.below (below_new W (.cells (List.replicate len (.int .i64 0)).toArray 3))) (ha.out.below (below_new W (.cells (List.replicate len (.int .i64 0)).toArray 3))) ⟨by simpa using Blk.new W (List.replicate len (.int .i64 0)).toArray 3, hb.out.size⟩ (hs.out.below (below_new W (.cells (List.replicate len (.int .i64 0)).toArray 3))) hQ
set_option maxRecDepth 100000 in
set_option maxHeartbeats 2000000 in
theorem web1_1110 {Q : Exit → Act → World → Prop} {ds : List Deferred} {A W : World} {len cap : Nat} {ad : Option Addr} {ks : List Hs} {bm : Nat} {ga : Nat} {gw : Nat} {x1 x2 x3 x4 x5 x6 x7 x8 x9 x10 x11 x14 x21 x22 x23 x24 x25 x26 x27 x28 x29 x30 x31 x32 x33 x34 x35 x36 x37 x38 x39 x40 x41 x42 x43 x44 x45 x46 x47 x48 x49 x50 x51 x52 x53 x54 x55 x56 x57 x58 x59 x60 x61 x62 x63 x64 x65 x66 x67 x68 x69 x70 x71 x72 x73 x74 x75 x76 x77 x78 x79 : Value} (hn : Hid (len ≤ 100000)) (h24 : Hid (∀ V, Below A.heap.size A V → Calls Try.prog 24 #[.slice ad len cap] V (NamesP V ks))) (h33 : Hid (∀ V b, SM V b ks → Calls Try.prog 33 #[.map (some b)] V (RiseP V ks))) (hb : Hid (Below A.heap.size A W)) (hc : Hid (MapF W bm ks)) (ha : Hid (NewA A W len ga)) (hw : Hid (NewW A W len gw))
    (hQ : Hid (∀ (bm : Nat) (an : Option Addr) (nn cc : Nat) (rs : List Hs) (ga gw gs : Nat) (V : World), Web0 A V ks len an nn cc rs ga gw gs → Q .normal { tmps := #[.slice ad len cap, x1, x2, .pointer (some ⟨gs, 0, none⟩), x4, x5, x6, x7, x8, x9, x10, x11, .slice ad len cap, .map (some bm), .slice an nn cc, .slice ad len cap, .int .i64 (len : Int), .slice (some ⟨ga, 0, none⟩) len len, .slice ad len cap, .int .i64 (len : Int), .slice (some ⟨gw, 0, none⟩) len len, .agg #[.slice an nn cc, .slice (some ⟨ga, 0, none⟩) len len, .slice (some ⟨gw, 0, none⟩) len len], x22, x23, x24, x25, x26, x27, x28, x29, x30, x31, x32, x33, x34, x35, x36, x37, x38, x39, x40, x41, x42, x43, x44, x45, x46, x47, x48, x49, x50, x51, x52, x53, x54, x55, x56, x57, x58, x59, x60, x61, x62, x63, x64, x65, x66, x67, x68, x69, x70, x71, x72, x73, x74, x75, x76, x77, x78, x79], defers := ds } V)) :
    wpAnyH Try.prog .any webOps (QN Q) (fun _ => True) 4 #[true, true, false, true, true, true, true, true, true, false, false, false] { tmps := #[.slice ad len cap, x1, x2, x3, x4, x5, x6, x7, x8, x9, x10, x11, .slice ad len cap, .map (some bm), x14, .slice ad len cap, .int .i64 (len : Int), .slice (some ⟨ga, 0, none⟩) len len, .slice ad len cap, .int .i64 (len : Int), .slice (some ⟨gw, 0, none⟩) len len, x21, x22, x23, x24, x25, x26, x27, x28, x29, x30, x31, x32, x33, x34, x35, x36, x37, x38, x39, x40, x41, x42, x43, x44, x45, x46, x47, x48, x49, x50, x51, x52, x53, x54, x55, x56, x57, x58, x59, x60, x61, x62, x63, x64, x65, x66, x67, x68, x69, x70, x71, x72, x73, x74, x75, x76, x77, x78, x79], defers := ds } W := by
  refine wpAnyH_ready (rs := [2, 10]) (by kernel_rfl) (by simp) ?_
  refine AllReadyH.cons (i := 2) (o := { dst := some 14, op := Op.call { callee := Callee.value (Operand.func 33), args := #[Operand.tmp 13], argTypes := #[43] }, type := 26, pos := "order.go:34", after := #[{ on := 1, ground := Ground.data }, { on := 1, ground := Ground.chain }], guard := none }) rfl ?_ (AllReadyH.cons (i := 10) (o := { dst := some 3, op := Op.alloc 58, type := 0, pos := "order.go:34", after := #[], guard := none }) rfl ?_ AllReadyH.nil)
  · intro K1 hK1
    rw [if_pos (by rfl)]
    have H := h33.out W bm hc.out
    go_wp2_with fail
    refine H.mono ?_
    rintro e w1 ⟨an, nn, cc, rs, rfl, H1, HB1⟩
    dsimp only
    refine hK1.out _ _ trivial ?_
    intro _
    try simp only [Act.put, List.setIfInBounds_toArray, List.set_cons_zero, List.set_cons_succ]
    exact web1_2110 (bm := bm) (an := an) (nn := nn) (cc := cc) (rs := rs) hn h24 h33 (hb.out.trans (HB1.out.mono hb.out.size)) H1.out (ha.out.below HB1.out) (hw.out.below HB1.out) hQ
  · intro K1 hK1
    rw [if_pos (by rfl)]
    refine wp_al58 3 rfl rfl ?_
    refine hK1.out _ _ trivial ?_
    intro _
    try simp only [Act.put, List.setIfInBounds_toArray, List.set_cons_zero, List.set_cons_succ]
    exact web1_1111 (gs := W.heap.size) hn h24 h33 (hb.out.alloc hb.out.size _) (hc.out.below (below_new W (.cells #[.slice none 0 0, .slice none 0 0, .slice none 0 0] 58))) (ha.out.below (below_new W (.cells #[.slice none 0 0, .slice none 0 0, .slice none 0 0] 58))) (hw.out.below (below_new W (.cells #[.slice none 0 0, .slice none 0 0, .slice none 0 0] 58))) ⟨by simpa using Blk.new W #[.slice none 0 0, .slice none 0 0, .slice none 0 0] 58, hb.out.size⟩ hQ
set_option maxRecDepth 100000 in
set_option maxHeartbeats 2000000 in
theorem web1_2001 {Q : Exit → Act → World → Prop} {ds : List Deferred} {A W : World} {len cap : Nat} {ad : Option Addr} {ks : List Hs} {bm : Nat} {an : Option Addr} {nn cc : Nat} {rs : List Hs} {gs : Nat} {x1 x2 x4 x5 x6 x7 x8 x9 x10 x11 x17 x20 x21 x22 x23 x24 x25 x26 x27 x28 x29 x30 x31 x32 x33 x34 x35 x36 x37 x38 x39 x40 x41 x42 x43 x44 x45 x46 x47 x48 x49 x50 x51 x52 x53 x54 x55 x56 x57 x58 x59 x60 x61 x62 x63 x64 x65 x66 x67 x68 x69 x70 x71 x72 x73 x74 x75 x76 x77 x78 x79 : Value} (hn : Hid (len ≤ 100000)) (h24 : Hid (∀ V, Below A.heap.size A V → Calls Try.prog 24 #[.slice ad len cap] V (NamesP V ks))) (h33 : Hid (∀ V b, SM V b ks → Calls Try.prog 33 #[.map (some b)] V (RiseP V ks))) (hb : Hid (Below A.heap.size A W)) (hc : Hid (RowF W ks an nn cc rs)) (hs : Hid (NewS A W gs))
    (hQ : Hid (∀ (bm : Nat) (an : Option Addr) (nn cc : Nat) (rs : List Hs) (ga gw gs : Nat) (V : World), Web0 A V ks len an nn cc rs ga gw gs → Q .normal { tmps := #[.slice ad len cap, x1, x2, .pointer (some ⟨gs, 0, none⟩), x4, x5, x6, x7, x8, x9, x10, x11, .slice ad len cap, .map (some bm), .slice an nn cc, .slice ad len cap, .int .i64 (len : Int), .slice (some ⟨ga, 0, none⟩) len len, .slice ad len cap, .int .i64 (len : Int), .slice (some ⟨gw, 0, none⟩) len len, .agg #[.slice an nn cc, .slice (some ⟨ga, 0, none⟩) len len, .slice (some ⟨gw, 0, none⟩) len len], x22, x23, x24, x25, x26, x27, x28, x29, x30, x31, x32, x33, x34, x35, x36, x37, x38, x39, x40, x41, x42, x43, x44, x45, x46, x47, x48, x49, x50, x51, x52, x53, x54, x55, x56, x57, x58, x59, x60, x61, x62, x63, x64, x65, x66, x67, x68, x69, x70, x71, x72, x73, x74, x75, x76, x77, x78, x79], defers := ds } V)) :
    wpAnyH Try.prog .any webOps (QN Q) (fun _ => True) 4 #[true, true, true, true, true, false, true, true, false, false, true, false] { tmps := #[.slice ad len cap, x1, x2, .pointer (some ⟨gs, 0, none⟩), x4, x5, x6, x7, x8, x9, x10, x11, .slice ad len cap, .map (some bm), .slice an nn cc, .slice ad len cap, .int .i64 (len : Int), x17, .slice ad len cap, .int .i64 (len : Int), x20, x21, x22, x23, x24, x25, x26, x27, x28, x29, x30, x31, x32, x33, x34, x35, x36, x37, x38, x39, x40, x41, x42, x43, x44, x45, x46, x47, x48, x49, x50, x51, x52, x53, x54, x55, x56, x57, x58, x59, x60, x61, x62, x63, x64, x65, x66, x67, x68, x69, x70, x71, x72, x73, x74, x75, x76, x77, x78, x79], defers := ds } W := by
  refine wpAnyH_ready (rs := [5, 8]) (by kernel_rfl) (by simp) ?_
  refine AllReadyH.cons (i := 5) (o := { dst := some 17, op := Op.makeSlice 55 (Operand.tmp 16) (Operand.tmp 16), type := 55, pos := "order.go:34", after := #[{ on := 4, ground := Ground.data }, { on := 4, ground := Ground.data }], guard := none }) rfl ?_ (AllReadyH.cons (i := 8) (o := { dst := some 20, op := Op.makeSlice 56 (Operand.tmp 19) (Operand.tmp 19), type := 56, pos := "order.go:34", after := #[{ on := 7, ground := Ground.data }, { on := 7, ground := Ground.data }], guard := none }) rfl ?_ AllReadyH.nil)
  · intro K1 hK1
    rw [if_pos (by rfl)]
    refine wp_mk55 (.tmp 16) (.tmp 16) rfl len rfl rfl hn.out ?_
    refine hK1.out _ _ trivial ?_
    intro _
    try simp only [Act.put, List.setIfInBounds_toArray, List.set_cons_zero, List.set_cons_succ]
    exact web1_2101 (ga := W.heap.size) hn h24 h33 (hb.out.alloc hb.out.size _) (hc.out.below (below_new W (.cells (List.replicate len (.slice none 0 0)).toArray 56))) ⟨by simpa using Blk.new W (List.replicate len (.slice none 0 0)).toArray 56, hb.out.size⟩ (hs.out.below (below_new W (.cells (List.replicate len (.slice none 0 0)).toArray 56))) hQ
  · intro K1 hK1
    rw [if_pos (by rfl)]
    refine wp_mk56 (.tmp 19) (.tmp 19) rfl len rfl rfl hn.out ?_
    refine hK1.out _ _ trivial ?_
    intro _
    try simp only [Act.put, List.setIfInBounds_toArray, List.set_cons_zero, List.set_cons_succ]
    exact web1_2011 (gw := W.heap.size) hn h24 h33 (hb.out.alloc hb.out.size _) (hc.out.below (below_new W (.cells (List.replicate len (.int .i64 0)).toArray 3))) ⟨by simpa using Blk.new W (List.replicate len (.int .i64 0)).toArray 3, hb.out.size⟩ (hs.out.below (below_new W (.cells (List.replicate len (.int .i64 0)).toArray 3))) hQ
set_option maxRecDepth 100000 in
set_option maxHeartbeats 2000000 in
theorem web1_2010 {Q : Exit → Act → World → Prop} {ds : List Deferred} {A W : World} {len cap : Nat} {ad : Option Addr} {ks : List Hs} {bm : Nat} {an : Option Addr} {nn cc : Nat} {rs : List Hs} {gw : Nat} {x1 x2 x3 x4 x5 x6 x7 x8 x9 x10 x11 x17 x21 x22 x23 x24 x25 x26 x27 x28 x29 x30 x31 x32 x33 x34 x35 x36 x37 x38 x39 x40 x41 x42 x43 x44 x45 x46 x47 x48 x49 x50 x51 x52 x53 x54 x55 x56 x57 x58 x59 x60 x61 x62 x63 x64 x65 x66 x67 x68 x69 x70 x71 x72 x73 x74 x75 x76 x77 x78 x79 : Value} (hn : Hid (len ≤ 100000)) (h24 : Hid (∀ V, Below A.heap.size A V → Calls Try.prog 24 #[.slice ad len cap] V (NamesP V ks))) (h33 : Hid (∀ V b, SM V b ks → Calls Try.prog 33 #[.map (some b)] V (RiseP V ks))) (hb : Hid (Below A.heap.size A W)) (hc : Hid (RowF W ks an nn cc rs)) (hw : Hid (NewW A W len gw))
    (hQ : Hid (∀ (bm : Nat) (an : Option Addr) (nn cc : Nat) (rs : List Hs) (ga gw gs : Nat) (V : World), Web0 A V ks len an nn cc rs ga gw gs → Q .normal { tmps := #[.slice ad len cap, x1, x2, .pointer (some ⟨gs, 0, none⟩), x4, x5, x6, x7, x8, x9, x10, x11, .slice ad len cap, .map (some bm), .slice an nn cc, .slice ad len cap, .int .i64 (len : Int), .slice (some ⟨ga, 0, none⟩) len len, .slice ad len cap, .int .i64 (len : Int), .slice (some ⟨gw, 0, none⟩) len len, .agg #[.slice an nn cc, .slice (some ⟨ga, 0, none⟩) len len, .slice (some ⟨gw, 0, none⟩) len len], x22, x23, x24, x25, x26, x27, x28, x29, x30, x31, x32, x33, x34, x35, x36, x37, x38, x39, x40, x41, x42, x43, x44, x45, x46, x47, x48, x49, x50, x51, x52, x53, x54, x55, x56, x57, x58, x59, x60, x61, x62, x63, x64, x65, x66, x67, x68, x69, x70, x71, x72, x73, x74, x75, x76, x77, x78, x79], defers := ds } V)) :
    wpAnyH Try.prog .any webOps (QN Q) (fun _ => True) 4 #[true, true, true, true, true, false, true, true, true, false, false, false] { tmps := #[.slice ad len cap, x1, x2, x3, x4, x5, x6, x7, x8, x9, x10, x11, .slice ad len cap, .map (some bm), .slice an nn cc, .slice ad len cap, .int .i64 (len : Int), x17, .slice ad len cap, .int .i64 (len : Int), .slice (some ⟨gw, 0, none⟩) len len, x21, x22, x23, x24, x25, x26, x27, x28, x29, x30, x31, x32, x33, x34, x35, x36, x37, x38, x39, x40, x41, x42, x43, x44, x45, x46, x47, x48, x49, x50, x51, x52, x53, x54, x55, x56, x57, x58, x59, x60, x61, x62, x63, x64, x65, x66, x67, x68, x69, x70, x71, x72, x73, x74, x75, x76, x77, x78, x79], defers := ds } W := by
  refine wpAnyH_ready (rs := [5, 10]) (by kernel_rfl) (by simp) ?_
  refine AllReadyH.cons (i := 5) (o := { dst := some 17, op := Op.makeSlice 55 (Operand.tmp 16) (Operand.tmp 16), type := 55, pos := "order.go:34", after := #[{ on := 4, ground := Ground.data }, { on := 4, ground := Ground.data }], guard := none }) rfl ?_ (AllReadyH.cons (i := 10) (o := { dst := some 3, op := Op.alloc 58, type := 0, pos := "order.go:34", after := #[], guard := none }) rfl ?_ AllReadyH.nil)
  · intro K1 hK1
    rw [if_pos (by rfl)]
    refine wp_mk55 (.tmp 16) (.tmp 16) rfl len rfl rfl hn.out ?_
    refine hK1.out _ _ trivial ?_
    intro _
    try simp only [Act.put, List.setIfInBounds_toArray, List.set_cons_zero, List.set_cons_succ]
    exact web1_2110 (ga := W.heap.size) hn h24 h33 (hb.out.alloc hb.out.size _) (hc.out.below (below_new W (.cells (List.replicate len (.slice none 0 0)).toArray 56))) ⟨by simpa using Blk.new W (List.replicate len (.slice none 0 0)).toArray 56, hb.out.size⟩ (hw.out.below (below_new W (.cells (List.replicate len (.slice none 0 0)).toArray 56))) hQ
  · intro K1 hK1
    rw [if_pos (by rfl)]
    refine wp_al58 3 rfl rfl ?_
    refine hK1.out _ _ trivial ?_
    intro _
    try simp only [Act.put, List.setIfInBounds_toArray, List.set_cons_zero, List.set_cons_succ]
    exact web1_2011 (gs := W.heap.size) hn h24 h33 (hb.out.alloc hb.out.size _) (hc.out.below (below_new W (.cells #[.slice none 0 0, .slice none 0 0, .slice none 0 0] 58))) (hw.out.below (below_new W (.cells #[.slice none 0 0, .slice none 0 0, .slice none 0 0] 58))) ⟨by simpa using Blk.new W #[.slice none 0 0, .slice none 0 0, .slice none 0 0] 58, hb.out.size⟩ hQ
set_option maxRecDepth 100000 in
set_option maxHeartbeats 2000000 in
theorem web1_2100 {Q : Exit → Act → World → Prop} {ds : List Deferred} {A W : World} {len cap : Nat} {ad : Option Addr} {ks : List Hs} {bm : Nat} {an : Option Addr} {nn cc : Nat} {rs : List Hs} {ga : Nat} {x1 x2 x3 x4 x5 x6 x7 x8 x9 x10 x11 x20 x21 x22 x23 x24 x25 x26 x27 x28 x29 x30 x31 x32 x33 x34 x35 x36 x37 x38 x39 x40 x41 x42 x43 x44 x45 x46 x47 x48 x49 x50 x51 x52 x53 x54 x55 x56 x57 x58 x59 x60 x61 x62 x63 x64 x65 x66 x67 x68 x69 x70 x71 x72 x73 x74 x75 x76 x77 x78 x79 : Value} (hn : Hid (len ≤ 100000)) (h24 : Hid (∀ V, Below A.heap.size A V → Calls Try.prog 24 #[.slice ad len cap] V (NamesP V ks))) (h33 : Hid (∀ V b, SM V b ks → Calls Try.prog 33 #[.map (some b)] V (RiseP V ks))) (hb : Hid (Below A.heap.size A W)) (hc : Hid (RowF W ks an nn cc rs)) (ha : Hid (NewA A W len ga))
    (hQ : Hid (∀ (bm : Nat) (an : Option Addr) (nn cc : Nat) (rs : List Hs) (ga gw gs : Nat) (V : World), Web0 A V ks len an nn cc rs ga gw gs → Q .normal { tmps := #[.slice ad len cap, x1, x2, .pointer (some ⟨gs, 0, none⟩), x4, x5, x6, x7, x8, x9, x10, x11, .slice ad len cap, .map (some bm), .slice an nn cc, .slice ad len cap, .int .i64 (len : Int), .slice (some ⟨ga, 0, none⟩) len len, .slice ad len cap, .int .i64 (len : Int), .slice (some ⟨gw, 0, none⟩) len len, .agg #[.slice an nn cc, .slice (some ⟨ga, 0, none⟩) len len, .slice (some ⟨gw, 0, none⟩) len len], x22, x23, x24, x25, x26, x27, x28, x29, x30, x31, x32, x33, x34, x35, x36, x37, x38, x39, x40, x41, x42, x43, x44, x45, x46, x47, x48, x49, x50, x51, x52, x53, x54, x55, x56, x57, x58, x59, x60, x61, x62, x63, x64, x65, x66, x67, x68, x69, x70, x71, x72, x73, x74, x75, x76, x77, x78, x79], defers := ds } V)) :
    wpAnyH Try.prog .any webOps (QN Q) (fun _ => True) 4 #[true, true, true, true, true, true, true, true, false, false, false, false] { tmps := #[.slice ad len cap, x1, x2, x3, x4, x5, x6, x7, x8, x9, x10, x11, .slice ad len cap, .map (some bm), .slice an nn cc, .slice ad len cap, .int .i64 (len : Int), .slice (some ⟨ga, 0, none⟩) len len, .slice ad len cap, .int .i64 (len : Int), x20, x21, x22, x23, x24, x25, x26, x27, x28, x29, x30, x31, x32, x33, x34, x35, x36, x37, x38, x39, x40, x41, x42, x43, x44, x45, x46, x47, x48, x49, x50, x51, x52, x53, x54, x55, x56, x57, x58, x59, x60, x61, x62, x63, x64, x65, x66, x67, x68, x69, x70, x71, x72, x73, x74, x75, x76, x77, x78, x79], defers := ds } W := by
  refine wpAnyH_ready (rs := [8, 10]) (by kernel_rfl) (by simp) ?_
  refine AllReadyH.cons (i := 8) (o := { dst := some 20, op := Op.makeSlice 56 (Operand.tmp 19) (Operand.tmp 19), type := 56, pos := "order.go:34", after := #[{ on := 7, ground := Ground.data }, { on := 7, ground := Ground.data }], guard := none }) rfl ?_ (AllReadyH.cons (i := 10) (o := { dst := some 3, op := Op.alloc 58, type := 0, pos := "order.go:34", after := #[], guard := none }) rfl ?_ AllReadyH.nil)
  · intro K1 hK1
    rw [if_pos (by rfl)]
    refine wp_mk56 (.tmp 19) (.tmp 19) rfl len rfl rfl hn.out ?_
    refine hK1.out _ _ trivial ?_
    intro _
    try simp only [Act.put, List.setIfInBounds_toArray, List.set_cons_zero, List.set_cons_succ]
    exact web1_2110 (gw := W.heap.size) hn h24 h33 (hb.out.alloc hb.out.size _) (hc.out.below (below_new W (.cells (List.replicate len (.int .i64 0)).toArray 3))) (ha.out.below (below_new W (.cells (List.replicate len (.int .i64 0)).toArray 3))) ⟨by simpa using Blk.new W (List.replicate len (.int .i64 0)).toArray 3, hb.out.size⟩ hQ
  · intro K1 hK1
    rw [if_pos (by rfl)]
    refine wp_al58 3 rfl rfl ?_
    refine hK1.out _ _ trivial ?_
    intro _
    try simp only [Act.put, List.setIfInBounds_toArray, List.set_cons_zero, List.set_cons_succ]
    exact web1_2101 (gs := W.heap.size) hn h24 h33 (hb.out.alloc hb.out.size _) (hc.out.below (below_new W (.cells #[.slice none 0 0, .slice none 0 0, .slice none 0 0] 58))) (ha.out.below (below_new W (.cells #[.slice none 0 0, .slice none 0 0, .slice none 0 0] 58))) ⟨by simpa using Blk.new W #[.slice none 0 0, .slice none 0 0, .slice none 0 0] 58, hb.out.size⟩ hQ
set_option maxRecDepth 100000 in
set_option maxHeartbeats 2000000 in
theorem web1_0011 {Q : Exit → Act → World → Prop} {ds : List Deferred} {A W : World} {len cap : Nat} {ad : Option Addr} {ks : List Hs} {gw : Nat} {gs : Nat} {x1 x2 x4 x5 x6 x7 x8 x9 x10 x11 x13 x14 x17 x21 x22 x23 x24 x25 x26 x27 x28 x29 x30 x31 x32 x33 x34 x35 x36 x37 x38 x39 x40 x41 x42 x43 x44 x45 x46 x47 x48 x49 x50 x51 x52 x53 x54 x55 x56 x57 x58 x59 x60 x61 x62 x63 x64 x65 x66 x67 x68 x69 x70 x71 x72 x73 x74 x75 x76 x77 x78 x79 : Value} (hn : Hid (len ≤ 100000)) (h24 : Hid (∀ V, Below A.heap.size A V → Calls Try.prog 24 #[.slice ad len cap] V (NamesP V ks))) (h33 : Hid (∀ V b, SM V b ks → Calls Try.prog 33 #[.map (some b)] V (RiseP V ks))) (hb : Hid (Below A.heap.size A W)) (hw : Hid (NewW A W len gw)) (hs : Hid (NewS A W gs))
    (hQ : Hid (∀ (bm : Nat) (an : Option Addr) (nn cc : Nat) (rs : List Hs) (ga gw gs : Nat) (V : World), Web0 A V ks len an nn cc rs ga gw gs → Q .normal { tmps := #[.slice ad len cap, x1, x2, .pointer (some ⟨gs, 0, none⟩), x4, x5, x6, x7, x8, x9, x10, x11, .slice ad len cap, .map (some bm), .slice an nn cc, .slice ad len cap, .int .i64 (len : Int), .slice (some ⟨ga, 0, none⟩) len len, .slice ad len cap, .int .i64 (len : Int), .slice (some ⟨gw, 0, none⟩) len len, .agg #[.slice an nn cc, .slice (some ⟨ga, 0, none⟩) len len, .slice (some ⟨gw, 0, none⟩) len len], x22, x23, x24, x25, x26, x27, x28, x29, x30, x31, x32, x33, x34, x35, x36, x37, x38, x39, x40, x41, x42, x43, x44, x45, x46, x47, x48, x49, x50, x51, x52, x53, x54, x55, x56, x57, x58, x59, x60, x61, x62, x63, x64, x65, x66, x67, x68, x69, x70, x71, x72, x73, x74, x75, x76, x77, x78, x79], defers := ds } V)) :
    wpAnyH Try.prog .any webOps (QN Q) (fun _ => True) 5 #[true, false, false, true, true, false, true, true, true, false, true, false] { tmps := #[.slice ad len cap, x1, x2, .pointer (some ⟨gs, 0, none⟩), x4, x5, x6, x7, x8, x9, x10, x11, .slice ad len cap, x13, x14, .slice ad len cap, .int .i64 (len : Int), x17, .slice ad len cap, .int .i64 (len : Int), .slice (some ⟨gw, 0, none⟩) len len, x21, x22, x23, x24, x25, x26, x27, x28, x29, x30, x31, x32, x33, x34, x35, x36, x37, x38, x39, x40, x41, x42, x43, x44, x45, x46, x47, x48, x49, x50, x51, x52, x53, x54, x55, x56, x57, x58, x59, x60, x61, x62, x63, x64, x65, x66, x67, x68, x69, x70, x71, x72, x73, x74, x75, x76, x77, x78, x79], defers := ds } W := by
  refine wpAnyH_ready (rs := [1, 5]) (by kernel_rfl) (by simp) ?_
  refine AllReadyH.cons (i := 1) (o := { dst := some 13, op := Op.call { callee := Callee.value (Operand.func 24), args := #[Operand.tmp 12], argTypes := #[22] }, type := 43, pos := "order.go:34", after := #[{ on := 0, ground := Ground.data }], guard := none }) rfl ?_ (AllReadyH.cons (i := 5) (o := { dst := some 17, op := Op.makeSlice 55 (Operand.tmp 16) (Operand.tmp 16), type := 55, pos := "order.go:34", after := #[{ on := 4, ground := Ground.data }, { on := 4, ground := Ground.data }], guard := none }) rfl ?_ AllReadyH.nil)
  · intro K1 hK1
    rw [if_pos (by rfl)]
    have H := h24.out W hb.out
    go_wp2_with fail
    refine H.mono ?_
    rintro e w1 ⟨b1, rfl, H1, HB1⟩
    dsimp only
    refine hK1.out _ _ trivial ?_
    intro _
    try simp only [Act.put, List.setIfInBounds_toArray, List.set_cons_zero, List.set_cons_succ]
    exact web1_1011 (bm := b1) hn h24 h33 (hb.out.trans (HB1.out.mono hb.out.size)) H1.out.1 (hw.out.below HB1.out) (hs.out.below HB1.out) hQ
  · intro K1 hK1
    rw [if_pos (by rfl)]
    refine wp_mk55 (.tmp 16) (.tmp 16) rfl len rfl rfl hn.out ?_
    refine hK1.out _ _ trivial ?_
    intro _
    try simp only [Act.put, List.setIfInBounds_toArray, List.set_cons_zero, List.set_cons_succ]
    exact web1_0111 (ga := W.heap.size) hn h24 h33 (hb.out.alloc hb.out.size _) ⟨by simpa using Blk.new W (List.replicate len (.slice none 0 0)).toArray 56, hb.out.size⟩ (hw.out.below (below_new W (.cells (List.replicate len (.slice none 0 0)).toArray 56))) (hs.out.below (below_new W (.cells (List.replicate len (.slice none 0 0)).toArray 56))) hQ
set_option maxRecDepth 100000 in
set_option maxHeartbeats 2000000 in
theorem web1_0101 {Q : Exit → Act → World → Prop} {ds : List Deferred} {A W : World} {len cap : Nat} {ad : Option Addr} {ks : List Hs} {ga : Nat} {gs : Nat} {x1 x2 x4 x5 x6 x7 x8 x9 x10 x11 x13 x14 x20 x21 x22 x23 x24 x25 x26 x27 x28 x29 x30 x31 x32 x33 x34 x35 x36 x37 x38 x39 x40 x41 x42 x43 x44 x45 x46 x47 x48 x49 x50 x51 x52 x53 x54 x55 x56 x57 x58 x59 x60 x61 x62 x63 x64 x65 x66 x67 x68 x69 x70 x71 x72 x73 x74 x75 x76 x77 x78 x79 : Value} (hn : Hid (len ≤ 100000)) (h24 : Hid (∀ V, Below A.heap.size A V → Calls Try.prog 24 #[.slice ad len cap] V (NamesP V ks))) (h33 : Hid (∀ V b, SM V b ks → Calls Try.prog 33 #[.map (some b)] V (RiseP V ks))) (hb : Hid (Below A.heap.size A W)) (ha : Hid (NewA A W len ga)) (hs : Hid (NewS A W gs))
    (hQ : Hid (∀ (bm : Nat) (an : Option Addr) (nn cc : Nat) (rs : List Hs) (ga gw gs : Nat) (V : World), Web0 A V ks len an nn cc rs ga gw gs → Q .normal { tmps := #[.slice ad len cap, x1, x2, .pointer (some ⟨gs, 0, none⟩), x4, x5, x6, x7, x8, x9, x10, x11, .slice ad len cap, .map (some bm), .slice an nn cc, .slice ad len cap, .int .i64 (len : Int), .slice (some ⟨ga, 0, none⟩) len len, .slice ad len cap, .int .i64 (len : Int), .slice (some ⟨gw, 0, none⟩) len len, .agg #[.slice an nn cc, .slice (some ⟨ga, 0, none⟩) len len, .slice (some ⟨gw, 0, none⟩) len len], x22, x23, x24, x25, x26, x27, x28, x29, x30, x31, x32, x33, x34, x35, x36, x37, x38, x39, x40, x41, x42, x43, x44, x45, x46, x47, x48, x49, x50, x51, x52, x53, x54, x55, x56, x57, x58, x59, x60, x61, x62, x63, x64, x65, x66, x67, x68, x69, x70, x71, x72, x73, x74, x75, x76, x77, x78, x79], defers := ds } V)) :
    wpAnyH Try.prog .any webOps (QN Q) (fun _ => True) 5 #[true, false, false, true, true, true, true, true, false, false, true, false] { tmps := #[.slice ad len cap, x1, x2, .pointer (some ⟨gs, 0, none⟩), x4, x5, x6, x7, x8, x9, x10, x11, .slice ad len cap, x13, x14, .slice ad len cap, .int .i64 (len : Int), .slice (some ⟨ga, 0, none⟩) len len, .slice ad len cap, .int .i64 (len : Int), x20, x21, x22, x23, x24, x25, x26, x27, x28, x29, x30, x31, x32, x33, x34, x35, x36, x37, x38, x39, x40, x41, x42, x43, x44, x45, x46, x47, x48, x49, x50, x51, x52, x53, x54, x55, x56, x57, x58, x59, x60, x61, x62, x63, x64, x65, x66, x67, x68, x69, x70, x71, x72, x73, x74, x75, x76, x77, x78, x79], defers := ds } W := by
  refine wpAnyH_ready (rs := [1, 8]) (by kernel_rfl) (by simp) ?_
  refine AllReadyH.cons (i := 1) (o := { dst := some 13, op := Op.call { callee := Callee.value (Operand.func 24), args := #[Operand.tmp 12], argTypes := #[22] }, type := 43, pos := "order.go:34", after := #[{ on := 0, ground := Ground.data }], guard := none }) rfl ?_ (AllReadyH.cons (i := 8) (o := { dst := some 20, op := Op.makeSlice 56 (Operand.tmp 19) (Operand.tmp 19), type := 56, pos := "order.go:34", after := #[{ on := 7, ground := Ground.data }, { on := 7, ground := Ground.data }], guard := none }) rfl ?_ AllReadyH.nil)
  · intro K1 hK1
    rw [if_pos (by rfl)]
    have H := h24.out W hb.out
    go_wp2_with fail
    refine H.mono ?_
    rintro e w1 ⟨b1, rfl, H1, HB1⟩
    dsimp only
    refine hK1.out _ _ trivial ?_
    intro _
    try simp only [Act.put, List.setIfInBounds_toArray, List.set_cons_zero, List.set_cons_succ]
    exact web1_1101 (bm := b1) hn h24 h33 (hb.out.trans (HB1.out.mono hb.out.size)) H1.out.1 (ha.out.below HB1.out) (hs.out.below HB1.out) hQ
  · intro K1 hK1
    rw [if_pos (by rfl)]
    refine wp_mk56 (.tmp 19) (.tmp 19) rfl len rfl rfl hn.out ?_
    refine hK1.out _ _ trivial ?_
    intro _
    try simp only [Act.put, List.setIfInBounds_toArray, List.set_cons_zero, List.set_cons_succ]
    exact web1_0111 (gw := W.heap.size) hn h24 h33 (hb.out.alloc hb.out.size _) (ha.out.below (below_new W (.cells (List.replicate len (.int .i64 0)).toArray 3))) ⟨by simpa using Blk.new W (List.replicate len (.int .i64 0)).toArray 3, hb.out.size⟩ (hs.out.below (below_new W (.cells (List.replicate len (.int .i64 0)).toArray 3))) hQ
set_option maxRecDepth 100000 in
set_option maxHeartbeats 2000000 in
theorem web1_0110 {Q : Exit → Act → World → Prop} {ds : List Deferred} {A W : World} {len cap : Nat} {ad : Option Addr} {ks : List Hs} {ga : Nat} {gw : Nat} {x1 x2 x3 x4 x5 x6 x7 x8 x9 x10 x11 x13 x14 x21 x22 x23 x24 x25 x26 x27 x28 x29 x30 x31 x32 x33 x34 x35 x36 x37 x38 x39 x40 x41 x42 x43 x44 x45 x46 x47 x48 x49 x50 x51 x52 x53 x54 x55 x56 x57 x58 x59 x60 x61 x62 x63 x64 x65 x66 x67 x68 x69 x70 x71 x72 x73 x74 x75 x76 x77 x78 x79 : Value} (hn : Hid (len ≤ 100000)) (h24 : Hid (∀ V, Below A.heap.size A V → Calls Try.prog 24 #[.slice ad len cap] V (NamesP V ks))) (h33 : Hid (∀ V b, SM V b ks → Calls Try.prog 33 #[.map (some b)] V (RiseP V ks))) (hb : Hid (Below A.heap.size A W)) (ha : Hid (NewA A W len ga)) (hw : Hid (NewW A W len gw))
    (hQ : Hid (∀ (bm : Nat) (an : Option Addr) (nn cc : Nat) (rs : List Hs) (ga gw gs : Nat) (V : World), Web0 A V ks len an nn cc rs ga gw gs → Q .normal { tmps := #[.slice ad len cap, x1, x2, .pointer (some ⟨gs, 0, none⟩), x4, x5, x6, x7, x8, x9, x10, x11, .slice ad len cap, .map (some bm), .slice an nn cc, .slice ad len cap, .int .i64 (len : Int), .slice (some ⟨ga, 0, none⟩) len len, .slice ad len cap, .int .i64 (len : Int), .slice (some ⟨gw, 0, none⟩) len len, .agg #[.slice an nn cc, .slice (some ⟨ga, 0, none⟩) len len, .slice (some ⟨gw, 0, none⟩) len len], x22, x23, x24, x25, x26, x27, x28, x29, x30, x31, x32, x33, x34, x35, x36, x37, x38, x39, x40, x41, x42, x43, x44, x45, x46, x47, x48, x49, x50, x51, x52, x53, x54, x55, x56, x57, x58, x59, x60, x61, x62, x63, x64, x65, x66, x67, x68, x69, x70, x71, x72, x73, x74, x75, x76, x77, x78, x79], defers := ds } V)) :
    wpAnyH Try.prog .any webOps (QN Q) (fun _ => True) 5 #[true, false, false, true, true, true, true, true, true, false, false, false] { tmps := #[.slice ad len cap, x1, x2, x3, x4, x5, x6, x7, x8, x9, x10, x11, .slice ad len cap, x13, x14, .slice ad len cap, .int .i64 (len : Int), .slice (some ⟨ga, 0, none⟩) len len, .slice ad len cap, .int .i64 (len : Int), .slice (some ⟨gw, 0, none⟩) len len, x21, x22, x23, x24, x25, x26, x27, x28, x29, x30, x31, x32, x33, x34, x35, x36, x37, x38, x39, x40, x41, x42, x43, x44, x45, x46, x47, x48, x49, x50, x51, x52, x53, x54, x55, x56, x57, x58, x59, x60, x61, x62, x63, x64, x65, x66, x67, x68, x69, x70, x71, x72, x73, x74, x75, x76, x77, x78, x79], defers := ds } W := by
  refine wpAnyH_ready (rs := [1, 10]) (by kernel_rfl) (by simp) ?_
  refine AllReadyH.cons (i := 1) (o := { dst := some 13, op := Op.call { callee := Callee.value (Operand.func 24), args := #[Operand.tmp 12], argTypes := #[22] }, type := 43, pos := "order.go:34", after := #[{ on := 0, ground := Ground.data }], guard := none }) rfl ?_ (AllReadyH.cons (i := 10) (o := { dst := some 3, op := Op.alloc 58, type := 0, pos := "order.go:34", after := #[], guard := none }) rfl ?_ AllReadyH.nil)
  · intro K1 hK1
    rw [if_pos (by rfl)]
    have H := h24.out W hb.out
    go_wp2_with fail
    refine H.mono ?_
    rintro e w1 ⟨b1, rfl, H1, HB1⟩
    dsimp only
    refine hK1.out _ _ trivial ?_
    intro _
    try simp only [Act.put, List.setIfInBounds_toArray, List.set_cons_zero, List.set_cons_succ]
    exact web1_1110 (bm := b1) hn h24 h33 (hb.out.trans (HB1.out.mono hb.out.size)) H1.out.1 (ha.out.below HB1.out) (hw.out.below HB1.out) hQ
  · intro K1 hK1
    rw [if_pos (by rfl)]
    refine wp_al58 3 rfl rfl ?_
    refine hK1.out _ _ trivial ?_
    intro _
    try simp only [Act.put, List.setIfInBounds_toArray, List.set_cons_zero, List.set_cons_succ]
    exact web1_0111 (gs := W.heap.size) hn h24 h33 (hb.out.alloc hb.out.size _) (ha.out.below (below_new W (.cells #[.slice none 0 0, .slice none 0 0, .slice none 0 0] 58))) (hw.out.below (below_new W (.cells #[.slice none 0 0, .slice none 0 0, .slice none 0 0] 58))) ⟨by simpa using Blk.new W #[.slice none 0 0, .slice none 0 0, .slice none 0 0] 58, hb.out.size⟩ hQ
set_option maxRecDepth 100000 in
set_option maxHeartbeats 2000000 in
theorem web1_1001 {Q : Exit → Act → World → Prop} {ds : List Deferred} {A W : World} {len cap : Nat} {ad : Option Addr} {ks : List Hs} {bm : Nat} {gs : Nat} {x1 x2 x4 x5 x6 x7 x8 x9 x10 x11 x14 x17 x20 x21 x22 x23 x24 x25 x26 x27 x28 x29 x30 x31 x32 x33 x34 x35 x36 x37 x38 x39 x40 x41 x42 x43 x44 x45 x46 x47 x48 x49 x50 x51 x52 x53 x54 x55 x56 x57 x58 x59 x60 x61 x62 x63 x64 x65 x66 x67 x68 x69 x70 x71 x72 x73 x74 x75 x76 x77 x78 x79 : Value} (hn : Hid (len ≤ 100000)) (h24 : Hid (∀ V, Below A.heap.size A V → Calls Try.prog 24 #[.slice ad len cap] V (NamesP V ks))) (h33 : Hid (∀ V b, SM V b ks → Calls Try.prog 33 #[.map (some b)] V (RiseP V ks))) (hb : Hid (Below A.heap.size A W)) (hc : Hid (MapF W bm ks)) (hs : Hid (NewS A W gs))
    (hQ : Hid (∀ (bm : Nat) (an : Option Addr) (nn cc : Nat) (rs : List Hs) (ga gw gs : Nat) (V : World), Web0 A V ks len an nn cc rs ga gw gs → Q .normal { tmps := #[.slice ad len cap, x1, x2, .pointer (some ⟨gs, 0, none⟩), x4, x5, x6, x7, x8, x9, x10, x11, .slice ad len cap, .map (some bm), .slice an nn cc, .slice ad len cap, .int .i64 (len : Int), .slice (some ⟨ga, 0, none⟩) len len, .slice ad len cap, .int .i64 (len : Int), .slice (some ⟨gw, 0, none⟩) len len, .agg #[.slice an nn cc, .slice (some ⟨ga, 0, none⟩) len len, .slice (some ⟨gw, 0, none⟩) len len], x22, x23, x24, x25, x26, x27, x28, x29, x30, x31, x32, x33, x34, x35, x36, x37, x38, x39, x40, x41, x42, x43, x44, x45, x46, x47, x48, x49, x50, x51, x52, x53, x54, x55, x56, x57, x58, x59, x60, x61, x62, x63, x64, x65, x66, x67, x68, x69, x70, x71, x72, x73, x74, x75, x76, x77, x78, x79], defers := ds } V)) :
    wpAnyH Try.prog .any webOps (QN Q) (fun _ => True) 5 #[true, true, false, true, true, false, true, true, false, false, true, false] { tmps := #[.slice ad len cap, x1, x2, .pointer (some ⟨gs, 0, none⟩), x4, x5, x6, x7, x8, x9, x10, x11, .slice ad len cap, .map (some bm), x14, .slice ad len cap, .int .i64 (len : Int), x17, .slice ad len cap, .int .i64 (len : Int), x20, x21, x22, x23, x24, x25, x26, x27, x28, x29, x30, x31, x32, x33, x34, x35, x36, x37, x38, x39, x40, x41, x42, x43, x44, x45, x46, x47, x48, x49, x50, x51, x52, x53, x54, x55, x56, x57, x58, x59, x60, x61, x62, x63, x64, x65, x66, x67, x68, x69, x70, x71, x72, x73, x74, x75, x76, x77, x78, x79], defers := ds } W := by
  refine wpAnyH_ready (rs := [2, 5, 8]) (by kernel_rfl) (by simp) ?_
  refine AllReadyH.cons (i := 2) (o := { dst := some 14, op := Op.call { callee := Callee.value (Operand.func 33), args := #[Operand.tmp 13], argTypes := #[43] }, type := 26, pos := "order.go:34", after := #[{ on := 1, ground := Ground.data }, { on := 1, ground := Ground.chain }], guard := none }) rfl ?_ (AllReadyH.cons (i := 5) (o := { dst := some 17, op := Op.makeSlice 55 (Operand.tmp 16) (Operand.tmp 16), type := 55, pos := "order.go:34", after := #[{ on := 4, ground := Ground.data }, { on := 4, ground := Ground.data }], guard := none }) rfl ?_ (AllReadyH.cons (i := 8) (o := { dst := some 20, op := Op.makeSlice 56 (Operand.tmp 19) (Operand.tmp 19), type := 56, pos := "order.go:34", after := #[{ on := 7, ground := Ground.data }, { on := 7, ground := Ground.data }], guard := none }) rfl ?_ AllReadyH.nil))
  · intro K1 hK1
    rw [if_pos (by rfl)]
    have H := h33.out W bm hc.out
    go_wp2_with fail
    refine H.mono ?_
    rintro e w1 ⟨an, nn, cc, rs, rfl, H1, HB1⟩
    dsimp only
    refine hK1.out _ _ trivial ?_
    intro _
    try simp only [Act.put, List.setIfInBounds_toArray, List.set_cons_zero, List.set_cons_succ]
    exact web1_2001 (bm := bm) (an := an) (nn := nn) (cc := cc) (rs := rs) hn h24 h33 (hb.out.trans (HB1.out.mono hb.out.size)) H1.out (hs.out.below HB1.out) hQ
  · intro K1 hK1
    rw [if_pos (by rfl)]
    refine wp_mk55 (.tmp 16) (.tmp 16) rfl len rfl rfl hn.out ?_
    refine hK1.out _ _ trivial ?_
    intro _
    try simp only [Act.put, List.setIfInBounds_toArray, List.set_cons_zero, List.set_cons_succ]
    exact web1_1101 (ga := W.heap.size) hn h24 h33 (hb.out.alloc hb.out.size _) (hc.out.below (below_new W (.cells (List.replicate len (.slice none 0 0)).toArray 56))) ⟨by simpa using Blk.new W (List.replicate len (.slice none 0 0)).toArray 56, hb.out.size⟩ (hs.out.below (below_new W (.cells (List.replicate len (.slice none 0 0)).toArray 56))) hQ
  · intro K1 hK1
    rw [if_pos (by rfl)]
    refine wp_mk56 (.tmp 19) (.tmp 19) rfl len rfl rfl hn.out ?_
    refine hK1.out _ _ trivial ?_
    intro _
    try simp only [Act.put, List.setIfInBounds_toArray, List.set_cons_zero, List.set_cons_succ]
    exact web1_1011 (gw := W.heap.size) hn h24 h33 (hb.out.alloc hb.out.size _) (hc.out.below (below_new W (.cells (List.replicate len (.int .i64 0)).toArray 3))) ⟨by simpa using Blk.new W (List.replicate len (.int .i64 0)).toArray 3, hb.out.size⟩ (hs.out.below (below_new W (.cells (List.replicate len (.int .i64 0)).toArray 3))) hQ
set_option maxRecDepth 100000 in
set_option maxHeartbeats 2000000 in
theorem web1_1010 {Q : Exit → Act → World → Prop} {ds : List Deferred} {A W : World} {len cap : Nat} {ad : Option Addr} {ks : List Hs} {bm : Nat} {gw : Nat} {x1 x2 x3 x4 x5 x6 x7 x8 x9 x10 x11 x14 x17 x21 x22 x23 x24 x25 x26 x27 x28 x29 x30 x31 x32 x33 x34 x35 x36 x37 x38 x39 x40 x41 x42 x43 x44 x45 x46 x47 x48 x49 x50 x51 x52 x53 x54 x55 x56 x57 x58 x59 x60 x61 x62 x63 x64 x65 x66 x67 x68 x69 x70 x71 x72 x73 x74 x75 x76 x77 x78 x79 : Value} (hn : Hid (len ≤ 100000)) (h24 : Hid (∀ V, Below A.heap.size A V → Calls Try.prog 24 #[.slice ad len cap] V (NamesP V ks))) (h33 : Hid (∀ V b, SM V b ks → Calls Try.prog 33 #[.map (some b)] V (RiseP V ks))) (hb : Hid (Below A.heap.size A W)) (hc : Hid (MapF W bm ks)) (hw : Hid (NewW A W len gw))
    (hQ : Hid (∀ (bm : Nat) (an : Option Addr) (nn cc : Nat) (rs : List Hs) (ga gw gs : Nat) (V : World), Web0 A V ks len an nn cc rs ga gw gs → Q .normal { tmps := #[.slice ad len cap, x1, x2, .pointer (some ⟨gs, 0, none⟩), x4, x5, x6, x7, x8, x9, x10, x11, .slice ad len cap, .map (some bm), .slice an nn cc, .slice ad len cap, .int .i64 (len : Int), .slice (some ⟨ga, 0, none⟩) len len, .slice ad len cap, .int .i64 (len : Int), .slice (some ⟨gw, 0, none⟩) len len, .agg #[.slice an nn cc, .slice (some ⟨ga, 0, none⟩) len len, .slice (some ⟨gw, 0, none⟩) len len], x22, x23, x24, x25, x26, x27, x28, x29, x30, x31, x32, x33, x34, x35, x36, x37, x38, x39, x40, x41, x42, x43, x44, x45, x46, x47, x48, x49, x50, x51, x52, x53, x54, x55, x56, x57, x58, x59, x60, x61, x62, x63, x64, x65, x66, x67, x68, x69, x70, x71, x72, x73, x74, x75, x76, x77, x78, x79], defers := ds } V)) :
    wpAnyH Try.prog .any webOps (QN Q) (fun _ => True) 5 #[true, true, false, true, true, false, true, true, true, false, false, false] { tmps := #[.slice ad len cap, x1, x2, x3, x4, x5, x6, x7, x8, x9, x10, x11, .slice ad len cap, .map (some bm), x14, .slice ad len cap, .int .i64 (len : Int), x17, .slice ad len cap, .int .i64 (len : Int), .slice (some ⟨gw, 0, none⟩) len len, x21, x22, x23, x24, x25, x26, x27, x28, x29, x30, x31, x32, x33, x34, x35, x36, x37, x38, x39, x40, x41, x42, x43, x44, x45, x46, x47, x48, x49, x50, x51, x52, x53, x54, x55, x56, x57, x58, x59, x60, x61, x62, x63, x64, x65, x66, x67, x68, x69, x70, x71, x72, x73, x74, x75, x76, x77, x78, x79], defers := ds } W := by
  refine wpAnyH_ready (rs := [2, 5, 10]) (by kernel_rfl) (by simp) ?_
  refine AllReadyH.cons (i := 2) (o := { dst := some 14, op := Op.call { callee := Callee.value (Operand.func 33), args := #[Operand.tmp 13], argTypes := #[43] }, type := 26, pos := "order.go:34", after := #[{ on := 1, ground := Ground.data }, { on := 1, ground := Ground.chain }], guard := none }) rfl ?_ (AllReadyH.cons (i := 5) (o := { dst := some 17, op := Op.makeSlice 55 (Operand.tmp 16) (Operand.tmp 16), type := 55, pos := "order.go:34", after := #[{ on := 4, ground := Ground.data }, { on := 4, ground := Ground.data }], guard := none }) rfl ?_ (AllReadyH.cons (i := 10) (o := { dst := some 3, op := Op.alloc 58, type := 0, pos := "order.go:34", after := #[], guard := none }) rfl ?_ AllReadyH.nil))
  · intro K1 hK1
    rw [if_pos (by rfl)]
    have H := h33.out W bm hc.out
    go_wp2_with fail
    refine H.mono ?_
    rintro e w1 ⟨an, nn, cc, rs, rfl, H1, HB1⟩
    dsimp only
    refine hK1.out _ _ trivial ?_
    intro _
    try simp only [Act.put, List.setIfInBounds_toArray, List.set_cons_zero, List.set_cons_succ]
    exact web1_2010 (bm := bm) (an := an) (nn := nn) (cc := cc) (rs := rs) hn h24 h33 (hb.out.trans (HB1.out.mono hb.out.size)) H1.out (hw.out.below HB1.out) hQ
  · intro K1 hK1
    rw [if_pos (by rfl)]
    refine wp_mk55 (.tmp 16) (.tmp 16) rfl len rfl rfl hn.out ?_
    refine hK1.out _ _ trivial ?_
    intro _
    try simp only [Act.put, List.setIfInBounds_toArray, List.set_cons_zero, List.set_cons_succ]
    exact web1_1110 (ga := W.heap.size) hn h24 h33 (hb.out.alloc hb.out.size _) (hc.out.below (below_new W (.cells (List.replicate len (.slice none 0 0)).toArray 56))) ⟨by simpa using Blk.new W (List.replicate len (.slice none 0 0)).toArray 56, hb.out.size⟩ (hw.out.below (below_new W (.cells (List.replicate len (.slice none 0 0)).toArray 56))) hQ
  · intro K1 hK1
    rw [if_pos (by rfl)]
    refine wp_al58 3 rfl rfl ?_
    refine hK1.out _ _ trivial ?_
    intro _
    try simp only [Act.put, List.setIfInBounds_toArray, List.set_cons_zero, List.set_cons_succ]
    exact web1_1011 (gs := W.heap.size) hn h24 h33 (hb.out.alloc hb.out.size _) (hc.out.below (below_new W (.cells #[.slice none 0 0, .slice none 0 0, .slice none 0 0] 58))) (hw.out.below (below_new W (.cells #[.slice none 0 0, .slice none 0 0, .slice none 0 0] 58))) ⟨by simpa using Blk.new W #[.slice none 0 0, .slice none 0 0, .slice none 0 0] 58, hb.out.size⟩ hQ
set_option maxRecDepth 100000 in
set_option maxHeartbeats 2000000 in
theorem web1_1100 {Q : Exit → Act → World → Prop} {ds : List Deferred} {A W : World} {len cap : Nat} {ad : Option Addr} {ks : List Hs} {bm : Nat} {ga : Nat} {x1 x2 x3 x4 x5 x6 x7 x8 x9 x10 x11 x14 x20 x21 x22 x23 x24 x25 x26 x27 x28 x29 x30 x31 x32 x33 x34 x35 x36 x37 x38 x39 x40 x41 x42 x43 x44 x45 x46 x47 x48 x49 x50 x51 x52 x53 x54 x55 x56 x57 x58 x59 x60 x61 x62 x63 x64 x65 x66 x67 x68 x69 x70 x71 x72 x73 x74 x75 x76 x77 x78 x79 : Value} (hn : Hid (len ≤ 100000)) (h24 : Hid (∀ V, Below A.heap.size A V → Calls Try.prog 24 #[.slice ad len cap] V (NamesP V ks))) (h33 : Hid (∀ V b, SM V b ks → Calls Try.prog 33 #[.map (some b)] V (RiseP V ks))) (hb : Hid (Below A.heap.size A W)) (hc : Hid (MapF W bm ks)) (ha : Hid (NewA A W len ga))
    (hQ : Hid (∀ (bm : Nat) (an : Option Addr) (nn cc : Nat) (rs : List Hs) (ga gw gs : Nat) (V : World), Web0 A V ks len an nn cc rs ga gw gs → Q .normal { tmps := #[.slice ad len cap, x1, x2, .pointer (some ⟨gs, 0, none⟩), x4, x5, x6, x7, x8, x9, x10, x11, .slice ad len cap, .map (some bm), .slice an nn cc, .slice ad len cap, .int .i64 (len : Int), .slice (some ⟨ga, 0, none⟩) len len, .slice ad len cap, .int .i64 (len : Int), .slice (some ⟨gw, 0, none⟩) len len, .agg #[.slice an nn cc, .slice (some ⟨ga, 0, none⟩) len len, .slice (some ⟨gw, 0, none⟩) len len], x22, x23, x24, x25, x26, x27, x28, x29, x30, x31, x32, x33, x34, x35, x36, x37, x38, x39, x40, x41, x42, x43, x44, x45, x46, x47, x48, x49, x50, x51, x52, x53, x54, x55, x56, x57, x58, x59, x60, x61, x62, x63, x64, x65, x66, x67, x68, x69, x70, x71, x72, x73, x74, x75, x76, x77, x78, x79], defers := ds } V)) :
    wpAnyH Try.prog .any webOps (QN Q) (fun _ => True) 5 #[true, true, false, true, true, true, true, true, false, false, false, false] { tmps := #[.slice ad len cap, x1, x2, x3, x4, x5, x6, x7, x8, x9, x10, x11, .slice ad len cap, .map (some bm), x14, .slice ad len cap, .int .i64 (len : Int), .slice (some ⟨ga, 0, none⟩) len len, .slice ad len cap, .int .i64 (len : Int), x20, x21, x22, x23, x24, x25, x26, x27, x28, x29, x30, x31, x32, x33, x34, x35, x36, x37, x38, x39, x40, x41, x42, x43, x44, x45, x46, x47, x48, x49, x50, x51, x52, x53, x54, x55, x56, x57, x58, x59, x60, x61, x62, x63, x64, x65, x66, x67, x68, x69, x70, x71, x72, x73, x74, x75, x76, x77, x78, x79], defers := ds } W := by
  refine wpAnyH_ready (rs := [2, 8, 10]) (by kernel_rfl) (by simp) ?_
  refine AllReadyH.cons (i := 2) (o := { dst := some 14, op := Op.call { callee := Callee.value (Operand.func 33), args := #[Operand.tmp 13], argTypes := #[43] }, type := 26, pos := "order.go:34", after := #[{ on := 1, ground := Ground.data }, { on := 1, ground := Ground.chain }], guard := none }) rfl ?_ (AllReadyH.cons (i := 8) (o := { dst := some 20, op := Op.makeSlice 56 (Operand.tmp 19) (Operand.tmp 19), type := 56, pos := "order.go:34", after := #[{ on := 7, ground := Ground.data }, { on := 7, ground := Ground.data }], guard := none }) rfl ?_ (AllReadyH.cons (i := 10) (o := { dst := some 3, op := Op.alloc 58, type := 0, pos := "order.go:34", after := #[], guard := none }) rfl ?_ AllReadyH.nil))
  · intro K1 hK1
    rw [if_pos (by rfl)]
    have H := h33.out W bm hc.out
    go_wp2_with fail
    refine H.mono ?_
    rintro e w1 ⟨an, nn, cc, rs, rfl, H1, HB1⟩
    dsimp only
    refine hK1.out _ _ trivial ?_
    intro _
    try simp only [Act.put, List.setIfInBounds_toArray, List.set_cons_zero, List.set_cons_succ]
    exact web1_2100 (bm := bm) (an := an) (nn := nn) (cc := cc) (rs := rs) hn h24 h33 (hb.out.trans (HB1.out.mono hb.out.size)) H1.out (ha.out.below HB1.out) hQ
  · intro K1 hK1
    rw [if_pos (by rfl)]
    refine wp_mk56 (.tmp 19) (.tmp 19) rfl len rfl rfl hn.out ?_
    refine hK1.out _ _ trivial ?_
    intro _
    try simp only [Act.put, List.setIfInBounds_toArray, List.set_cons_zero, List.set_cons_succ]
    exact web1_1110 (gw := W.heap.size) hn h24 h33 (hb.out.alloc hb.out.size _) (hc.out.below (below_new W (.cells (List.replicate len (.int .i64 0)).toArray 3))) (ha.out.below (below_new W (.cells (List.replicate len (.int .i64 0)).toArray 3))) ⟨by simpa using Blk.new W (List.replicate len (.int .i64 0)).toArray 3, hb.out.size⟩ hQ
  · intro K1 hK1
    rw [if_pos (by rfl)]
    refine wp_al58 3 rfl rfl ?_
    refine hK1.out _ _ trivial ?_
    intro _
    try simp only [Act.put, List.setIfInBounds_toArray, List.set_cons_zero, List.set_cons_succ]
    exact web1_1101 (gs := W.heap.size) hn h24 h33 (hb.out.alloc hb.out.size _) (hc.out.below (below_new W (.cells #[.slice none 0 0, .slice none 0 0, .slice none 0 0] 58))) (ha.out.below (below_new W (.cells #[.slice none 0 0, .slice none 0 0, .slice none 0 0] 58))) ⟨by simpa using Blk.new W #[.slice none 0 0, .slice none 0 0, .slice none 0 0] 58, hb.out.size⟩ hQ
set_option maxRecDepth 100000 in
set_option maxHeartbeats 2000000 in
theorem web1_2000 {Q : Exit → Act → World → Prop} {ds : List Deferred} {A W : World} {len cap : Nat} {ad : Option Addr} {ks : List Hs} {bm : Nat} {an : Option Addr} {nn cc : Nat} {rs : List Hs} {x1 x2 x3 x4 x5 x6 x7 x8 x9 x10 x11 x17 x20 x21 x22 x23 x24 x25 x26 x27 x28 x29 x30 x31 x32 x33 x34 x35 x36 x37 x38 x39 x40 x41 x42 x43 x44 x45 x46 x47 x48 x49 x50 x51 x52 x53 x54 x55 x56 x57 x58 x59 x60 x61 x62 x63 x64 x65 x66 x67 x68 x69 x70 x71 x72 x73 x74 x75 x76 x77 x78 x79 : Value} (hn : Hid (len ≤ 100000)) (h24 : Hid (∀ V, Below A.heap.size A V → Calls Try.prog 24 #[.slice ad len cap] V (NamesP V ks))) (h33 : Hid (∀ V b, SM V b ks → Calls Try.prog 33 #[.map (some b)] V (RiseP V ks))) (hb : Hid (Below A.heap.size A W)) (hc : Hid (RowF W ks an nn cc rs))
    (hQ : Hid (∀ (bm : Nat) (an : Option Addr) (nn cc : Nat) (rs : List Hs) (ga gw gs : Nat) (V : World), Web0 A V ks len an nn cc rs ga gw gs → Q .normal { tmps := #[.slice ad len cap, x1, x2, .pointer (some ⟨gs, 0, none⟩), x4, x5, x6, x7, x8, x9, x10, x11, .slice ad len cap, .map (some bm), .slice an nn cc, .slice ad len cap, .int .i64 (len : Int), .slice (some ⟨ga, 0, none⟩) len len, .slice ad len cap, .int .i64 (len : Int), .slice (some ⟨gw, 0, none⟩) len len, .agg #[.slice an nn cc, .slice (some ⟨ga, 0, none⟩) len len, .slice (some ⟨gw, 0, none⟩) len len], x22, x23, x24, x25, x26, x27, x28, x29, x30, x31, x32, x33, x34, x35, x36, x37, x38, x39, x40, x41, x42, x43, x44, x45, x46, x47, x48, x49, x50, x51, x52, x53, x54, x55, x56, x57, x58, x59, x60, x61, x62, x63, x64, x65, x66, x67, x68, x69, x70, x71, x72, x73, x74, x75, x76, x77, x78, x79], defers := ds } V)) :
    wpAnyH Try.prog .any webOps (QN Q) (fun _ => True) 5 #[true, true, true, true, true, false, true, true, false, false, false, false] { tmps := #[.slice ad len cap, x1, x2, x3, x4, x5, x6, x7, x8, x9, x10, x11, .slice ad len cap, .map (some bm), .slice an nn cc, .slice ad len cap, .int .i64 (len : Int), x17, .slice ad len cap, .int .i64 (len : Int), x20, x21, x22, x23, x24, x25, x26, x27, x28, x29, x30, x31, x32, x33, x34, x35, x36, x37, x38, x39, x40, x41, x42, x43, x44, x45, x46, x47, x48, x49, x50, x51, x52, x53, x54, x55, x56, x57, x58, x59, x60, x61, x62, x63, x64, x65, x66, x67, x68, x69, x70, x71, x72, x73, x74, x75, x76, x77, x78, x79], defers := ds } W := by
  refine wpAnyH_ready (rs := [5, 8, 10]) (by kernel_rfl) (by simp) ?_
  refine AllReadyH.cons (i := 5) (o := { dst := some 17, op := Op.makeSlice 55 (Operand.tmp 16) (Operand.tmp 16), type := 55, pos := "order.go:34", after := #[{ on := 4, ground := Ground.data }, { on := 4, ground := Ground.data }], guard := none }) rfl ?_ (AllReadyH.cons (i := 8) (o := { dst := some 20, op := Op.makeSlice 56 (Operand.tmp 19) (Operand.tmp 19), type := 56, pos := "order.go:34", after := #[{ on := 7, ground := Ground.data }, { on := 7, ground := Ground.data }], guard := none }) rfl ?_ (AllReadyH.cons (i := 10) (o := { dst := some 3, op := Op.alloc 58, type := 0, pos := "order.go:34", after := #[], guard := none }) rfl ?_ AllReadyH.nil))
  · intro K1 hK1
    rw [if_pos (by rfl)]
    refine wp_mk55 (.tmp 16) (.tmp 16) rfl len rfl rfl hn.out ?_
    refine hK1.out _ _ trivial ?_
    intro _
    try simp only [Act.put, List.setIfInBounds_toArray, List.set_cons_zero, List.set_cons_succ]
    exact web1_2100 (ga := W.heap.size) hn h24 h33 (hb.out.alloc hb.out.size _) (hc.out.below (below_new W (.cells (List.replicate len (.slice none 0 0)).toArray 56))) ⟨by simpa using Blk.new W (List.replicate len (.slice none 0 0)).toArray 56, hb.out.size⟩ hQ
  · intro K1 hK1
    rw [if_pos (by rfl)]
    refine wp_mk56 (.tmp 19) (.tmp 19) rfl len rfl rfl hn.out ?_
    refine hK1.out _ _ trivial ?_
    intro _
    try simp only [Act.put, List.setIfInBounds_toArray, List.set_cons_zero, List.set_cons_succ]
    exact web1_2010 (gw := W.heap.size) hn h24 h33 (hb.out.alloc hb.out.size _) (hc.out.below (below_new W (.cells (List.replicate len (.int .i64 0)).toArray 3))) ⟨by simpa using Blk.new W (List.replicate len (.int .i64 0)).toArray 3, hb.out.size⟩ hQ
  · intro K1 hK1
    rw [if_pos (by rfl)]
    refine wp_al58 3 rfl rfl ?_
    refine hK1.out _ _ trivial ?_
    intro _
    try simp only [Act.put, List.setIfInBounds_toArray, List.set_cons_zero, List.set_cons_succ]
    exact web1_2001 (gs := W.heap.size) hn h24 h33 (hb.out.alloc hb.out.size _) (hc.out.below (below_new W (.cells #[.slice none 0 0, .slice none 0 0, .slice none 0 0] 58))) ⟨by simpa using Blk.new W #[.slice none 0 0, .slice none 0 0, .slice none 0 0] 58, hb.out.size⟩ hQ
set_option maxRecDepth 100000 in
set_option maxHeartbeats 2000000 in
theorem web1_0001 {Q : Exit → Act → World → Prop} {ds : List Deferred} {A W : World} {len cap : Nat} {ad : Option Addr} {ks : List Hs} {gs : Nat} {x1 x2 x4 x5 x6 x7 x8 x9 x10 x11 x13 x14 x17 x20 x21 x22 x23 x24 x25 x26 x27 x28 x29 x30 x31 x32 x33 x34 x35 x36 x37 x38 x39 x40 x41 x42 x43 x44 x45 x46 x47 x48 x49 x50 x51 x52 x53 x54 x55 x56 x57 x58 x59 x60 x61 x62 x63 x64 x65 x66 x67 x68 x69 x70 x71 x72 x73 x74 x75 x76 x77 x78 x79 : Value} (hn : Hid (len ≤ 100000)) (h24 : Hid (∀ V, Below A.heap.size A V → Calls Try.prog 24 #[.slice ad len cap] V (NamesP V ks))) (h33 : Hid (∀ V b, SM V b ks → Calls Try.prog 33 #[.map (some b)] V (RiseP V ks))) (hb : Hid (Below A.heap.size A W)) (hs : Hid (NewS A W gs))
    (hQ : Hid (∀ (bm : Nat) (an : Option Addr) (nn cc : Nat) (rs : List Hs) (ga gw gs : Nat) (V : World), Web0 A V ks len an nn cc rs ga gw gs → Q .normal { tmps := #[.slice ad len cap, x1, x2, .pointer (some ⟨gs, 0, none⟩), x4, x5, x6, x7, x8, x9, x10, x11, .slice ad len cap, .map (some bm), .slice an nn cc, .slice ad len cap, .int .i64 (len : Int), .slice (some ⟨ga, 0, none⟩) len len, .slice ad len cap, .int .i64 (len : Int), .slice (some ⟨gw, 0, none⟩) len len, .agg #[.slice an nn cc, .slice (some ⟨ga, 0, none⟩) len len, .slice (some ⟨gw, 0, none⟩) len len], x22, x23, x24, x25, x26, x27, x28, x29, x30, x31, x32, x33, x34, x35, x36, x37, x38, x39, x40, x41, x42, x43, x44, x45, x46, x47, x48, x49, x50, x51, x52, x53, x54, x55, x56, x57, x58, x59, x60, x61, x62, x63, x64, x65, x66, x67, x68, x69, x70, x71, x72, x73, x74, x75, x76, x77, x78, x79], defers := ds } V)) :
    wpAnyH Try.prog .any webOps (QN Q) (fun _ => True) 6 #[true, false, false, true, true, false, true, true, false, false, true, false] { tmps := #[.slice ad len cap, x1, x2, .pointer (some ⟨gs, 0, none⟩), x4, x5, x6, x7, x8, x9, x10, x11, .slice ad len cap, x13, x14, .slice ad len cap, .int .i64 (len : Int), x17, .slice ad len cap, .int .i64 (len : Int), x20, x21, x22, x23, x24, x25, x26, x27, x28, x29, x30, x31, x32, x33, x34, x35, x36, x37, x38, x39, x40, x41, x42, x43, x44, x45, x46, x47, x48, x49, x50, x51, x52, x53, x54, x55, x56, x57, x58, x59, x60, x61, x62, x63, x64, x65, x66, x67, x68, x69, x70, x71, x72, x73, x74, x75, x76, x77, x78, x79], defers := ds } W := by
  refine wpAnyH_ready (rs := [1, 5, 8]) (by kernel_rfl) (by simp) ?_
  refine AllReadyH.cons (i := 1) (o := { dst := some 13, op := Op.call { callee := Callee.value (Operand.func 24), args := #[Operand.tmp 12], argTypes := #[22] }, type := 43, pos := "order.go:34", after := #[{ on := 0, ground := Ground.data }], guard := none }) rfl ?_ (AllReadyH.cons (i := 5) (o := { dst := some 17, op := Op.makeSlice 55 (Operand.tmp 16) (Operand.tmp 16), type := 55, pos := "order.go:34", after := #[{ on := 4, ground := Ground.data }, { on := 4, ground := Ground.data }], guard := none }) rfl ?_ (AllReadyH.cons (i := 8) (o := { dst := some 20, op := Op.makeSlice 56 (Operand.tmp 19) (Operand.tmp 19), type := 56, pos := "order.go:34", after := #[{ on := 7, ground := Ground.data }, { on := 7, ground := Ground.data }], guard := none }) rfl ?_ AllReadyH.nil))
  · intro K1 hK1
    rw [if_pos (by rfl)]
    have H := h24.out W hb.out
    go_wp2_with fail
    refine H.mono ?_
    rintro e w1 ⟨b1, rfl, H1, HB1⟩
    dsimp only
    refine hK1.out _ _ trivial ?_
    intro _
    try simp only [Act.put, List.setIfInBounds_toArray, List.set_cons_zero, List.set_cons_succ]
    exact web1_1001 (bm := b1) hn h24 h33 (hb.out.trans (HB1.out.mono hb.out.size)) H1.out.1 (hs.out.below HB1.out) hQ
  · intro K1 hK1
    rw [if_pos (by rfl)]
    refine wp_mk55 (.tmp 16) (.tmp 16) rfl len rfl rfl hn.out ?_
    refine hK1.out _ _ trivial ?_
    intro _
    try simp only [Act.put, List.setIfInBounds_toArray, List.set_cons_zero, List.set_cons_succ]
    exact web1_0101 (ga := W.heap.size) hn h24 h33 (hb.out.alloc hb.out.size _) ⟨by simpa using Blk.new W (List.replicate len (.slice none 0 0)).toArray 56, hb.out.size⟩ (hs.out.below (below_new W (.cells (List.replicate len (.slice none 0 0)).toArray 56))) hQ
  · intro K1 hK1
    rw [if_pos (by rfl)]
    refine wp_mk56 (.tmp 19) (.tmp 19) rfl len rfl rfl hn.out ?_
    refine hK1.out _ _ trivial ?_
    intro _
    try simp only [Act.put, List.setIfInBounds_toArray, List.set_cons_zero, List.set_cons_succ]
    exact web1_0011 (gw := W.heap.size) hn h24 h33 (hb.out.alloc hb.out.size _) ⟨by simpa using Blk.new W (List.replicate len (.int .i64 0)).toArray 3, hb.out.size⟩ (hs.out.below (below_new W (.cells (List.replicate len (.int .i64 0)).toArray 3))) hQ
set_option maxRecDepth 100000 in
set_option maxHeartbeats 2000000 in
theorem web1_0010 {Q : Exit → Act → World → Prop} {ds : List Deferred} {A W : World} {len cap : Nat} {ad : Option Addr} {ks : List Hs} {gw : Nat} {x1 x2 x3 x4 x5 x6 x7 x8 x9 x10 x11 x13 x14 x17 x21 x22 x23 x24 x25 x26 x27 x28 x29 x30 x31 x32 x33 x34 x35 x36 x37 x38 x39 x40 x41 x42 x43 x44 x45 x46 x47 x48 x49 x50 x51 x52 x53 x54 x55 x56 x57 x58 x59 x60 x61 x62 x63 x64 x65 x66 x67 x68 x69 x70 x71 x72 x73 x74 x75 x76 x77 x78 x79 : Value} (hn : Hid (len ≤ 100000)) (h24 : Hid (∀ V, Below A.heap.size A V → Calls Try.prog 24 #[.slice ad len cap] V (NamesP V ks))) (h33 : Hid (∀ V b, SM V b ks → Calls Try.prog 33 #[.map (some b)] V (RiseP V ks))) (hb : Hid (Below A.heap.size A W)) (hw : Hid (NewW A W len gw))
    (hQ : Hid (∀ (bm : Nat) (an : Option Addr) (nn cc : Nat) (rs : List Hs) (ga gw gs : Nat) (V : World), Web0 A V ks len an nn cc rs ga gw gs → Q .normal { tmps := #[.slice ad len cap, x1, x2, .pointer (some ⟨gs, 0, none⟩), x4, x5, x6, x7, x8, x9, x10, x11, .slice ad len cap, .map (some bm), .slice an nn cc, .slice ad len cap, .int .i64 (len : Int), .slice (some ⟨ga, 0, none⟩) len len, .slice ad len cap, .int .i64 (len : Int), .slice (some ⟨gw, 0, none⟩) len len, .agg #[.slice an nn cc, .slice (some ⟨ga, 0, none⟩) len len, .slice (some ⟨gw, 0, none⟩) len len], x22, x23, x24, x25, x26, x27, x28, x29, x30, x31, x32, x33, x34, x35, x36, x37, x38, x39, x40, x41, x42, x43, x44, x45, x46, x47, x48, x49, x50, x51, x52, x53, x54, x55, x56, x57, x58, x59, x60, x61, x62, x63, x64, x65, x66, x67, x68, x69, x70, x71, x72, x73, x74, x75, x76, x77, x78, x79], defers := ds } V)) :
    wpAnyH Try.prog .any webOps (QN Q) (fun _ => True) 6 #[true, false, false, true, true, false, true, true, true, false, false, false] { tmps := #[.slice ad len cap, x1, x2, x3, x4, x5, x6, x7, x8, x9, x10, x11, .slice ad len cap, x13, x14, .slice ad len cap, .int .i64 (len : Int), x17, .slice ad len cap, .int .i64 (len : Int), .slice (some ⟨gw, 0, none⟩) len len, x21, x22, x23, x24, x25, x26, x27, x28, x29, x30, x31, x32, x33, x34, x35, x36, x37, x38, x39, x40, x41, x42, x43, x44, x45, x46, x47, x48, x49, x50, x51, x52, x53, x54, x55, x56, x57, x58, x59, x60, x61, x62, x63, x64, x65, x66, x67, x68, x69, x70, x71, x72, x73, x74, x75, x76, x77, x78, x79], defers := ds } W := by
  refine wpAnyH_ready (rs := [1, 5, 10]) (by kernel_rfl) (by simp) ?_
  refine AllReadyH.cons (i := 1) (o := { dst := some 13, op := Op.call { callee := Callee.value (Operand.func 24), args := #[Operand.tmp 12], argTypes := #[22] }, type := 43, pos := "order.go:34", after := #[{ on := 0, ground := Ground.data }], guard := none }) rfl ?_ (AllReadyH.cons (i := 5) (o := { dst := some 17, op := Op.makeSlice 55 (Operand.tmp 16) (Operand.tmp 16), type := 55, pos := "order.go:34", after := #[{ on := 4, ground := Ground.data }, { on := 4, ground := Ground.data }], guard := none }) rfl ?_ (AllReadyH.cons (i := 10) (o := { dst := some 3, op := Op.alloc 58, type := 0, pos := "order.go:34", after := #[], guard := none }) rfl ?_ AllReadyH.nil))
  · intro K1 hK1
    rw [if_pos (by rfl)]
    have H := h24.out W hb.out
    go_wp2_with fail
    refine H.mono ?_
    rintro e w1 ⟨b1, rfl, H1, HB1⟩
    dsimp only
    refine hK1.out _ _ trivial ?_
    intro _
    try simp only [Act.put, List.setIfInBounds_toArray, List.set_cons_zero, List.set_cons_succ]
    exact web1_1010 (bm := b1) hn h24 h33 (hb.out.trans (HB1.out.mono hb.out.size)) H1.out.1 (hw.out.below HB1.out) hQ
  · intro K1 hK1
    rw [if_pos (by rfl)]
    refine wp_mk55 (.tmp 16) (.tmp 16) rfl len rfl rfl hn.out ?_
    refine hK1.out _ _ trivial ?_
    intro _
    try simp only [Act.put, List.setIfInBounds_toArray, List.set_cons_zero, List.set_cons_succ]
    exact web1_0110 (ga := W.heap.size) hn h24 h33 (hb.out.alloc hb.out.size _) ⟨by simpa using Blk.new W (List.replicate len (.slice none 0 0)).toArray 56, hb.out.size⟩ (hw.out.below (below_new W (.cells (List.replicate len (.slice none 0 0)).toArray 56))) hQ
  · intro K1 hK1
    rw [if_pos (by rfl)]
    refine wp_al58 3 rfl rfl ?_
    refine hK1.out _ _ trivial ?_
    intro _
    try simp only [Act.put, List.setIfInBounds_toArray, List.set_cons_zero, List.set_cons_succ]
    exact web1_0011 (gs := W.heap.size) hn h24 h33 (hb.out.alloc hb.out.size _) (hw.out.below (below_new W (.cells #[.slice none 0 0, .slice none 0 0, .slice none 0 0] 58))) ⟨by simpa using Blk.new W #[.slice none 0 0, .slice none 0 0, .slice none 0 0] 58, hb.out.size⟩ hQ
set_option maxRecDepth 100000 in
set_option maxHeartbeats 2000000 in
theorem web1_0100 {Q : Exit → Act → World → Prop} {ds : List Deferred} {A W : World} {len cap : Nat} {ad : Option Addr} {ks : List Hs} {ga : Nat} {x1 x2 x3 x4 x5 x6 x7 x8 x9 x10 x11 x13 x14 x20 x21 x22 x23 x24 x25 x26 x27 x28 x29 x30 x31 x32 x33 x34 x35 x36 x37 x38 x39 x40 x41 x42 x43 x44 x45 x46 x47 x48 x49 x50 x51 x52 x53 x54 x55 x56 x57 x58 x59 x60 x61 x62 x63 x64 x65 x66 x67 x68 x69 x70 x71 x72 x73 x74 x75 x76 x77 x78 x79 : Value} (hn : Hid (len ≤ 100000)) (h24 : Hid (∀ V, Below A.heap.size A V → Calls Try.prog 24 #[.slice ad len cap] V (NamesP V ks))) (h33 : Hid (∀ V b, SM V b ks → Calls Try.prog 33 #[.map (some b)] V (RiseP V ks))) (hb : Hid (Below A.heap.size A W)) (ha : Hid (NewA A W len ga))
    (hQ : Hid (∀ (bm : Nat) (an : Option Addr) (nn cc : Nat) (rs : List Hs) (ga gw gs : Nat) (V : World), Web0 A V ks len an nn cc rs ga gw gs → Q .normal { tmps := #[.slice ad len cap, x1, x2, .pointer (some ⟨gs, 0, none⟩), x4, x5, x6, x7, x8, x9, x10, x11, .slice ad len cap, .map (some bm), .slice an nn cc, .slice ad len cap, .int .i64 (len : Int), .slice (some ⟨ga, 0, none⟩) len len, .slice ad len cap, .int .i64 (len : Int), .slice (some ⟨gw, 0, none⟩) len len, .agg #[.slice an nn cc, .slice (some ⟨ga, 0, none⟩) len len, .slice (some ⟨gw, 0, none⟩) len len], x22, x23, x24, x25, x26, x27, x28, x29, x30, x31, x32, x33, x34, x35, x36, x37, x38, x39, x40, x41, x42, x43, x44, x45, x46, x47, x48, x49, x50, x51, x52, x53, x54, x55, x56, x57, x58, x59, x60, x61, x62, x63, x64, x65, x66, x67, x68, x69, x70, x71, x72, x73, x74, x75, x76, x77, x78, x79], defers := ds } V)) :
    wpAnyH Try.prog .any webOps (QN Q) (fun _ => True) 6 #[true, false, false, true, true, true, true, true, false, false, false, false] { tmps := #[.slice ad len cap, x1, x2, x3, x4, x5, x6, x7, x8, x9, x10, x11, .slice ad len cap, x13, x14, .slice ad len cap, .int .i64 (len : Int), .slice (some ⟨ga, 0, none⟩) len len, .slice ad len cap, .int .i64 (len : Int), x20, x21, x22, x23, x24, x25, x26, x27, x28, x29, x30, x31, x32, x33, x34, x35, x36, x37, x38, x39, x40, x41, x42, x43, x44, x45, x46, x47, x48, x49, x50, x51, x52, x53, x54, x55, x56, x57, x58, x59, x60, x61, x62, x63, x64, x65, x66, x67, x68, x69, x70, x71, x72, x73, x74, x75, x76, x77, x78, x79], defers := ds } W := by
  refine wpAnyH_ready (rs := [1, 8, 10]) (by kernel_rfl) (by simp) ?_
  refine AllReadyH.cons (i := 1) (o := { dst := some 13, op := Op.call { callee := Callee.value (Operand.func 24), args := #[Operand.tmp 12], argTypes := #[22] }, type := 43, pos := "order.go:34", after := #[{ on := 0, ground := Ground.data }], guard := none }) rfl ?_ (AllReadyH.cons (i := 8) (o := { dst := some 20, op := Op.makeSlice 56 (Operand.tmp 19) (Operand.tmp 19), type := 56, pos := "order.go:34", after := #[{ on := 7, ground := Ground.data }, { on := 7, ground := Ground.data }], guard := none }) rfl ?_ (AllReadyH.cons (i := 10) (o := { dst := some 3, op := Op.alloc 58, type := 0, pos := "order.go:34", after := #[], guard := none }) rfl ?_ AllReadyH.nil))
  · intro K1 hK1
    rw [if_pos (by rfl)]
    have H := h24.out W hb.out
    go_wp2_with fail
    refine H.mono ?_
    rintro e w1 ⟨b1, rfl, H1, HB1⟩
    dsimp only
    refine hK1.out _ _ trivial ?_
    intro _
    try simp only [Act.put, List.setIfInBounds_toArray, List.set_cons_zero, List.set_cons_succ]
    exact web1_1100 (bm := b1) hn h24 h33 (hb.out.trans (HB1.out.mono hb.out.size)) H1.out.1 (ha.out.below HB1.out) hQ
  · intro K1 hK1
    rw [if_pos (by rfl)]
    refine wp_mk56 (.tmp 19) (.tmp 19) rfl len rfl rfl hn.out ?_
    refine hK1.out _ _ trivial ?_
    intro _
    try simp only [Act.put, List.setIfInBounds_toArray, List.set_cons_zero, List.set_cons_succ]
    exact web1_0110 (gw := W.heap.size) hn h24 h33 (hb.out.alloc hb.out.size _) (ha.out.below (below_new W (.cells (List.replicate len (.int .i64 0)).toArray 3))) ⟨by simpa using Blk.new W (List.replicate len (.int .i64 0)).toArray 3, hb.out.size⟩ hQ
  · intro K1 hK1
    rw [if_pos (by rfl)]
    refine wp_al58 3 rfl rfl ?_
    refine hK1.out _ _ trivial ?_
    intro _
    try simp only [Act.put, List.setIfInBounds_toArray, List.set_cons_zero, List.set_cons_succ]
    exact web1_0101 (gs := W.heap.size) hn h24 h33 (hb.out.alloc hb.out.size _) (ha.out.below (below_new W (.cells #[.slice none 0 0, .slice none 0 0, .slice none 0 0] 58))) ⟨by simpa using Blk.new W #[.slice none 0 0, .slice none 0 0, .slice none 0 0] 58, hb.out.size⟩ hQ
set_option maxRecDepth 100000 in
set_option maxHeartbeats 2000000 in
theorem web1_1000 {Q : Exit → Act → World → Prop} {ds : List Deferred} {A W : World} {len cap : Nat} {ad : Option Addr} {ks : List Hs} {bm : Nat} {x1 x2 x3 x4 x5 x6 x7 x8 x9 x10 x11 x14 x17 x20 x21 x22 x23 x24 x25 x26 x27 x28 x29 x30 x31 x32 x33 x34 x35 x36 x37 x38 x39 x40 x41 x42 x43 x44 x45 x46 x47 x48 x49 x50 x51 x52 x53 x54 x55 x56 x57 x58 x59 x60 x61 x62 x63 x64 x65 x66 x67 x68 x69 x70 x71 x72 x73 x74 x75 x76 x77 x78 x79 : Value} (hn : Hid (len ≤ 100000)) (h24 : Hid (∀ V, Below A.heap.size A V → Calls Try.prog 24 #[.slice ad len cap] V (NamesP V ks))) (h33 : Hid (∀ V b, SM V b ks → Calls Try.prog 33 #[.map (some b)] V (RiseP V ks))) (hb : Hid (Below A.heap.size A W)) (hc : Hid (MapF W bm ks))
    (hQ : Hid (∀ (bm : Nat) (an : Option Addr) (nn cc : Nat) (rs : List Hs) (ga gw gs : Nat) (V : World), Web0 A V ks len an nn cc rs ga gw gs → Q .normal { tmps := #[.slice ad len cap, x1, x2, .pointer (some ⟨gs, 0, none⟩), x4, x5, x6, x7, x8, x9, x10, x11, .slice ad len cap, .map (some bm), .slice an nn cc, .slice ad len cap, .int .i64 (len : Int), .slice (some ⟨ga, 0, none⟩) len len, .slice ad len cap, .int .i64 (len : Int), .slice (some ⟨gw, 0, none⟩) len len, .agg #[.slice an nn cc, .slice (some ⟨ga, 0, none⟩) len len, .slice (some ⟨gw, 0, none⟩) len len], x22, x23, x24, x25, x26, x27, x28, x29, x30, x31, x32, x33, x34, x35, x36, x37, x38, x39, x40, x41, x42, x43, x44, x45, x46, x47, x48, x49, x50, x51, x52, x53, x54, x55, x56, x57, x58, x59, x60, x61, x62, x63, x64, x65, x66, x67, x68, x69, x70, x71, x72, x73, x74, x75, x76, x77, x78, x79], defers := ds } V)) :
    wpAnyH Try.prog .any webOps (QN Q) (fun _ => True) 6 #[true, true, false, true, true, false, true, true, false, false, false, false] { tmps := #[.slice ad len cap, x1, x2, x3, x4, x5, x6, x7, x8, x9, x10, x11, .slice ad len cap, .map (some bm), x14, .slice ad len cap, .int .i64 (len : Int), x17, .slice ad len cap, .int .i64 (len : Int), x20, x21, x22, x23, x24, x25, x26, x27, x28, x29, x30, x31, x32, x33, x34, x35, x36, x37, x38, x39, x40, x41, x42, x43, x44, x45, x46, x47, x48, x49, x50, x51, x52, x53, x54, x55, x56, x57, x58, x59, x60, x61, x62, x63, x64, x65, x66, x67, x68, x69, x70, x71, x72, x73, x74, x75, x76, x77, x78, x79], defers := ds } W := by
  refine wpAnyH_ready (rs := [2, 5, 8, 10]) (by kernel_rfl) (by simp) ?_
  refine AllReadyH.cons (i := 2) (o := { dst := some 14, op := Op.call { callee := Callee.value (Operand.func 33), args := #[Operand.tmp 13], argTypes := #[43] }, type := 26, pos := "order.go:34", after := #[{ on := 1, ground := Ground.data }, { on := 1, ground := Ground.chain }], guard := none }) rfl ?_ (AllReadyH.cons (i := 5) (o := { dst := some 17, op := Op.makeSlice 55 (Operand.tmp 16) (Operand.tmp 16), type := 55, pos := "order.go:34", after := #[{ on := 4, ground := Ground.data }, { on := 4, ground := Ground.data }], guard := none }) rfl ?_ (AllReadyH.cons (i := 8) (o := { dst := some 20, op := Op.makeSlice 56 (Operand.tmp 19) (Operand.tmp 19), type := 56, pos := "order.go:34", after := #[{ on := 7, ground := Ground.data }, { on := 7, ground := Ground.data }], guard := none }) rfl ?_ (AllReadyH.cons (i := 10) (o := { dst := some 3, op := Op.alloc 58, type := 0, pos := "order.go:34", after := #[], guard := none }) rfl ?_ AllReadyH.nil)))
  · intro K1 hK1
    rw [if_pos (by rfl)]
    have H := h33.out W bm hc.out
    go_wp2_with fail
    refine H.mono ?_
    rintro e w1 ⟨an, nn, cc, rs, rfl, H1, HB1⟩
    dsimp only
    refine hK1.out _ _ trivial ?_
    intro _
    try simp only [Act.put, List.setIfInBounds_toArray, List.set_cons_zero, List.set_cons_succ]
    exact web1_2000 (bm := bm) (an := an) (nn := nn) (cc := cc) (rs := rs) hn h24 h33 (hb.out.trans (HB1.out.mono hb.out.size)) H1.out hQ
  · intro K1 hK1
    rw [if_pos (by rfl)]
    refine wp_mk55 (.tmp 16) (.tmp 16) rfl len rfl rfl hn.out ?_
    refine hK1.out _ _ trivial ?_
    intro _
    try simp only [Act.put, List.setIfInBounds_toArray, List.set_cons_zero, List.set_cons_succ]
    exact web1_1100 (ga := W.heap.size) hn h24 h33 (hb.out.alloc hb.out.size _) (hc.out.below (below_new W (.cells (List.replicate len (.slice none 0 0)).toArray 56))) ⟨by simpa using Blk.new W (List.replicate len (.slice none 0 0)).toArray 56, hb.out.size⟩ hQ
  · intro K1 hK1
    rw [if_pos (by rfl)]
    refine wp_mk56 (.tmp 19) (.tmp 19) rfl len rfl rfl hn.out ?_
    refine hK1.out _ _ trivial ?_
    intro _
    try simp only [Act.put, List.setIfInBounds_toArray, List.set_cons_zero, List.set_cons_succ]
    exact web1_1010 (gw := W.heap.size) hn h24 h33 (hb.out.alloc hb.out.size _) (hc.out.below (below_new W (.cells (List.replicate len (.int .i64 0)).toArray 3))) ⟨by simpa using Blk.new W (List.replicate len (.int .i64 0)).toArray 3, hb.out.size⟩ hQ
  · intro K1 hK1
    rw [if_pos (by rfl)]
    refine wp_al58 3 rfl rfl ?_
    refine hK1.out _ _ trivial ?_
    intro _
    try simp only [Act.put, List.setIfInBounds_toArray, List.set_cons_zero, List.set_cons_succ]
    exact web1_1001 (gs := W.heap.size) hn h24 h33 (hb.out.alloc hb.out.size _) (hc.out.below (below_new W (.cells #[.slice none 0 0, .slice none 0 0, .slice none 0 0] 58))) ⟨by simpa using Blk.new W #[.slice none 0 0, .slice none 0 0, .slice none 0 0] 58, hb.out.size⟩ hQ
set_option maxRecDepth 100000 in
set_option maxHeartbeats 2000000 in
theorem web1_0000 {Q : Exit → Act → World → Prop} {ds : List Deferred} {A W : World} {len cap : Nat} {ad : Option Addr} {ks : List Hs} {x1 x2 x3 x4 x5 x6 x7 x8 x9 x10 x11 x13 x14 x17 x20 x21 x22 x23 x24 x25 x26 x27 x28 x29 x30 x31 x32 x33 x34 x35 x36 x37 x38 x39 x40 x41 x42 x43 x44 x45 x46 x47 x48 x49 x50 x51 x52 x53 x54 x55 x56 x57 x58 x59 x60 x61 x62 x63 x64 x65 x66 x67 x68 x69 x70 x71 x72 x73 x74 x75 x76 x77 x78 x79 : Value} (hn : Hid (len ≤ 100000)) (h24 : Hid (∀ V, Below A.heap.size A V → Calls Try.prog 24 #[.slice ad len cap] V (NamesP V ks))) (h33 : Hid (∀ V b, SM V b ks → Calls Try.prog 33 #[.map (some b)] V (RiseP V ks))) (hb : Hid (Below A.heap.size A W))
    (hQ : Hid (∀ (bm : Nat) (an : Option Addr) (nn cc : Nat) (rs : List Hs) (ga gw gs : Nat) (V : World), Web0 A V ks len an nn cc rs ga gw gs → Q .normal { tmps := #[.slice ad len cap, x1, x2, .pointer (some ⟨gs, 0, none⟩), x4, x5, x6, x7, x8, x9, x10, x11, .slice ad len cap, .map (some bm), .slice an nn cc, .slice ad len cap, .int .i64 (len : Int), .slice (some ⟨ga, 0, none⟩) len len, .slice ad len cap, .int .i64 (len : Int), .slice (some ⟨gw, 0, none⟩) len len, .agg #[.slice an nn cc, .slice (some ⟨ga, 0, none⟩) len len, .slice (some ⟨gw, 0, none⟩) len len], x22, x23, x24, x25, x26, x27, x28, x29, x30, x31, x32, x33, x34, x35, x36, x37, x38, x39, x40, x41, x42, x43, x44, x45, x46, x47, x48, x49, x50, x51, x52, x53, x54, x55, x56, x57, x58, x59, x60, x61, x62, x63, x64, x65, x66, x67, x68, x69, x70, x71, x72, x73, x74, x75, x76, x77, x78, x79], defers := ds } V)) :
    wpAnyH Try.prog .any webOps (QN Q) (fun _ => True) 7 #[true, false, false, true, true, false, true, true, false, false, false, false] { tmps := #[.slice ad len cap, x1, x2, x3, x4, x5, x6, x7, x8, x9, x10, x11, .slice ad len cap, x13, x14, .slice ad len cap, .int .i64 (len : Int), x17, .slice ad len cap, .int .i64 (len : Int), x20, x21, x22, x23, x24, x25, x26, x27, x28, x29, x30, x31, x32, x33, x34, x35, x36, x37, x38, x39, x40, x41, x42, x43, x44, x45, x46, x47, x48, x49, x50, x51, x52, x53, x54, x55, x56, x57, x58, x59, x60, x61, x62, x63, x64, x65, x66, x67, x68, x69, x70, x71, x72, x73, x74, x75, x76, x77, x78, x79], defers := ds } W := by
  refine wpAnyH_ready (rs := [1, 5, 8, 10]) (by kernel_rfl) (by simp) ?_
  refine AllReadyH.cons (i := 1) (o := { dst := some 13, op := Op.call { callee := Callee.value (Operand.func 24), args := #[Operand.tmp 12], argTypes := #[22] }, type := 43, pos := "order.go:34", after := #[{ on := 0, ground := Ground.data }], guard := none }) rfl ?_ (AllReadyH.cons (i := 5) (o := { dst := some 17, op := Op.makeSlice 55 (Operand.tmp 16) (Operand.tmp 16), type := 55, pos := "order.go:34", after := #[{ on := 4, ground := Ground.data }, { on := 4, ground := Ground.data }], guard := none }) rfl ?_ (AllReadyH.cons (i := 8) (o := { dst := some 20, op := Op.makeSlice 56 (Operand.tmp 19) (Operand.tmp 19), type := 56, pos := "order.go:34", after := #[{ on := 7, ground := Ground.data }, { on := 7, ground := Ground.data }], guard := none }) rfl ?_ (AllReadyH.cons (i := 10) (o := { dst := some 3, op := Op.alloc 58, type := 0, pos := "order.go:34", after := #[], guard := none }) rfl ?_ AllReadyH.nil)))
  · intro K1 hK1
    rw [if_pos (by rfl)]
    have H := h24.out W hb.out
    go_wp2_with fail
    refine H.mono ?_
    rintro e w1 ⟨b1, rfl, H1, HB1⟩
    dsimp only
    refine hK1.out _ _ trivial ?_
    intro _
    try simp only [Act.put, List.setIfInBounds_toArray, List.set_cons_zero, List.set_cons_succ]
    exact web1_1000 (bm := b1) hn h24 h33 (hb.out.trans (HB1.out.mono hb.out.size)) H1.out.1 hQ
  · intro K1 hK1
    rw [if_pos (by rfl)]
    refine wp_mk55 (.tmp 16) (.tmp 16) rfl len rfl rfl hn.out ?_
    refine hK1.out _ _ trivial ?_
    intro _
    try simp only [Act.put, List.setIfInBounds_toArray, List.set_cons_zero, List.set_cons_succ]
    exact web1_0100 (ga := W.heap.size) hn h24 h33 (hb.out.alloc hb.out.size _) ⟨by simpa using Blk.new W (List.replicate len (.slice none 0 0)).toArray 56, hb.out.size⟩ hQ
  · intro K1 hK1
    rw [if_pos (by rfl)]
    refine wp_mk56 (.tmp 19) (.tmp 19) rfl len rfl rfl hn.out ?_
    refine hK1.out _ _ trivial ?_
    intro _
    try simp only [Act.put, List.setIfInBounds_toArray, List.set_cons_zero, List.set_cons_succ]
    exact web1_0010 (gw := W.heap.size) hn h24 h33 (hb.out.alloc hb.out.size _) ⟨by simpa using Blk.new W (List.replicate len (.int .i64 0)).toArray 3, hb.out.size⟩ hQ
  · intro K1 hK1
    rw [if_pos (by rfl)]
    refine wp_al58 3 rfl rfl ?_
    refine hK1.out _ _ trivial ?_
    intro _
    try simp only [Act.put, List.setIfInBounds_toArray, List.set_cons_zero, List.set_cons_succ]
    exact web1_0001 (gs := W.heap.size) hn h24 h33 (hb.out.alloc hb.out.size _) ⟨by simpa using Blk.new W #[.slice none 0 0, .slice none 0 0, .slice none 0 0] 58, hb.out.size⟩ hQ
set_option maxRecDepth 100000 in
set_option maxHeartbeats 2000000 in
theorem web_region1 {Q : Exit → Act → World → Prop} {ds : List Deferred} {A : World} {len cap : Nat} {ad : Option Addr} {ks : List Hs} {x1 x2 x3 x4 x5 x6 x7 x8 x9 x10 x11 x12 x13 x14 x15 x16 x17 x18 x19 x20 x21 x22 x23 x24 x25 x26 x27 x28 x29 x30 x31 x32 x33 x34 x35 x36 x37 x38 x39 x40 x41 x42 x43 x44 x45 x46 x47 x48 x49 x50 x51 x52 x53 x54 x55 x56 x57 x58 x59 x60 x61 x62 x63 x64 x65 x66 x67 x68 x69 x70 x71 x72 x73 x74 x75 x76 x77 x78 x79 : Value} (hn : Hid (len ≤ 100000)) (h24 : Hid (∀ V, Below A.heap.size A V → Calls Try.prog 24 #[.slice ad len cap] V (NamesP V ks))) (h33 : Hid (∀ V b, SM V b ks → Calls Try.prog 33 #[.map (some b)] V (RiseP V ks)))
    (hQ : Hid (∀ (bm : Nat) (an : Option Addr) (nn cc : Nat) (rs : List Hs) (ga gw gs : Nat) (V : World), Web0 A V ks len an nn cc rs ga gw gs → Q .normal { tmps := #[.slice ad len cap, x1, x2, .pointer (some ⟨gs, 0, none⟩), x4, x5, x6, x7, x8, x9, x10, x11, .slice ad len cap, .map (some bm), .slice an nn cc, .slice ad len cap, .int .i64 (len : Int), .slice (some ⟨ga, 0, none⟩) len len, .slice ad len cap, .int .i64 (len : Int), .slice (some ⟨gw, 0, none⟩) len len, .agg #[.slice an nn cc, .slice (some ⟨ga, 0, none⟩) len len, .slice (some ⟨gw, 0, none⟩) len len], x22, x23, x24, x25, x26, x27, x28, x29, x30, x31, x32, x33, x34, x35, x36, x37, x38, x39, x40, x41, x42, x43, x44, x45, x46, x47, x48, x49, x50, x51, x52, x53, x54, x55, x56, x57, x58, x59, x60, x61, x62, x63, x64, x65, x66, x67, x68, x69, x70, x71, x72, x73, x74, x75, x76, x77, x78, x79], defers := ds } V)) :
    (Code.region 1 #[{ dst := some 12, op := Op.move (Operand.tmp 0), type := 22, pos := "order.go:34", after := #[], guard := none }, { dst := some 13, op := Op.call { callee := Callee.value (Operand.func 24), args := #[Operand.tmp 12], argTypes := #[22] }, type := 43, pos := "order.go:34", after := #[{ on := 0, ground := Ground.data }], guard := none }, { dst := some 14, op := Op.call { callee := Callee.value (Operand.func 33), args := #[Operand.tmp 13], argTypes := #[43] }, type := 26, pos := "order.go:34", after := #[{ on := 1, ground := Ground.data }, { on := 1, ground := Ground.chain }], guard := none }, { dst := some 15, op := Op.move (Operand.tmp 0), type := 22, pos := "order.go:34", after := #[], guard := none }, { dst := some 16, op := Op.call { callee := Callee.builtin Builtin.len, args := #[Operand.tmp 15], argTypes := #[22] }, type := 3, pos := "order.go:34", after := #[{ on := 3, ground := Ground.data }], guard := none }, { dst := some 17, op := Op.makeSlice 55 (Operand.tmp 16) (Operand.tmp 16), type := 55, pos := "order.go:34", after := #[{ on := 4, ground := Ground.data }, { on := 4, ground := Ground.data }], guard := none }, { dst := some 18, op := Op.move (Operand.tmp 0), type := 22, pos := "order.go:34", after := #[], guard := none }, { dst := some 19, op := Op.call { callee := Callee.builtin Builtin.len, args := #[Operand.tmp 18], argTypes := #[22] }, type := 3, pos := "order.go:34", after := #[{ on := 6, ground := Ground.data }], guard := none }, { dst := some 20, op := Op.makeSlice 56 (Operand.tmp 19) (Operand.tmp 19), type := 56, pos := "order.go:34", after := #[{ on := 7, ground := Ground.data }, { on := 7, ground := Ground.data }], guard := none }, { dst := some 21, op := Op.build 58 #[(0, Operand.tmp 14), (1, Operand.tmp 17), (2, Operand.tmp 20)], type := 58, pos := "order.go:34", after := #[{ on := 2, ground := Ground.data }, { on := 5, ground := Ground.data }, { on := 8, ground := Ground.data }], guard := none }, { dst := some 3, op := Op.alloc 58, type := 0, pos := "order.go:34", after := #[], guard := none }, { dst := none, op := Op.store 58 (Operand.tmp 3) (Operand.tmp 21), type := 0, pos := "order.go:34", after := #[{ on := 10, ground := Ground.data }, { on := 9, ground := Ground.data }, { on := 2, ground := Ground.chain }, { on := 0, ground := Ground.phase }, { on := 1, ground := Ground.phase }, { on := 2, ground := Ground.phase }, { on := 3, ground := Ground.phase }, { on := 4, ground := Ground.phase }, { on := 5, ground := Ground.phase }, { on := 6, ground := Ground.phase }, { on := 7, ground := Ground.phase }, { on := 8, ground := Ground.phase }, { on := 9, ground := Ground.phase }, { on := 10, ground := Ground.phase }], guard := none }] true).wp Try.prog Q { tmps := #[.slice ad len cap, x1, x2, x3, x4, x5, x6, x7, x8, x9, x10, x11, x12, x13, x14, x15, x16, x17, x18, x19, x20, x21, x22, x23, x24, x25, x26, x27, x28, x29, x30, x31, x32, x33, x34, x35, x36, x37, x38, x39, x40, x41, x42, x43, x44, x45, x46, x47, x48, x49, x50, x51, x52, x53, x54, x55, x56, x57, x58, x59, x60, x61, x62, x63, x64, x65, x66, x67, x68, x69, x70, x71, x72, x73, x74, x75, x76, x77, x78, x79], defers := ds } A := by
  have hb0 : Below A.heap.size A A.drew := ⟨rfl, rfl, rfl, Nat.le_refl _, fun _ _ => rfl⟩
  refine Code.wp_mono (Q := QN Q) (by intro x a' w' h; cases x <;> first | exact h | exact (show False from h).elim) ?_
  refine wp_region_held (S := fun _ => True) (by kernel_rfl) ?_
  change wpAnyH Try.prog .any _ _ (fun _ => True) 12 (Array.replicate 12 false) _ A.drew
  refine wpAnyH_take (i := 0) (oi := { dst := some 12, op := Op.move (Operand.tmp 0), type := 22, pos := "order.go:34", after := #[], guard := none }) (v := .slice ad len cap) rfl (by kernel_rfl) (by kernel_rfl) (by kernel_rfl) (fun _ _ _ h => (show False from h).elim) (Or.inl ⟨by rfl, ?y0⟩) trivial ?_
  case y0 =>
    intro V hV
    go_simp
  simp only [Act.put, List.setIfInBounds_toArray, List.set_cons_zero, List.set_cons_succ]
  refine wpAnyH_take (i := 3) (oi := { dst := some 15, op := Op.move (Operand.tmp 0), type := 22, pos := "order.go:34", after := #[], guard := none }) (v := .slice ad len cap) rfl (by kernel_rfl) (by kernel_rfl) (by kernel_rfl) (fun _ _ _ h => (show False from h).elim) (Or.inl ⟨by rfl, ?y3⟩) trivial ?_
  case y3 =>
    intro V hV
    go_simp
  simp only [Act.put, List.setIfInBounds_toArray, List.set_cons_zero, List.set_cons_succ]
  refine wpAnyH_take (i := 4) (oi := { dst := some 16, op := Op.call { callee := Callee.builtin Builtin.len, args := #[Operand.tmp 15], argTypes := #[22] }, type := 3, pos := "order.go:34", after := #[{ on := 3, ground := Ground.data }], guard := none }) (v := .int .i64 (len : Int)) rfl (by kernel_rfl) (by kernel_rfl) (by kernel_rfl) (fun _ _ _ h => (show False from h).elim) (Or.inl ⟨by rfl, ?y4⟩) trivial ?_
  case y4 =>
    intro V hV
    go_simp
  simp only [Act.put, List.setIfInBounds_toArray, List.set_cons_zero, List.set_cons_succ]
  refine wpAnyH_take (i := 6) (oi := { dst := some 18, op := Op.move (Operand.tmp 0), type := 22, pos := "order.go:34", after := #[], guard := none }) (v := .slice ad len cap) rfl (by kernel_rfl) (by kernel_rfl) (by kernel_rfl) (fun _ _ _ h => (show False from h).elim) (Or.inl ⟨by rfl, ?y6⟩) trivial ?_
  case y6 =>
    intro V hV
    go_simp
  simp only [Act.put, List.setIfInBounds_toArray, List.set_cons_zero, List.set_cons_succ]
  refine wpAnyH_take (i := 7) (oi := { dst := some 19, op := Op.call { callee := Callee.builtin Builtin.len, args := #[Operand.tmp 18], argTypes := #[22] }, type := 3, pos := "order.go:34", after := #[{ on := 6, ground := Ground.data }], guard := none }) (v := .int .i64 (len : Int)) rfl (by kernel_rfl) (by kernel_rfl) (by kernel_rfl) (fun _ _ _ h => (show False from h).elim) (Or.inl ⟨by rfl, ?y7⟩) trivial ?_
  case y7 =>
    intro V hV
    go_simp
  simp only [Act.put, List.setIfInBounds_toArray, List.set_cons_zero, List.set_cons_succ]
  exact web1_0000 hn h24 h33 hb0 (fun bm an nn cc rs ga gw gs V hV => hQ.out bm an nn cc rs ga gw gs V hV)
end Go.Proofs.Ytijkpkcopjkhkaa.Oct

/- Layer 12 (deps): webOf: a number put behind the row of one that is needed, whatever the order. -/
namespace Go.Proofs.Ytijkpkcopjkhkaa.Oct
open Go.RowKit
set_option linter.unusedSimpArgs false
set_option linter.unusedVariables false

section
variable {o : Oper} {a : Act} {w : World} {K : Act → World → Prop} {Q : Exit → Act → World → Prop}
theorem run_bs56 (m : Nat) (W : World) : (Instr.buildSlice 56 1 #[(0, .int .i64 (m : Int))]).run Try.prog W = .ok (.slice (some ⟨W.heap.size, 0, none⟩) 1 1) (W.alloc (.cells #[.int .i64 (m : Int)] 3)) := by
  obtain ⟨i, hi, hs1, hby, z, hz, hzs⟩ := info3
  have hz' : (Try.prog.info? 3).map (·.zero) = some (some (.int .i64 0)) := by kernel_rfl
  rw [hi] at hz'
  simp at hz'
  simp [Instr.buildSlice, run_underlying Try.underlying56, sizeOf, typeInfo, hi, hs1, zeroValue, hz', Instr.fill, Value.cells]
  have e : ∀ X : Array Value, X.size = 1 → X.setIfInBounds 0 (.int .i64 (m : Int)) = #[.int .i64 (m : Int)] := by
    intro X hX
    apply Array.ext
    · simp [hX]
    · intro j h1 h2
      obtain rfl : j = 0 := by simp at h2; omega
      simp
  simp [newRow, e]
theorem wp_bs56 (x : Operand) (hop : o.op = Op.buildSlice 56 1 #[(0, x)]) (m : Nat) (hx : a.eval x = .int .i64 (m : Int))
    (hK : K (a.put o.dst (.slice (some ⟨w.heap.size, 0, none⟩) 1 1)) (w.alloc (.cells #[.int .i64 (m : Int)] 3))) : Oper.wp Try.prog o a w K Q := by
  unfold Oper.wp execOp
  simp [hop, hx, run_bs56 m, Result.andThen]
  exact hK
theorem wp_appI (s x : Operand) (hop : o.op = Op.call { callee := Callee.builtin Builtin.append, args := #[s, x], argTypes := #[56, 56] }) (B : Nat) (v : Value) (xs : List Nat) (g y : Nat) (hv : a.eval s = v) (hx : a.eval x = .slice (some ⟨g, 0, none⟩) 1 1)
    (hown : w.ownsRow B 3 1 v xs.length (IV xs)) (hc : w.cell? ⟨g, 0, none⟩ = some (.int .i64 (y : Int))) (hn : xs.length ≤ 1000000) (hB : B ≤ w.heap.size)
    (hK : ∀ v' w', w'.ownsRow B 3 1 v' (xs.length + 1) (IV (xs ++ [y])) → w.grownBy w' v.ownBlock → (v'.ownBlock = v.ownBlock ∨ v'.ownBlock = some w.heap.size) → K (a.put o.dst v') w') : Oper.wp Try.prog o a w K Q := by
  obtain ⟨v', w', hrun, r1, r2, r3⟩ := run_appI w B o.type v xs g y hown hc hn hB
  unfold Oper.wp execOp
  simp only [hop, resolve, invoke, builtin, Sem.run_bind, Sem.run_pure, Result.andThen_ok, List.map_toArray, List.map_cons, List.map_nil, hv, hx, hrun]
  exact hK v' w' r1 r2 r3
theorem own_slice {B e sz n : Nat} {v : Value} {xs : List Value} (h : w.ownsRow B e sz v n xs) : ∃ p c, v = .slice p n c := by
  rcases h.2 with ⟨rfl, rfl⟩ | ⟨g, cap, cur, rfl, _⟩
  · exact ⟨_, _, rfl⟩
  · exact ⟨_, _, rfl⟩
end

set_option maxRecDepth 100000 in
set_option maxHeartbeats 2000000 in
theorem web_region16 {Q : Exit → Act → World → Prop} {x0 x1 x2 x5 x6 x7 x8 x10 x12 x13 x14 x15 x16 x17 x18 x19 x20 x21 x22 x23 x24 x25 x26 x27 x28 x29 x30 x31 x32 x33 x34 x35 x36 x37 x38 x39 x40 x41 x42 x43 x44 x45 x46 x47 x48 x49 x50 x51 x52 x53 x54 x55 x56 x57 x58 x59 x60 x61 x62 x63 x64 x65 x66 x67 x68 x69 x70 x71 x72 x73 x74 x75 x76 x77 x78 x79 : Value} {ds : List Deferred} {A : World} {gs ga n bm k m hb B : Nat} {d : Hs} {v : Value} {xs : List Nat} {L : List Value}
    (hl : d.length = 32) (hk : (k : Int) < (n : Int)) (hkL : L[k]? = some v) (hbl : Hid (Blk A ga 56 L)) (hown : Hid (A.ownsRow B 3 1 v xs.length (IV xs))) (hx : Hid (xs.length ≤ 1000000)) (hB : Hid (B ≤ A.heap.size)) (hS13 : Hid ((A.drew.alloc (.cells #[.int .i64 (m : Int)] 3)).cell? ⟨gs, 1, none⟩ = some (.slice (some ⟨ga, 0, none⟩) n n) ∧ (A.drew.alloc (.cells #[.int .i64 (m : Int)] 3)).rangeAt hb 0 (U d) ∧ (Instr.lookup 68 (.map (some bm)) (.agg (U d).toArray) false).run Try.prog (A.drew.alloc (.cells #[.int .i64 (m : Int)] 3)) = .ok (.int .i64 (k : Int)) (A.drew.alloc (.cells #[.int .i64 (m : Int)] 3)))) (hS14 : Hid (∀ w1, (A.drew.alloc (.cells #[.int .i64 (m : Int)] 3)).grownBy w1 v.ownBlock → (w1.cell? ⟨gs, 1, none⟩ = some (.slice (some ⟨ga, 0, none⟩) n n) ∧ w1.rangeAt hb 0 (U d) ∧ (Instr.lookup 68 (.map (some bm)) (.agg (U d).toArray) false).run Try.prog w1 = .ok (.int .i64 (k : Int)) w1) ∧ Blk w1 ga 56 L ∧ ∀ u, ((w1.setCell ⟨ga, k, none⟩ u).cell? ⟨gs, 1, none⟩ = some (.slice (some ⟨ga, 0, none⟩) n n) ∧ (w1.setCell ⟨ga, k, none⟩ u).rangeAt hb 0 (U d) ∧ (Instr.lookup 68 (.map (some bm)) (.agg (U d).toArray) false).run Try.prog (w1.setCell ⟨ga, k, none⟩ u) = .ok (.int .i64 (k : Int)) (w1.setCell ⟨ga, k, none⟩ u)))) (hcap : n ≤ 100000) (hS : A.drew.cell? ⟨gs, 1, none⟩ = some (.slice (some ⟨ga, 0, none⟩) n n) ∧ A.drew.rangeAt hb 0 (U d) ∧ (Instr.lookup 68 (.map (some bm)) (.agg (U d).toArray) false).run Try.prog A.drew = .ok (.int .i64 (k : Int)) A.drew)
    (hQ : Hid (∀ p1 c1 w1, w1.ownsRow B 3 1 (.slice p1 (xs.length + 1) c1) (xs.length + 1) (IV (xs ++ [m])) → (A.drew.alloc (.cells #[.int .i64 (m : Int)] 3)).grownBy w1 v.ownBlock → ((Value.slice p1 (xs.length + 1) c1).ownBlock = v.ownBlock ∨ (Value.slice p1 (xs.length + 1) c1).ownBlock = some (A.heap.size + 1)) → Q .normal { tmps := #[x0, x1, x2, .pointer (some ⟨gs, 0, none⟩), .map (some bm), x5, x6, x7, x8, .int .i64 (m : Int), x10, .pointer (some ⟨hb, 0, none⟩), x12, x13, x14, x15, x16, x17, x18, x19, x20, x21, x22, x23, x24, x25, x26, x27, x28, x29, x30, x31, x32, x33, x34, x35, x36, x37, x38, x39, x40, x41, x42, x43, x44, x45, x46, x47, x48, x49, x50, x51, x52, x53, x54, x55, x56, x57, x58, x59, x60, .pointer (some ⟨gs, 1, none⟩), .slice (some ⟨ga, 0, none⟩) n n, .map (some bm), .agg (U d).toArray, .int .i64 (k : Int), .pointer (some ⟨gs, 1, none⟩), .slice (some ⟨ga, 0, none⟩) n n, .map (some bm), .agg (U d).toArray, .int .i64 (k : Int), .pointer (some ⟨ga, k, none⟩), v, .int .i64 (m : Int), .slice (some ⟨A.heap.size, 0, none⟩) 1 1, .slice p1 (xs.length + 1) c1, .pointer (some ⟨ga, k, none⟩), x77, x78, x79], defers := ds } (w1.setCell ⟨ga, k, none⟩ (.slice p1 (xs.length + 1) c1)))) :
    (Code.region 16 #[{ dst := some 61, op := Op.fieldAddr 58 (Operand.tmp 3) 1, type := 0, pos := "order.go:43", after := #[], guard := none }, { dst := some 62, op := Op.load 55 (Operand.tmp 61), type := 55, pos := "order.go:43", after := #[{ on := 0, ground := Ground.data }], guard := none }, { dst := some 63, op := Op.move (Operand.tmp 4), type := 68, pos := "order.go:43", after := #[], guard := none }, { dst := some 64, op := Op.load 34 (Operand.tmp 11), type := 34, pos := "order.go:43", after := #[], guard := none }, { dst := some 65, op := Op.lookup 68 (Operand.tmp 63) (Operand.tmp 64) false, type := 3, pos := "order.go:43", after := #[{ on := 2, ground := Ground.data }, { on := 3, ground := Ground.data }], guard := none }, { dst := some 66, op := Op.fieldAddr 58 (Operand.tmp 3) 1, type := 0, pos := "order.go:43", after := #[], guard := none }, { dst := some 67, op := Op.load 55 (Operand.tmp 66), type := 55, pos := "order.go:43", after := #[{ on := 5, ground := Ground.data }], guard := none }, { dst := some 68, op := Op.move (Operand.tmp 4), type := 68, pos := "order.go:43", after := #[], guard := none }, { dst := some 69, op := Op.load 34 (Operand.tmp 11), type := 34, pos := "order.go:43", after := #[], guard := none }, { dst := some 70, op := Op.lookup 68 (Operand.tmp 68) (Operand.tmp 69) false, type := 3, pos := "order.go:43", after := #[{ on := 7, ground := Ground.data }, { on := 8, ground := Ground.data }], guard := none }, { dst := some 71, op := Op.indexAddr 55 (Operand.tmp 67) (Operand.tmp 70), type := 0, pos := "order.go:43", after := #[{ on := 6, ground := Ground.data }, { on := 9, ground := Ground.data }], guard := none }, { dst := some 72, op := Op.load 56 (Operand.tmp 71), type := 56, pos := "order.go:43", after := #[{ on := 10, ground := Ground.data }], guard := none }, { dst := some 73, op := Op.move (Operand.tmp 9), type := 3, pos := "order.go:43", after := #[], guard := none }, { dst := some 74, op := Op.buildSlice 56 1 #[(0, Operand.tmp 73)], type := 56, pos := "order.go:43", after := #[{ on := 12, ground := Ground.data }], guard := none }, { dst := some 75, op := Op.call { callee := Callee.builtin Builtin.append, args := #[Operand.tmp 72, Operand.tmp 74], argTypes := #[56, 56] }, type := 56, pos := "order.go:43", after := #[{ on := 11, ground := Ground.data }, { on := 13, ground := Ground.data }], guard := none }, { dst := some 76, op := Op.indexAddr 55 (Operand.tmp 62) (Operand.tmp 65), type := 0, pos := "order.go:43", after := #[{ on := 1, ground := Ground.data }, { on := 4, ground := Ground.data }, { on := 0, ground := Ground.phase }, { on := 1, ground := Ground.phase }, { on := 2, ground := Ground.phase }, { on := 3, ground := Ground.phase }, { on := 4, ground := Ground.phase }, { on := 5, ground := Ground.phase }, { on := 6, ground := Ground.phase }, { on := 7, ground := Ground.phase }, { on := 8, ground := Ground.phase }, { on := 9, ground := Ground.phase }, { on := 10, ground := Ground.phase }, { on := 11, ground := Ground.phase }, { on := 12, ground := Ground.phase }, { on := 13, ground := Ground.phase }, { on := 14, ground := Ground.phase }], guard := none }, { dst := none, op := Op.store 56 (Operand.tmp 76) (Operand.tmp 75), type := 0, pos := "order.go:43", after := #[{ on := 15, ground := Ground.data }, { on := 14, ground := Ground.data }, { on := 14, ground := Ground.chain }, { on := 0, ground := Ground.phase }, { on := 1, ground := Ground.phase }, { on := 2, ground := Ground.phase }, { on := 3, ground := Ground.phase }, { on := 4, ground := Ground.phase }, { on := 5, ground := Ground.phase }, { on := 6, ground := Ground.phase }, { on := 7, ground := Ground.phase }, { on := 8, ground := Ground.phase }, { on := 9, ground := Ground.phase }, { on := 10, ground := Ground.phase }, { on := 11, ground := Ground.phase }, { on := 12, ground := Ground.phase }, { on := 13, ground := Ground.phase }, { on := 14, ground := Ground.phase }], guard := none }] true).wp Try.prog Q { tmps := #[x0, x1, x2, .pointer (some ⟨gs, 0, none⟩), .map (some bm), x5, x6, x7, x8, .int .i64 (m : Int), x10, .pointer (some ⟨hb, 0, none⟩), x12, x13, x14, x15, x16, x17, x18, x19, x20, x21, x22, x23, x24, x25, x26, x27, x28, x29, x30, x31, x32, x33, x34, x35, x36, x37, x38, x39, x40, x41, x42, x43, x44, x45, x46, x47, x48, x49, x50, x51, x52, x53, x54, x55, x56, x57, x58, x59, x60, x61, x62, x63, x64, x65, x66, x67, x68, x69, x70, x71, x72, x73, x74, x75, x76, x77, x78, x79], defers := ds } A := by
  refine Code.wp_mono (Q := fun x a' w' => match x with | .normal => Q .normal a' w' | _ => False) (by intro x a' w' h; cases x <;> first | exact h | exact h.elim) ?_
  obtain ⟨S, hSd⟩ : ∃ S : World → Prop, S = fun W => W.cell? ⟨gs, 1, none⟩ = some (.slice (some ⟨ga, 0, none⟩) n n) ∧ W.rangeAt hb 0 (U d) ∧ (Instr.lookup 68 (.map (some bm)) (.agg (U d).toArray) false).run Try.prog W = .ok (.int .i64 (k : Int)) W := ⟨_, rfl⟩
  refine wp_region_held (S := S) (by kernel_rfl) ?_
  have hS' : S A.drew := by rw [hSd]; exact hS
  have hS0 : Hid (A.drew.cell? ⟨gs, 1, none⟩ = some (.slice (some ⟨ga, 0, none⟩) n n) ∧ A.drew.rangeAt hb 0 (U d) ∧ (Instr.lookup 68 (.map (some bm)) (.agg (U d).toArray) false).run Try.prog A.drew = .ok (.int .i64 (k : Int)) A.drew) := hS
  clear hS
  change wpAnyH Try.prog .any _ _ S 17 (Array.replicate 17 false) _ A.drew
  refine wpAnyH_take (i := 0) (oi := { dst := some 61, op := Op.fieldAddr 58 (Operand.tmp 3) 1, type := 0, pos := "order.go:43", after := #[], guard := none }) (v := .pointer (some ⟨gs, 1, none⟩)) rfl (by kernel_rfl) (by kernel_rfl) (by kernel_rfl) (fun _ _ _ h => h.elim) (Or.inl ⟨by rfl, ?y0⟩) hS' ?_
  case y0 =>
    intro W hW
    rw [hSd] at hW; obtain ⟨s1, s2, s3⟩ := hW
    go_simp
  simp only [Act.put, List.setIfInBounds_toArray, List.set_cons_zero, List.set_cons_succ]
  refine wpAnyH_take (i := 1) (oi := { dst := some 62, op := Op.load 55 (Operand.tmp 61), type := 55, pos := "order.go:43", after := #[{ on := 0, ground := Ground.data }], guard := none }) (v := .slice (some ⟨ga, 0, none⟩) n n) rfl (by kernel_rfl) (by kernel_rfl) (by kernel_rfl) (fun _ _ _ h => h.elim) (Or.inl ⟨by rfl, ?y1⟩) hS' ?_
  case y1 =>
    intro W hW
    rw [hSd] at hW; obtain ⟨s1, s2, s3⟩ := hW
    go_simp
  simp only [Act.put, List.setIfInBounds_toArray, List.set_cons_zero, List.set_cons_succ]
  refine wpAnyH_take (i := 2) (oi := { dst := some 63, op := Op.move (Operand.tmp 4), type := 68, pos := "order.go:43", after := #[], guard := none }) (v := .map (some bm)) rfl (by kernel_rfl) (by kernel_rfl) (by kernel_rfl) (fun _ _ _ h => h.elim) (Or.inl ⟨by rfl, ?y2⟩) hS' ?_
  case y2 =>
    intro W hW
    rw [hSd] at hW; obtain ⟨s1, s2, s3⟩ := hW
    go_simp
  simp only [Act.put, List.setIfInBounds_toArray, List.set_cons_zero, List.set_cons_succ]
  refine wpAnyH_take (i := 3) (oi := { dst := some 64, op := Op.load 34 (Operand.tmp 11), type := 34, pos := "order.go:43", after := #[], guard := none }) (v := .agg (U d).toArray) rfl (by kernel_rfl) (by kernel_rfl) (by kernel_rfl) (fun _ _ _ h => h.elim) (yieldsIf_load_mid (by rfl) _ _ rfl _ _ rfl (U d) _ (fun W hW => by rw [hSd] at hW; obtain ⟨s1, s2, s3⟩ := hW; exact s2) Try.underlying34 rfl (info34 d hl)) hS' ?_
  simp only [Act.put, List.setIfInBounds_toArray, List.set_cons_zero, List.set_cons_succ]
  refine wpAnyH_take (i := 4) (oi := { dst := some 65, op := Op.lookup 68 (Operand.tmp 63) (Operand.tmp 64) false, type := 3, pos := "order.go:43", after := #[{ on := 2, ground := Ground.data }, { on := 3, ground := Ground.data }], guard := none }) (v := .int .i64 (k : Int)) rfl (by kernel_rfl) (by kernel_rfl) (by kernel_rfl) (fun _ _ _ h => h.elim) (Or.inl ⟨by rfl, ?y4⟩) hS' ?_
  case y4 =>
    intro W hW
    rw [hSd] at hW; obtain ⟨s1, s2, s3⟩ := hW
    go_simp
  simp only [Act.put, List.setIfInBounds_toArray, List.set_cons_zero, List.set_cons_succ]
  refine wpAnyH_take (i := 5) (oi := { dst := some 66, op := Op.fieldAddr 58 (Operand.tmp 3) 1, type := 0, pos := "order.go:43", after := #[], guard := none }) (v := .pointer (some ⟨gs, 1, none⟩)) rfl (by kernel_rfl) (by kernel_rfl) (by kernel_rfl) (fun _ _ _ h => h.elim) (Or.inl ⟨by rfl, ?y5⟩) hS' ?_
  case y5 =>
    intro W hW
    rw [hSd] at hW; obtain ⟨s1, s2, s3⟩ := hW
    go_simp
  simp only [Act.put, List.setIfInBounds_toArray, List.set_cons_zero, List.set_cons_succ]
  refine wpAnyH_take (i := 6) (oi := { dst := some 67, op := Op.load 55 (Operand.tmp 66), type := 55, pos := "order.go:43", after := #[{ on := 5, ground := Ground.data }], guard := none }) (v := .slice (some ⟨ga, 0, none⟩) n n) rfl (by kernel_rfl) (by kernel_rfl) (by kernel_rfl) (fun _ _ _ h => h.elim) (Or.inl ⟨by rfl, ?y6⟩) hS' ?_
  case y6 =>
    intro W hW
    rw [hSd] at hW; obtain ⟨s1, s2, s3⟩ := hW
    go_simp
  simp only [Act.put, List.setIfInBounds_toArray, List.set_cons_zero, List.set_cons_succ]
  refine wpAnyH_take (i := 7) (oi := { dst := some 68, op := Op.move (Operand.tmp 4), type := 68, pos := "order.go:43", after := #[], guard := none }) (v := .map (some bm)) rfl (by kernel_rfl) (by kernel_rfl) (by kernel_rfl) (fun _ _ _ h => h.elim) (Or.inl ⟨by rfl, ?y7⟩) hS' ?_
  case y7 =>
    intro W hW
    rw [hSd] at hW; obtain ⟨s1, s2, s3⟩ := hW
    go_simp
  simp only [Act.put, List.setIfInBounds_toArray, List.set_cons_zero, List.set_cons_succ]
  refine wpAnyH_take (i := 8) (oi := { dst := some 69, op := Op.load 34 (Operand.tmp 11), type := 34, pos := "order.go:43", after := #[], guard := none }) (v := .agg (U d).toArray) rfl (by kernel_rfl) (by kernel_rfl) (by kernel_rfl) (fun _ _ _ h => h.elim) (yieldsIf_load_mid (by rfl) _ _ rfl _ _ rfl (U d) _ (fun W hW => by rw [hSd] at hW; obtain ⟨s1, s2, s3⟩ := hW; exact s2) Try.underlying34 rfl (info34 d hl)) hS' ?_
  simp only [Act.put, List.setIfInBounds_toArray, List.set_cons_zero, List.set_cons_succ]
  refine wpAnyH_take (i := 9) (oi := { dst := some 70, op := Op.lookup 68 (Operand.tmp 68) (Operand.tmp 69) false, type := 3, pos := "order.go:43", after := #[{ on := 7, ground := Ground.data }, { on := 8, ground := Ground.data }], guard := none }) (v := .int .i64 (k : Int)) rfl (by kernel_rfl) (by kernel_rfl) (by kernel_rfl) (fun _ _ _ h => h.elim) (Or.inl ⟨by rfl, ?y9⟩) hS' ?_
  case y9 =>
    intro W hW
    rw [hSd] at hW; obtain ⟨s1, s2, s3⟩ := hW
    go_simp
  simp only [Act.put, List.setIfInBounds_toArray, List.set_cons_zero, List.set_cons_succ]
  refine wpAnyH_take (i := 10) (oi := { dst := some 71, op := Op.indexAddr 55 (Operand.tmp 67) (Operand.tmp 70), type := 0, pos := "order.go:43", after := #[{ on := 6, ground := Ground.data }, { on := 9, ground := Ground.data }], guard := none }) (v := .pointer (some ⟨ga, k, none⟩)) rfl (by kernel_rfl) (by kernel_rfl) (by kernel_rfl) (fun _ _ _ h => h.elim) (Or.inl ⟨by rfl, ?y10⟩) hS' ?_
  case y10 =>
    intro W hW
    rw [hSd] at hW; obtain ⟨s1, s2, s3⟩ := hW
    go_simp
  simp only [Act.put, List.setIfInBounds_toArray, List.set_cons_zero, List.set_cons_succ]
  refine wpAnyH_take (i := 12) (oi := { dst := some 73, op := Op.move (Operand.tmp 9), type := 3, pos := "order.go:43", after := #[], guard := none }) (v := .int .i64 (m : Int)) rfl (by kernel_rfl) (by kernel_rfl) (by kernel_rfl) (fun _ _ _ h => h.elim) (Or.inl ⟨by rfl, ?y12⟩) hS' ?_
  case y12 =>
    intro W hW
    rw [hSd] at hW; obtain ⟨s1, s2, s3⟩ := hW
    go_simp
  simp only [Act.put, List.setIfInBounds_toArray, List.set_cons_zero, List.set_cons_succ]
  refine wpAnyH_ready (rs := [11, 13]) (by kernel_rfl) (by simp) (AllReadyH.cons (i := 11) (o := { dst := some 72, op := Op.load 56 (Operand.tmp 71), type := 56, pos := "order.go:43", after := #[{ on := 10, ground := Ground.data }], guard := none }) rfl ?_ (AllReadyH.cons (i := 13) (o := { dst := some 74, op := Op.buildSlice 56 1 #[(0, Operand.tmp 73)], type := 56, pos := "order.go:43", after := #[{ on := 12, ground := Ground.data }], guard := none }) rfl ?_ AllReadyH.nil))
  · intro K1 hK1
    rw [if_pos (by rfl)]
    have hc0 : A.drew.cell? ⟨ga, k, none⟩ = some v := Blk.cell (w := A.drew) hbl.out hkL
    go_wp2_with fail
    refine hK1.out _ _ (by rw [hSd]; exact hS0) ?_
    clear hS' hK1
    intro hS'
    try simp only [Act.put, List.setIfInBounds_toArray, List.set_cons_zero, List.set_cons_succ]
    refine wpAnyH_ready (rs := [13]) (by kernel_rfl) (by simp) (AllReadyH.cons (i := 13) (o := { dst := some 74, op := Op.buildSlice 56 1 #[(0, Operand.tmp 73)], type := 56, pos := "order.go:43", after := #[{ on := 12, ground := Ground.data }], guard := none }) rfl ?_ AllReadyH.nil)
    intro K1 hK1
    rw [if_pos (by rfl)]
    refine wp_bs56 (.tmp 73) rfl m rfl ?_
    refine hK1.out _ _ (by rw [hSd]; exact hS13.out) ?_
    clear hS' hK1
    intro hS'
    try simp only [Act.put, List.setIfInBounds_toArray, List.set_cons_zero, List.set_cons_succ]
    refine wpAnyH_ready (rs := [14]) (by kernel_rfl) (by simp) (AllReadyH.cons (i := 14) (o := { dst := some 75, op := Op.call { callee := Callee.builtin Builtin.append, args := #[Operand.tmp 72, Operand.tmp 74], argTypes := #[56, 56] }, type := 56, pos := "order.go:43", after := #[{ on := 11, ground := Ground.data }, { on := 13, ground := Ground.data }], guard := none }) rfl ?_ AllReadyH.nil)
    intro K1 hK1
    rw [if_pos (by rfl)]
    have hc1 := (Blk.new A.drew #[.int .i64 (m : Int)] 3).cell (i := 0) (v := .int .i64 (m : Int)) rfl
    refine wp_appI (.tmp 72) (.tmp 74) rfl B v xs A.heap.size m rfl rfl (World.ownsRow.alloc (w := A.drew) hown.out _) hc1 hx.out (by have := hB.out; simp; omega) ?_
    intro v1 w1 r1 r2 r3
    have R1 : Hid _ := r1
    obtain ⟨p1, c1, rfl⟩ := own_slice R1.out
    have R2 : Hid ((A.drew.alloc (.cells #[.int .i64 (m : Int)] 3)).grownBy w1 v.ownBlock) := r2
    have R3 : Hid ((Value.slice p1 (xs.length + 1) c1).ownBlock = v.ownBlock ∨ (Value.slice p1 (xs.length + 1) c1).ownBlock = some (A.heap.size + 1)) := show _ ∨ _ from by simpa using r3
    clear r1 r2 r3 hc1
    refine hK1.out _ _ (by rw [hSd]; exact (hS14.out w1 R2.out).1) ?_
    clear hS' hK1
    intro hS'
    try simp only [Act.put, List.setIfInBounds_toArray, List.set_cons_zero, List.set_cons_succ]
    refine wpAnyH_take (i := 15) (oi := { dst := some 76, op := Op.indexAddr 55 (Operand.tmp 62) (Operand.tmp 65), type := 0, pos := "order.go:43", after := #[{ on := 1, ground := Ground.data }, { on := 4, ground := Ground.data }, { on := 0, ground := Ground.phase }, { on := 1, ground := Ground.phase }, { on := 2, ground := Ground.phase }, { on := 3, ground := Ground.phase }, { on := 4, ground := Ground.phase }, { on := 5, ground := Ground.phase }, { on := 6, ground := Ground.phase }, { on := 7, ground := Ground.phase }, { on := 8, ground := Ground.phase }, { on := 9, ground := Ground.phase }, { on := 10, ground := Ground.phase }, { on := 11, ground := Ground.phase }, { on := 12, ground := Ground.phase }, { on := 13, ground := Ground.phase }, { on := 14, ground := Ground.phase }], guard := none }) (v := .pointer (some ⟨ga, k, none⟩)) rfl (by kernel_rfl) (by kernel_rfl) (by kernel_rfl) (fun _ _ _ h => h.elim) (Or.inl ⟨by rfl, ?y15⟩) hS' ?_
    case y15 =>
      intro W hW
      rw [hSd] at hW; obtain ⟨s1, s2, s3⟩ := hW
      go_simp
    simp only [Act.put, List.setIfInBounds_toArray, List.set_cons_zero, List.set_cons_succ]
    refine wpAnyH_ready (rs := [16]) (by kernel_rfl) (by simp) (AllReadyH.cons (i := 16) (o := { dst := none, op := Op.store 56 (Operand.tmp 76) (Operand.tmp 75), type := 0, pos := "order.go:43", after := #[{ on := 15, ground := Ground.data }, { on := 14, ground := Ground.data }, { on := 14, ground := Ground.chain }, { on := 0, ground := Ground.phase }, { on := 1, ground := Ground.phase }, { on := 2, ground := Ground.phase }, { on := 3, ground := Ground.phase }, { on := 4, ground := Ground.phase }, { on := 5, ground := Ground.phase }, { on := 6, ground := Ground.phase }, { on := 7, ground := Ground.phase }, { on := 8, ground := Ground.phase }, { on := 9, ground := Ground.phase }, { on := 10, ground := Ground.phase }, { on := 11, ground := Ground.phase }, { on := 12, ground := Ground.phase }, { on := 13, ground := Ground.phase }, { on := 14, ground := Ground.phase }], guard := none }) rfl ?_ AllReadyH.nil)
    intro K1 hK1
    rw [if_pos (by rfl)]
    have hb1 := (hS14.out w1 R2.out).2.1
    have hc1 := hb1.cell hkL
    have hf1 := hb1.free k
    clear hb1
    go_wp2_with fail
    refine hK1.out _ _ (by rw [hSd]; exact (hS14.out w1 R2.out).2.2 _) ?_
    clear hS' hK1
    intro hS'
    try simp only [Act.put, List.setIfInBounds_toArray, List.set_cons_zero, List.set_cons_succ]
    refine wpAnyH_done (by kernel_rfl) ?_ _
    exact hQ.out p1 c1 w1 R1.out R2.out R3.out
  · intro K1 hK1
    rw [if_pos (by rfl)]
    refine wp_bs56 (.tmp 73) rfl m rfl ?_
    refine hK1.out _ _ (by rw [hSd]; exact hS13.out) ?_
    clear hS' hK1
    intro hS'
    try simp only [Act.put, List.setIfInBounds_toArray, List.set_cons_zero, List.set_cons_succ]
    refine wpAnyH_ready (rs := [11]) (by kernel_rfl) (by simp) (AllReadyH.cons (i := 11) (o := { dst := some 72, op := Op.load 56 (Operand.tmp 71), type := 56, pos := "order.go:43", after := #[{ on := 10, ground := Ground.data }], guard := none }) rfl ?_ AllReadyH.nil)
    intro K1 hK1
    rw [if_pos (by rfl)]
    have hc0 : (A.drew.alloc (.cells #[.int .i64 (m : Int)] 3)).cell? ⟨ga, k, none⟩ = some v := Blk.cell (w := (A.drew.alloc (.cells #[.int .i64 (m : Int)] 3))) (Blk.alloc (w := A.drew) hbl.out _) hkL
    generalize hWW : (A.drew.alloc (.cells #[.int .i64 (m : Int)] 3)) = WW at hc0 ⊢
    go_wp2_with fail
    subst hWW
    refine hK1.out _ _ (by rw [hSd]; exact hS13.out) ?_
    clear hS' hK1
    intro hS'
    try simp only [Act.put, List.setIfInBounds_toArray, List.set_cons_zero, List.set_cons_succ]
    refine wpAnyH_ready (rs := [14]) (by kernel_rfl) (by simp) (AllReadyH.cons (i := 14) (o := { dst := some 75, op := Op.call { callee := Callee.builtin Builtin.append, args := #[Operand.tmp 72, Operand.tmp 74], argTypes := #[56, 56] }, type := 56, pos := "order.go:43", after := #[{ on := 11, ground := Ground.data }, { on := 13, ground := Ground.data }], guard := none }) rfl ?_ AllReadyH.nil)
    intro K1 hK1
    rw [if_pos (by rfl)]
    have hc1 := (Blk.new A.drew #[.int .i64 (m : Int)] 3).cell (i := 0) (v := .int .i64 (m : Int)) rfl
    refine wp_appI (.tmp 72) (.tmp 74) rfl B v xs A.heap.size m rfl rfl (World.ownsRow.alloc (w := A.drew) hown.out _) hc1 hx.out (by have := hB.out; simp; omega) ?_
    intro v1 w1 r1 r2 r3
    have R1 : Hid _ := r1
    obtain ⟨p1, c1, rfl⟩ := own_slice R1.out
    have R2 : Hid ((A.drew.alloc (.cells #[.int .i64 (m : Int)] 3)).grownBy w1 v.ownBlock) := r2
    have R3 : Hid ((Value.slice p1 (xs.length + 1) c1).ownBlock = v.ownBlock ∨ (Value.slice p1 (xs.length + 1) c1).ownBlock = some (A.heap.size + 1)) := show _ ∨ _ from by simpa using r3
    clear r1 r2 r3 hc1
    refine hK1.out _ _ (by rw [hSd]; exact (hS14.out w1 R2.out).1) ?_
    clear hS' hK1
    intro hS'
    try simp only [Act.put, List.setIfInBounds_toArray, List.set_cons_zero, List.set_cons_succ]
    refine wpAnyH_take (i := 15) (oi := { dst := some 76, op := Op.indexAddr 55 (Operand.tmp 62) (Operand.tmp 65), type := 0, pos := "order.go:43", after := #[{ on := 1, ground := Ground.data }, { on := 4, ground := Ground.data }, { on := 0, ground := Ground.phase }, { on := 1, ground := Ground.phase }, { on := 2, ground := Ground.phase }, { on := 3, ground := Ground.phase }, { on := 4, ground := Ground.phase }, { on := 5, ground := Ground.phase }, { on := 6, ground := Ground.phase }, { on := 7, ground := Ground.phase }, { on := 8, ground := Ground.phase }, { on := 9, ground := Ground.phase }, { on := 10, ground := Ground.phase }, { on := 11, ground := Ground.phase }, { on := 12, ground := Ground.phase }, { on := 13, ground := Ground.phase }, { on := 14, ground := Ground.phase }], guard := none }) (v := .pointer (some ⟨ga, k, none⟩)) rfl (by kernel_rfl) (by kernel_rfl) (by kernel_rfl) (fun _ _ _ h => h.elim) (Or.inl ⟨by rfl, ?y15⟩) hS' ?_
    case y15 =>
      intro W hW
      rw [hSd] at hW; obtain ⟨s1, s2, s3⟩ := hW
      go_simp
    simp only [Act.put, List.setIfInBounds_toArray, List.set_cons_zero, List.set_cons_succ]
    refine wpAnyH_ready (rs := [16]) (by kernel_rfl) (by simp) (AllReadyH.cons (i := 16) (o := { dst := none, op := Op.store 56 (Operand.tmp 76) (Operand.tmp 75), type := 0, pos := "order.go:43", after := #[{ on := 15, ground := Ground.data }, { on := 14, ground := Ground.data }, { on := 14, ground := Ground.chain }, { on := 0, ground := Ground.phase }, { on := 1, ground := Ground.phase }, { on := 2, ground := Ground.phase }, { on := 3, ground := Ground.phase }, { on := 4, ground := Ground.phase }, { on := 5, ground := Ground.phase }, { on := 6, ground := Ground.phase }, { on := 7, ground := Ground.phase }, { on := 8, ground := Ground.phase }, { on := 9, ground := Ground.phase }, { on := 10, ground := Ground.phase }, { on := 11, ground := Ground.phase }, { on := 12, ground := Ground.phase }, { on := 13, ground := Ground.phase }, { on := 14, ground := Ground.phase }], guard := none }) rfl ?_ AllReadyH.nil)
    intro K1 hK1
    rw [if_pos (by rfl)]
    have hb1 := (hS14.out w1 R2.out).2.1
    have hc1 := hb1.cell hkL
    have hf1 := hb1.free k
    clear hb1
    go_wp2_with fail
    refine hK1.out _ _ (by rw [hSd]; exact (hS14.out w1 R2.out).2.2 _) ?_
    clear hS' hK1
    intro hS'
    try simp only [Act.put, List.setIfInBounds_toArray, List.set_cons_zero, List.set_cons_succ]
    refine wpAnyH_done (by kernel_rfl) ?_ _
    exact hQ.out p1 c1 w1 R1.out R2.out R3.out
end Go.Proofs.Ytijkpkcopjkhkaa.Oct

/- Layer 12 (deps): numbers by names, and the rows above, in memory and as lists. -/
namespace Go.Proofs.Ytijkpkcopjkhkaa.Oct
open Go.RowKit

/-! ### numbers by names -/
def NM (w : World) (b : Nat) (ks : List Hs) : Prop := ∃ es : List Ent, HM w b es ∧ es.map (·.k) = ks ∧ ∀ (i : Nat) (e : Ent), es[i]? = some e → e.v = .int .i64 (i : Int)
section
variable {w w' : World} {b : Nat} {ks : List Hs} {h : Hs}
theorem NM.lt (hm : NM w b ks) : b < w.heap.size := by obtain ⟨es, h1, _⟩ := hm; exact h1.lt
theorem NM.same (hm : NM w b ks) (hs : w'.heap[b]? = w.heap[b]?) : NM w' b ks := by obtain ⟨es, h1, h2⟩ := hm; exact ⟨es, h1.same hs, h2⟩
theorem NM.alloc (hm : NM w b ks) (o : Obj) : NM (w.alloc o) b ks := hm.same (Below.heap_alloc w o b hm.lt)
theorem NM.made (w : World) : NM (w.alloc (.map #[] 0)) w.heap.size [] := ⟨[], HM.made w, rfl, by simp⟩
theorem run_make68 (n : Nat) (W : World) : (Instr.makeMap 68 (some (.int .i64 (n : Int)))).run Try.prog W = .ok (.map (some W.heap.size)) (W.alloc (.map #[] 0)) := by
  simp [Instr.makeMap, run_underlying Try.underlying68, asInt, Result.andThen]
  rfl
theorem zero3 (W : World) : (zeroValue 3).run Try.prog W = .ok (.int .i64 0) W := by kernel_rfl
theorem NM.put (hm : NM w b ks) (hl : h.length = 32) (hno : h ∉ ks) : ∃ w', (Instr.mapUpdate 68 (.map (some b)) (.agg (U h).toArray) (.int .i64 (ks.length : Int))).run Try.prog w = .ok () w' ∧ NM w' b (ks ++ [h]) ∧ w.grownBy w' (some b) ∧ w'.heap.size = w.heap.size := by
  obtain ⟨es, h1, h2, h3⟩ := hm
  obtain ⟨w', nb, r1, r2, r3, r4⟩ := h1.put (t := 68) (E := 3) Try.underlying68 hl (.int .i64 (ks.length : Int))
  refine ⟨w', r1, ⟨_, r2, ?_, ?_⟩, r3, r4⟩
  · unfold hputE
    rw [isSome_hlook, h2]
    simp only [hno, decide_false, Bool.false_eq_true, if_false]
    simp [h2]
  · intro i e he
    unfold hputE at he
    rw [isSome_hlook, h2] at he
    simp only [hno, decide_false, Bool.false_eq_true, if_false] at he
    by_cases hi : i < es.length
    · rw [List.getElem?_append_left hi] at he; exact h3 i e he
    · rw [List.getElem?_append_right (by omega)] at he
      have hl2 : es.length = ks.length := by rw [← h2]; simp
      cases hj : i - es.length with
      | zero =>
        rw [hj] at he
        simp at he
        subst he
        have : i = ks.length := by omega
        rw [this]
      | succ j => rw [hj] at he; simp at he
theorem NM.look (hm : NM w b ks) (hl : h.length = 32) {k : Nat} (hk : ks[k]? = some h) : (Instr.lookup 68 (.map (some b)) (.agg (U h).toArray) false).run Try.prog w = .ok (.int .i64 (k : Int)) w := by
  obtain ⟨es, h1, h2, h3⟩ := hm
  have hnd : (es.map (·.k)).Nodup := by obtain ⟨c, _, _, _, h4, _⟩ := h1; exact h4
  rw [← h2, List.getElem?_map] at hk
  obtain ⟨e, he, hek⟩ := Option.map_eq_some_iff.1 hk
  have hlk := hlook_mem hnd (List.mem_of_getElem? he)
  rw [hek] at hlk
  have := h1.look (t := 68) (E := 3) Try.underlying68 hl false (zero3 w)
  rw [hlk] at this
  have e2 : lkv false (some e) (.int .i64 0) = .int .i64 (k : Int) := by simp [lkv, h3 k e he]
  rw [e2] at this
  exact this
end
section
variable {ops : Array Oper} {rest : List Oper} {o : Oper} {a : Act} {w : World} {Q : Exit → Act → World → Prop}
theorem wpList_nput (hg : o.guard = none) (m x v : Operand) (hop : o.op = Op.mapUpdate 68 m x v) (b : Nat) (ks : List Hs) (h : Hs) (hm : a.eval m = .map (some b)) (hx : a.eval x = .agg (U h).toArray) (hvv : a.eval v = .int .i64 (ks.length : Int))
    (hs : NM w b ks) (hl : h.length = 32) (hno : h ∉ ks) (hK : ∀ w', NM w' b (ks ++ [h]) → w.grownBy w' (some b) → w'.heap.size = w.heap.size → wpList Try.prog ops Q rest (a.put o.dst undef) w') : wpList Try.prog ops Q (o :: rest) a w := by
  refine wpList_plain hg fun K' hK' => ?_
  obtain ⟨w', hrun, r1, r2, r3⟩ := hs.put hl hno
  unfold Oper.wp
  simp [execOp, hop, hm, hx, hvv, hrun, Result.andThen]
  exact hK' _ _ (hK w' r1 r2 r3)
theorem wpList_nlook (hg : o.guard = none) (m x : Operand) (hop : o.op = Op.lookup 68 m x false) (b : Nat) (ks : List Hs) (h : Hs) (k : Nat) (hm : a.eval m = .map (some b)) (hx : a.eval x = .agg (U h).toArray)
    (hs : NM w b ks) (hl : h.length = 32) (hk : ks[k]? = some h) (hK : wpList Try.prog ops Q rest (a.put o.dst (.int .i64 (k : Int))) w) : wpList Try.prog ops Q (o :: rest) a w := by
  refine wpList_plain hg fun K' hK' => ?_
  unfold Oper.wp
  simp [execOp, hop, hm, hx, hs.look hl hk, Result.andThen]
  exact hK' _ _ hK
end

/-! ### the rows above -/
structure AbM (w : World) (B ga : Nat) (L : List Value) (xs : List (List Nat)) : Prop where
  blk : Blk w ga 56 L
  len : L.length = xs.length
  rows : ∀ (k : Nat) (v : Value) (x : List Nat), L[k]? = some v → xs[k]? = some x → w.ownsRow B 3 1 v x.length (IV x)
  apart : ∀ (i j : Nat) (v u : Value), i ≠ j → L[i]? = some v → L[j]? = some u → v.ownBlock = none ∨ v.ownBlock ≠ u.ownBlock
section
variable {w w' : World} {B ga : Nat} {L : List Value} {xs : List (List Nat)}
theorem AbM.partner (h : AbM w B ga L xs) {k : Nat} {v : Value} (hv : L[k]? = some v) : ∃ x, xs[k]? = some x := by
  have := (List.getElem?_eq_some_iff.1 hv).1
  exact ⟨_, List.getElem?_eq_getElem (by rw [← h.len]; exact this)⟩
theorem AbM.kept {row : Option Nat} (h : AbM w B ga L xs) (hg : w.grownBy w' row) (hne : some ga ≠ row) (hr : ∀ v ∈ L, v.ownBlock = none ∨ v.ownBlock ≠ row) : AbM w' B ga L xs :=
  ⟨h.blk.kept hg hne, h.len, fun k v x hv hx => (h.rows k v x hv hx).kept hg (hr v (List.mem_of_getElem? hv)), h.apart⟩
theorem AbM.below (h : AbM w B ga L xs) (hb : Below w.heap.size w w') : AbM w' B ga L xs := by
  refine h.kept (row := none) ⟨hb.os, hb.tape, hb.output, hb.size, fun k hk _ => hb.block k hk⟩ (by simp) (fun v _ => ?_)
  cases v.ownBlock with
  | none => exact .inl rfl
  | some g => exact .inr (by simp)
/-- a block ahead of all rows is written -/
theorem AbM.wrote (h : AbM w B ga L xs) {g : Nat} (hg : w.grownBy w' (some g)) (hne : g ≠ ga) (hB : g < B) : AbM w' B ga L xs := by
  refine h.kept hg (by simpa using fun e => hne e.symm) (fun v hv => ?_)
  obtain ⟨k, hk⟩ := List.getElem?_of_mem hv
  obtain ⟨x, hx⟩ := h.partner hk
  have hl := (h.rows k v x hk hx).lt
  cases e : v.ownBlock with
  | none => exact .inl rfl
  | some g' =>
    have := (hl g' e).1
    refine .inr ?_
    simp only [ne_eq, Option.some.injEq]
    omega
theorem AbM.new (w : World) (B ga n : Nat) (hb : Blk w ga 56 (List.replicate n (.slice none 0 0))) : AbM w B ga (List.replicate n (.slice none 0 0)) (List.replicate n []) := by
  refine ⟨hb, by simp, fun k v x hv hx => ?_, fun i j v u _ hv _ => ?_⟩
  · obtain rfl := List.eq_of_mem_replicate (List.mem_of_getElem? hv)
    obtain rfl := List.eq_of_mem_replicate (List.mem_of_getElem? hx)
    exact World.ownsRow_nil _ _ _ _
  · obtain rfl := List.eq_of_mem_replicate (List.mem_of_getElem? hv)
    exact .inl rfl
theorem AbM.put {A w1 : World} {k m : Nat} {v v' : Value} {x : List Nat} {o : Obj} (h : AbM A B ga L xs) (hv : L[k]? = some v) (hx : xs[k]? = some x) (hgB : ga < B)
    (r1 : w1.ownsRow B 3 1 v' (x.length + 1) (IV (x ++ [m]))) (r2 : (A.drew.alloc o).grownBy w1 v.ownBlock) (r3 : v'.ownBlock = v.ownBlock ∨ v'.ownBlock = some (A.heap.size + 1)) :
    AbM (w1.setCell ⟨ga, k, none⟩ v') B ga (L.set k v') (xs.set k (x ++ [m])) := by
  have hal : Below A.heap.size A (A.drew.alloc o) := (⟨rfl, rfl, rfl, Nat.le_refl _, fun _ _ => rfl⟩ : Below A.heap.size A A.drew).alloc (Nat.le_refl _) o
  have hA1 : AbM (A.drew.alloc o) B ga L xs := h.below hal
  have hvr := h.rows k v x hv hx
  have hga : some ga ≠ v.ownBlock := fun e => by have := (hvr.lt ga e.symm).1; omega
  have hb1 : Blk w1 ga 56 L := hA1.blk.kept r2 hga
  have hset := grown_setCell w1 ga k v'
  have hkl := (List.getElem?_eq_some_iff.1 hv).1
  have lt' : ∀ (j : Nat) (u : Value), L[j]? = some u → ∀ g, u.ownBlock = some g → B ≤ g ∧ g < A.heap.size := fun j u hu g e => by
    obtain ⟨y, hy⟩ := h.partner hu
    exact (h.rows j u y hu hy).lt g e
  refine ⟨by simpa using hb1.set k v', by simp [h.len], fun j u y hu hy => ?_, fun i j a b hij ha hb => ?_⟩
  · by_cases hjk : j = k
    · subst hjk
      rw [List.getElem?_set_self (by simpa using hkl)] at hu
      rw [List.getElem?_set_self (by rw [← h.len]; exact hkl)] at hy
      simp only [Option.some.injEq] at hu hy
      subst hu hy
      have := r1.kept hset (by
        cases e : v'.ownBlock with
        | none => exact .inl rfl
        | some g => refine .inr ?_; have := (r1.lt g e).1; simp only [ne_eq, Option.some.injEq]; omega)
      simpa using this
    · rw [List.getElem?_set_ne (by omega)] at hu hy
      have h1 := (hA1.rows j u y hu hy).kept r2 (h.apart j k u v hjk hu hv)
      refine h1.kept hset ?_
      cases e : u.ownBlock with
      | none => exact .inl rfl
      | some g => refine .inr ?_; have := (lt' j u hu g e).1; simp only [ne_eq, Option.some.injEq]; omega
  · by_cases hik : i = k
    · subst hik
      rw [List.getElem?_set_self (by simpa using hkl)] at ha
      rw [List.getElem?_set_ne (by omega)] at hb
      simp only [Option.some.injEq] at ha
      subst ha
      rcases r3 with e | e
      · rw [e]; exact h.apart i j v b hij hv hb
      · refine .inr ?_
        rw [e]
        intro e2
        have := (lt' j b hb _ e2.symm).2
        omega
    · rw [List.getElem?_set_ne (by omega)] at ha
      by_cases hjk : j = k
      · subst hjk
        rw [List.getElem?_set_self (by simpa using hkl)] at hb
        simp only [Option.some.injEq] at hb
        subst hb
        rcases r3 with e | e
        · rw [e]; exact h.apart i j a v hij ha hv
        · cases e2 : a.ownBlock with
          | none => exact .inl rfl
          | some g =>
            refine .inr ?_
            rw [e]
            have := (lt' i a ha g e2).2
            simp only [ne_eq, Option.some.injEq]; omega
      · rw [List.getElem?_set_ne (by omega)] at hb
        exact h.apart i j a b hij ha hb
end

/-! ### as lists -/
def numOf (ns : List Hs) (h : Hs) : Nat := ns.idxOf h
theorem numOf_at {ns : List Hs} {h : Hs} (hm : h ∈ ns) : ns[numOf ns h]? = some h := by
  unfold numOf
  rw [List.getElem?_eq_getElem (List.idxOf_lt_length_of_mem hm)]
  simp
/-- a number put behind the row of each of some hashes -/
def aboveI (ns : List Hs) (m : Nat) (xs : List (List Nat)) (ds : List Hs) : List (List Nat) := ds.foldl (fun xs d => xs.set (numOf ns d) (xs.getD (numOf ns d) [] ++ [m])) xs
def webA (ns : List Hs) (l : List It) : List (List Nat) := l.foldl (fun xs x => aboveI ns (numOf ns x.name) xs x.deps) (List.replicate ns.length [])
def webW (ns : List Hs) (l : List It) : List Nat := l.foldl (fun wt x => wt.set (numOf ns x.name) x.deps.length) (List.replicate ns.length 0)
theorem webA_take (ns : List Hs) (l : List It) (i : Nat) (x : It) (h : l[i]? = some x) : webA ns (l.take (i + 1)) = aboveI ns (numOf ns x.name) (webA ns (l.take i)) x.deps := by
  unfold webA
  rw [List.take_add_one, h, List.foldl_append]; rfl
theorem webW_take (ns : List Hs) (l : List It) (i : Nat) (x : It) (h : l[i]? = some x) : webW ns (l.take (i + 1)) = (webW ns (l.take i)).set (numOf ns x.name) x.deps.length := by
  unfold webW
  rw [List.take_add_one, h, List.foldl_append]; rfl
theorem aboveI_take (ns : List Hs) (m : Nat) (xs : List (List Nat)) (ds : List Hs) (j : Nat) (d : Hs) (h : ds[j]? = some d) :
    aboveI ns m xs (ds.take (j + 1)) = (aboveI ns m xs (ds.take j)).set (numOf ns d) ((aboveI ns m xs (ds.take j)).getD (numOf ns d) [] ++ [m]) := by
  unfold aboveI
  rw [List.take_add_one, h, List.foldl_append]; rfl
theorem aboveI_length (ns : List Hs) (m : Nat) : ∀ (ds : List Hs) (xs : List (List Nat)), (aboveI ns m xs ds).length = xs.length
  | [], _ => rfl
  | d :: ds, xs => by
    show (aboveI ns m _ ds).length = _
    rw [aboveI_length ns m ds]; simp
theorem webA_length (ns : List Hs) (l : List It) : (webA ns l).length = ns.length := by
  have key : ∀ (l : List It) (xs : List (List Nat)), (l.foldl (fun xs x => aboveI ns (numOf ns x.name) xs x.deps) xs).length = xs.length := by
    intro l
    induction l with
    | nil => intro xs; rfl
    | cons x l ih => intro xs; rw [List.foldl_cons, ih, aboveI_length]
  unfold webA
  rw [key]; simp
theorem webW_length (ns : List Hs) (l : List It) : (webW ns l).length = ns.length := by
  have key : ∀ (l : List It) (xs : List Nat), (l.foldl (fun wt x => wt.set (numOf ns x.name) x.deps.length) xs).length = xs.length := by
    intro l
    induction l with
    | nil => intro xs; rfl
    | cons x l ih => intro xs; rw [List.foldl_cons, ih]; simp
  unfold webW
  rw [key]; simp
/-- no row is longer than there are hashes -/
theorem aboveI_bound (ns : List Hs) (m : Nat) {N : Nat} : ∀ (ds : List Hs) (xs : List (List Nat)), (∀ x ∈ xs, x.length ≤ N) → ∀ x ∈ aboveI ns m xs ds, x.length ≤ N + ds.length
  | [], xs, h => by simpa [aboveI] using h
  | d :: ds, xs, h => by
    intro x hx
    have := aboveI_bound ns m (N := N + 1) ds (xs.set (numOf ns d) (xs.getD (numOf ns d) [] ++ [m])) (fun y hy => by
      rcases List.mem_or_eq_of_mem_set hy with hy | rfl
      · have := h y hy; omega
      · simp only [List.length_append, List.length_singleton]
        have : (xs.getD (numOf ns d) []).length ≤ N := by
          rw [List.getD_eq_getElem?_getD]
          cases e : xs[numOf ns d]? with
          | none => simp
          | some y => exact h y (List.mem_of_getElem? e)
        omega) x hx
    simp only [List.length_cons]; omega
theorem webA_bound (ns : List Hs) : ∀ (l : List It), ∀ x ∈ webA ns l, x.length ≤ many l := by
  intro l
  have key : ∀ (l : List It) (N : Nat) (xs : List (List Nat)), (∀ x ∈ xs, x.length ≤ N) → ∀ x ∈ l.foldl (fun xs x => aboveI ns (numOf ns x.name) xs x.deps) xs, x.length ≤ N + many l := by
    intro l
    induction l with
    | nil => intro N xs h; simpa [many] using h
    | cons y l ih =>
      intro N xs h x hx
      rw [List.foldl_cons] at hx
      have := ih (N + y.deps.length) _ (aboveI_bound ns (numOf ns y.name) y.deps xs h) x hx
      simp only [many, List.map_cons, List.sum_cons] at this ⊢
      omega
  have := key l 0 (List.replicate ns.length []) (fun x hx => by obtain rfl := List.eq_of_mem_replicate hx; simp)
  simpa [webA] using this
end Go.Proofs.Ytijkpkcopjkhkaa.Oct

/- Layer 12 (deps): webOf. -/
namespace Go.Proofs.Ytijkpkcopjkhkaa.Oct
open Go.RowKit

/-- what 'webOf' answers -/
def WebP (w : World) (l : List It) (len : Nat) (e : Ending) (w' : World) : Prop :=
  ∃ an cc ga gw ns L B, e = .returned (.agg #[.slice an len cc, .slice (some ⟨ga, 0, none⟩) len len, .slice (some ⟨gw, 0, none⟩) len len]) ∧
    Hid (HsR w' an len ns ∧ ns.Pairwise LtH ∧ (∀ x, x ∈ ns ↔ x ∈ namesK l) ∧ len ≤ cc) ∧
    Hid (Blk w' gw 3 (IV (webW ns l)) ∧ AbM w' B ga L (webA ns l) ∧ w.heap.size ≤ ga ∧ w.heap.size ≤ gw ∧ gw < B ∧ ga < B ∧ B ≤ w'.heap.size) ∧ Hid (Below w.heap.size w w')
section
variable {ops : Array Oper} {rest : List Oper} {o : Oper} {a : Act} {w : World} {Q : Exit → Act → World → Prop}
theorem cells_int (n : Int) : (Value.int .i64 n).cells = #[.int .i64 n] := rfl
/-- a number stored into a row of numbers -/
theorem wpList_storeI (hg : o.guard = none) (x y : Operand) (hop : o.op = Op.store 3 x y) (g k n : Nat) (wt : List Nat) (hx : a.eval x = .pointer (some ⟨g, k, none⟩)) (hy : a.eval y = .int .i64 (n : Int)) (hb : Blk w g 3 (IV wt)) (hk : k < wt.length)
    (hK : ∀ w', Blk w' g 3 (IV (wt.set k n)) → w.grownBy w' (some g) → wpList Try.prog ops Q rest (a.put o.dst undef) w') : wpList Try.prog ops Q (o :: rest) a w := by
  refine wpList_plain hg fun K' hK' => ?_
  have hth := hb.there k 1 (by rw [IV_length]; omega)
  have hst := run_storeCells_cells (P := Try.prog) g k [.int .i64 (n : Int)] 0 w (fun j hj => by simpa using (hth j (by simpa using hj)).1) (fun j hj => by simpa using (hth j (by simpa using hj)).2) (by simp [Value.oneCell'])
  obtain ⟨i, hi, hs1, _⟩ := info3
  have e := Blk.setCells [.int .i64 (n : Int)] k w _ hb (by rw [IV_length]; simp; omega)
  have hrun : (storeVar 3 ⟨g, k, none⟩ (.int .i64 (n : Int))).run Try.prog w = .ok () (w.setCells g k [.int .i64 (n : Int)]) := by
    simp only [Nat.add_zero] at hst
    simp [storeVar, sizeOf, typeInfo, hi, hs1, cells_int, hst]
  unfold Oper.wp execOp
  simp only [hop, hx, hy, Instr.storeAt, Instr.sureAddr, Sem.run_bind, Sem.run_pure, Result.andThen_ok, hrun]
  refine hK' _ _ (hK _ ?_ e.2)
  have e1 := e.1
  have e3 : (IV wt).take k ++ [Value.int .i64 (n : Int)] ++ (IV wt).drop (k + 1) = IV (wt.set k n) := by
    rw [List.set_eq_take_append_cons_drop, if_pos hk]
    simp [IV, List.map_take, List.map_drop]
  simp only [List.length_singleton] at e1
  rw [e3] at e1
  exact e1
end
theorem below_drew {B : Nat} (w : World) : Below B w w.drew := ⟨rfl, rfl, rfl, Nat.le_refl _, fun _ _ => rfl⟩
/-- what stands, but for two blocks -/
def Fr (B : Nat) (WB W : World) (ga gw : Nat) : Prop := B ≤ W.heap.size ∧ ∀ b, b < B → b ≠ ga → b ≠ gw → W.heap[b]? = WB.heap[b]?
theorem Fr.below {B : Nat} {WB W W' : World} {ga gw : Nat} (h : Fr B WB W ga gw) (hb : Below W.heap.size W W') : Fr B WB W' ga gw :=
  ⟨Nat.le_trans h.1 hb.size, fun b h1 h2 h3 => (hb.block b (by have := h.1; omega)).trans (h.2 b h1 h2 h3)⟩
theorem Fr.grown {B : Nat} {WB W W' : World} {ga gw : Nat} {row : Option Nat} (h : Fr B WB W ga gw) (hg : W.grownBy W' row) (hr : ∀ g, row = some g → g = ga ∨ g = gw ∨ B ≤ g) : Fr B WB W' ga gw :=
  ⟨Nat.le_trans h.1 hg.size, fun b h1 h2 h3 => (hg.block b (by have := h.1; omega) (fun e => by
    rcases hr b e.symm with e | e | e
    · exact h2 e
    · exact h3 e
    · omega)).trans (h.2 b h1 h2 h3)⟩
theorem below_grown' {B : Nat} {w a b : World} {row : Option Nat} (h : Below B w a) (hg : a.grownBy b row) (hr : ∀ g, row = some g → B ≤ g) (hB : B ≤ w.heap.size) : Below B w b :=
  ⟨hg.os.trans h.os, hg.tape.trans h.tape, hg.output.trans h.output, Nat.le_trans h.size hg.size, fun k hk => (hg.block k (by have := h.size; omega) (fun e => by have := hr k e.symm; omega)).trans (h.block k hk)⟩
theorem row_apart {W : World} {an : Option Addr} {nn : Nat} {rs : List Hs} (h : HsR W an nn rs) {b : Nat} {t : TypeId} {L : List Value} (hb : Blk W b t L) (hL : ∀ v ∈ L, ∀ k, v ≠ .int .u8 k) : ∀ g off, 0 < nn → an = some ⟨g, off, none⟩ → g ≠ b ∧ g < W.heap.size := by
  intro g off hn e
  obtain ⟨g', off', e', hgl, hel⟩ := h.2.2 hn
  rw [e] at e'
  simp only [Option.some.injEq, Addr.mk.injEq] at e'
  obtain ⟨rfl, rfl, -⟩ := e'
  refine ⟨?_, hgl⟩
  intro e2
  subst e2
  obtain ⟨x, hx⟩ : ∃ x, rs[0]? = some x := ⟨_, List.getElem?_eq_getElem (by rw [h.1]; exact hn)⟩
  have hl := h.2.1 x (List.mem_of_getElem? hx)
  have h0 := hel 0 x hx 0 (.int .u8 (x[0].toNat : Int)) (by simpa using U_get x 0 (by omega))
  rw [cell_of_row W g _ _ t (0, 0) hb] at h0
  simp only [List.getElem?_toArray] at h0
  exact hL _ (List.mem_of_getElem? h0) _ rfl
theorem IV_zero (n : Nat) : IV (List.replicate n 0) = List.replicate n (.int .i64 0) := by simp [IV]
/-- what the drawn region reads -/
theorem s3_same {A W : World} {gs ga n bm hb k : Nat} {d : Hs} {ns : List Hs} {v0 v2 : Value} (h1 : Blk A gs 58 [v0, .slice (some ⟨ga, 0, none⟩) n n, v2]) (h2 : A.rangeAt hb 0 (U d)) (h3 : NM A bm ns) (hl : d.length = 32) (hk : ns[k]? = some d)
    (e1 : W.heap[gs]? = A.heap[gs]?) (e2 : W.heap[hb]? = A.heap[hb]?) (e3 : W.heap[bm]? = A.heap[bm]?) :
    W.cell? ⟨gs, 1, none⟩ = some (.slice (some ⟨ga, 0, none⟩) n n) ∧ W.rangeAt hb 0 (U d) ∧ (Instr.lookup 68 (.map (some bm)) (.agg (U d).toArray) false).run Try.prog W = .ok (.int .i64 (k : Int)) W :=
  ⟨Blk.cell (w := W) (e1.trans h1) rfl, rangeAt_same h2 e2, (h3.same e3).look hl hk⟩
theorem getD_at {xs : List (List Nat)} {k : Nat} {x : List Nat} (h : xs[k]? = some x) : xs.getD k [] = x := by
  rw [List.getD_eq_getElem?_getD, h]; rfl
theorem blk_ne {w : World} {b c : Nat} {t u : TypeId} {L M : List Value} (h : Blk w b t L) (k : Blk w c u M) (hne : t ≠ u) : b ≠ c := by
  intro e
  subst e
  have := h.symm.trans k
  simp only [Option.some.injEq, Obj.cells.injEq] at this
  exact hne this.2.1
theorem nm_ne {w : World} {b c : Nat} {u : TypeId} {ks : List Hs} {M : List Value} (h : NM w b ks) (k : Blk w c u M) : b ≠ c := by
  intro e
  subst e
  obtain ⟨es, ⟨clock, h1, _⟩, _⟩ := h
  have := h1.symm.trans k
  simp at this
theorem cell_same {w w' : World} {b : Nat} (h : w'.heap[b]? = w.heap[b]?) (o : Nat) : w'.cell? ⟨b, o, none⟩ = w.cell? ⟨b, o, none⟩ := by
  simp [World.cell?, h]
theorem alloc_ne {w : World} {o : Obj} {b : Nat} (h : b < w.heap.size) : (w.alloc o).heap[b]? = w.heap[b]? := Below.heap_alloc w o b h
theorem same_len {a b : List Hs} (ha : a.Nodup) (hb : b.Nodup) (h : ∀ x, x ∈ a ↔ x ∈ b) : a.length = b.length :=
  Nat.le_antisymm (nodup_le a b ha fun x hx => (h x).1 hx) (nodup_le b a hb fun x hx => (h x).2 hx)
theorem namesK_nodup (l : List It) : (namesK l).Nodup := by
  have key : ∀ (l : List It) (ks : List Hs), ks.Nodup → (l.foldl (fun ks x => addK ks x.name) ks).Nodup := by
    intro l
    induction l with
    | nil => intro ks h; exact h
    | cons x l ih => intro ks h; exact ih _ (addK_nodup h)
  exact key l [] List.nodup_nil

set_option maxRecDepth 100000 in
set_option maxHeartbeats 4000000 in
theorem webOf_is (w : World) (a : Option Addr) (len cap : Nat) (l : List It) (hi : Its w a len l) (hn : len ≤ 100000) (hm : many l ≤ 90000) (hnm : (namesK l).length = len) (hc : ∀ x ∈ l, ∀ d ∈ x.deps, d ∈ namesK l) :
    Calls Try.prog 35 #[.slice a len cap] w (WebP w l len) := by
  have HA : Hid (Its w a len l ∧ len ≤ 100000 ∧ many l ≤ 90000) := ⟨hi, hn, hm⟩
  have HC : Hid ((namesK l).length = len ∧ ∀ x ∈ l, ∀ d ∈ x.deps, d ∈ namesK l) := ⟨hnm, hc⟩
  have q5 : (len : Int) ≤ 100000 := by omega
  clear hi hn hm hnm hc
  obtain ⟨Z, hZl, hZ⟩ := zero36
  obtain ⟨Y, hYl, hY⟩ := zero34
  have HZ : Hid (Z.length = 33 ∧ Y.length = 32) := ⟨hZl, hYl⟩
  clear hZl hYl
  have hz58 := zero58
  go_enter Try.func35, Try.ntmps35
  go_wp2
  clear hz58
  obtain ⟨A, hA⟩ : ∃ A, w.alloc (.cells #[.slice none 0 0, .slice none 0 0, .slice none 0 0] 58) = A := ⟨_, rfl⟩
  have HA0 : Hid (Below w.heap.size w A ∧ w.heap.size < A.heap.size ∧ Blk A w.heap.size 58 [.slice none 0 0, .slice none 0 0, .slice none 0 0]) := ⟨by rw [← hA]; exact (Below.refl _ w).alloc (Nat.le_refl _) _, by rw [← hA]; simp, by rw [← hA]; simpa using Blk.new w #[.slice none 0 0, .slice none 0 0, .slice none 0 0] 58⟩
  rw [hA]
  clear hA
  refine web_region1 (ks := namesK l) HA.out.2.1 (fun V hV => ?_) (fun V b hb => ?_) ?_
  · exact namesOf_is V a len cap l (HA.out.1.below (HA0.out.1.trans (hV.mono (Nat.le_of_lt HA0.out.2.1)))) HA.out.2.1
  · exact rising_is V b (namesK l) hb (by rw [HC.out.1]; exact HA.out.2.1)
  show ∀ _, _
  intro b0 an nn cc ns ga gw gs V H0
  obtain rfl : nn = len := by
    rw [← HC.out.1, ← H0.2.1.1.1]
    exact same_len (rise_nodup H0.2.1.2.2.1) (namesK_nodup l) H0.2.1.2.2.2
  have H0' : Hid (Web0 A V (namesK l) nn an nn cc ns ga gw gs) := H0
  have HNS : Hid (ns.length = nn ∧ ns.Nodup ∧ (∀ x, x ∈ ns ↔ x ∈ namesK l) ∧ ∀ h ∈ ns, h.length = 32) := ⟨H0.2.1.1.1, rise_nodup H0.2.1.2.2.1, H0.2.1.2.2.2, H0.2.1.1.2.1⟩
  have hc0 : (V.alloc (.map #[] 0)).cell? ⟨gs, 0, none⟩ = some (.slice an nn cc) := (H0.2.2.2.2.1.alloc _).cell rfl
  have hmk := run_make68 nn
  clear H0
  go_wp2
  clear hmk hc0
  obtain ⟨bm, hbm⟩ : ∃ bm, V.heap.size = bm := ⟨_, rfl⟩
  obtain ⟨W, hW⟩ : ∃ W, V.alloc (.map #[] 0) = W := ⟨_, rfl⟩
  have HW : Hid (Below V.heap.size V W ∧ NM W bm [] ∧ V.heap.size = bm) := ⟨by rw [← hW]; exact below_new V _, by rw [← hW, ← hbm]; exact NM.made V, hbm⟩
  rw [hW, hbm]
  clear hW hbm
  go_loopw [28] (fun u wr => ∃ i : Nat, u = .int .i64 (i : Int) ∧ Hid (i ≤ nn ∧ Below V.heap.size V wr ∧ NM wr bm (ns.take i))) (fun u _ => nn - (intOf u).toNat)
  case atStart => exact ⟨0, rfl, ⟨Nat.zero_le _, HW.out.1, HW.out.2.1⟩⟩
  case round =>
    obtain ⟨i, rfl, HB⟩ := hrel
    by_cases hi : i < nn
    · obtain ⟨h, hh⟩ : ∃ h, ns[i]? = some h := ⟨_, List.getElem?_eq_getElem (by rw [HNS.out.1]; exact hi)⟩
      obtain ⟨g, off, hxa, hg, hel⟩ := H0'.out.2.1.1.2.2 (by omega)
      have HX : Hid (i < nn ∧ ns[i]? = some h ∧ h.length = 32 ∧ wr.rangeAt g (off + i * 32) (U h)) := ⟨hi, hh, HNS.out.2.2.2 h (List.mem_of_getElem? hh), rangeAt_same (hel i h hh) (HB.out.2.1.block g hg)⟩
      have q1 : (i : Int) < (nn : Int) := by omega
      clear hel hh hi
      rw [hxa]
      have HN2 : Hid (NM (wr.alloc (.cells (U h).toArray 34)) bm (ns.take i)) := HB.out.2.2.alloc _
      go_wp2_with (first
        | (with_reducible change wpList _ _ _ ({ dst := some 32, op := _, type := _, pos := _, after := _, guard := _ } :: _) _ _
           refine wpList_load_mid rfl 34 (.tmp 31) rfl g (off + i * 32) rfl (U h) _ HX.out.2.2.2 Try.underlying34 rfl (info34 h HX.out.2.2.1) ?_)
        | (with_reducible change wpList _ _ _ ({ dst := none, op := Op.store 34 _ _, type := _, pos := _, after := _, guard := _ } :: _) _ _
           refine wpList_store_fresh rfl 34 (.tmp 6) (.tmp 32) rfl Y (U h) 34 rfl rfl (by rw [U_length, HX.out.2.2.1, HZ.out.2]) (info34 h HX.out.2.2.1) (U_one h) ?_)
        | (with_reducible change wpList _ _ _ ({ dst := some 34, op := _, type := _, pos := _, after := _, guard := _ } :: _) _ _
           refine wpList_load_mid rfl 34 (.tmp 6) rfl wr.heap.size 0 rfl (U h) _ (new34 wr h) Try.underlying34 rfl (info34 h HX.out.2.2.1) ?_)
        | (with_reducible change wpList _ _ _ ({ dst := none, op := Op.mapUpdate 68 _ _ _, type := _, pos := _, after := _, guard := _ } :: _) _ _
           refine Hid.out ?_)
        | fail)
      show wpList _ _ _ _ _ _
      have hlt : (ns.take i).length = i := by rw [List.length_take]; have := HX.out.1; have := HNS.out.1; omega
      refine wpList_nput rfl (.tmp 33) (.tmp 34) (.tmp 35) rfl bm (ns.take i) h rfl rfl (by rw [hlt]; rfl) HN2.out HX.out.2.2.1 ?_ ?_
      · intro hm
        obtain ⟨j, hj⟩ := List.getElem?_of_mem hm
        have hjl := (List.getElem?_eq_some_iff.1 hj).1
        rw [List.getElem?_take_of_lt (by omega)] at hj
        have := (List.nodup_iff_pairwise_ne.1 HNS.out.2.1)
        have h1 := (List.getElem?_eq_some_iff.1 hj)
        have h2 := (List.getElem?_eq_some_iff.1 HX.out.2.1)
        exact List.pairwise_iff_getElem.1 this j i h1.1 h2.1 (by omega) (h1.2.trans h2.2.symm)
      intro w6 r1 r2 r3
      go_wp2
      refine ⟨⟨i + 1, by simp, ⟨HX.out.1, below_grownBy (HB.out.2.1.trans ((below_new wr (.cells (U h).toArray 34)).mono HB.out.2.1.size)) r2 (Nat.le_of_eq HW.out.2.2) (Nat.le_refl _), ?_⟩⟩, ?_⟩
      · rw [List.take_add_one, HX.out.2.1]; exact r1
      · have := HX.out.1; simp [intOf]; omega
    · have q1 : ¬ (i : Int) < (nn : Int) := by omega
      obtain ⟨WB, hWB⟩ : ∃ WB, WB = wr := ⟨_, rfl⟩
      subst hWB
      have HWB : Hid (Below V.heap.size V WB ∧ NM WB bm ns) := ⟨HB.out.2.1, by
        have := HB.out.2.2
        rw [List.take_of_length_le (by rw [HNS.out.1]; omega)] at this
        exact this⟩
      clear HB hi
      go_wp2
      have HF : Hid (Below w.heap.size w WB ∧ Blk WB gs 58 [.slice an nn cc, .slice (some ⟨ga, 0, none⟩) nn nn, .slice (some ⟨gw, 0, none⟩) nn nn] ∧ Blk WB ga 56 (List.replicate nn (.slice none 0 0)) ∧ Blk WB gw 3 (List.replicate nn (.int .i64 0)) ∧ Blk WB w.heap.size 58 [.slice none 0 0, .slice none 0 0, .slice none 0 0] ∧ w.heap.size < ga ∧ w.heap.size < gw) := by
        have hb1 := HWB.out.1
        obtain ⟨c1, c2, c3, c4, c5, c6⟩ := H0'.out
        have c7 := c1.size
        have c8 := HA0.out.2.1
        refine ⟨(HA0.out.1.trans (c1.mono (Nat.le_of_lt c8))).trans (hb1.mono (by omega)), c5.below hb1 c5.lt, c3.1.below hb1 c3.1.lt, c4.1.below hb1 c4.1.lt, ?_, by have := c3.2; omega, by have := c4.2; omega⟩
        exact (HA0.out.2.2.below c1 c8).below hb1 (by omega)
      have HNE : Hid (gs ≠ ga ∧ gs ≠ gw ∧ ga ≠ gw ∧ bm ≠ ga ∧ bm ≠ gw ∧ gs < WB.heap.size ∧ ga < WB.heap.size ∧ gw < WB.heap.size ∧ bm < WB.heap.size) := by
        obtain ⟨c1, c2, c3, c4, c5, c6⟩ := HF.out
        exact ⟨blk_ne c2 c3 (by decide), blk_ne c2 c4 (by decide), blk_ne c3 c4 (by decide), nm_ne HWB.out.2 c3, nm_ne HWB.out.2 c4, c2.lt, c3.lt, c4.lt, HWB.out.2.lt⟩
      go_loopw [39] (fun u wr => ∃ i : Nat, u = .int .i64 (i : Int) ∧ Hid (i ≤ nn ∧ Below w.heap.size w wr ∧ Fr WB.heap.size WB wr ga gw ∧ Blk wr gw 3 (IV (webW ns (l.take i))) ∧ ∃ L, AbM wr WB.heap.size ga L (webA ns (l.take i)))) (fun u _ => nn - (intOf u).toNat)
      case atStart =>
        refine ⟨0, rfl, ⟨Nat.zero_le _, HF.out.1, ⟨Nat.le_refl _, fun _ _ _ _ => rfl⟩, ?_, List.replicate nn (.slice none 0 0), ?_⟩⟩
        · have := HF.out.2.2.2.1
          rw [← IV_zero, ← HNS.out.1] at this
          exact this
        · have := AbM.new WB WB.heap.size ga nn HF.out.2.2.1
          have e : webA ns (l.take 0) = List.replicate nn [] := by rw [← HNS.out.1]; rfl
          rw [e]; exact this
      case round =>
        obtain ⟨i, rfl, HB⟩ := hrel
        by_cases hi : i < nn
        · obtain ⟨x, hx⟩ : ∃ x, l[i]? = some x := ⟨_, List.getElem?_eq_getElem (by rw [HA.out.1.1]; exact hi)⟩
          obtain ⟨b, off, rfl, hb, hel⟩ := HA.out.1.2 (by omega)
          have HX : Hid (i < nn ∧ l[i]? = some x ∧ x.name.length = 32) := ⟨hi, hx, (hel i x hx).1⟩
          have HRA : Hid (wr.rangeAt b (off + i * 33) x.cells) := rangeAt_same (hel i x hx).2.1 (HB.out.2.1.block b hb)
          have HDW : Hid (HsR w x.a x.n x.deps) := (hel i x hx).2.2.1
          have HXN : Hid (x.n ≤ 100000) := by show _ ≤ _; have h1 := dep_le l i x hx; have h2 := HDW.out.1; have h3 := HA.out.2.2; omega
          obtain ⟨k, hk⟩ : ∃ k, numOf ns x.name = k := ⟨_, rfl⟩
          have HK : Hid (numOf ns x.name = k ∧ ns[k]? = some x.name ∧ k < nn) := by
            have h1 : x.name ∈ ns := (HNS.out.2.2.1 _).2 ((mem_namesK l).2 (List.mem_map.2 ⟨x, List.mem_of_getElem? hx, rfl⟩))
            have h2 := numOf_at h1
            rw [hk] at h2
            refine ⟨hk, h2, ?_⟩
            have := (List.getElem?_eq_some_iff.1 h2).1
            rw [HNS.out.1] at this
            exact this
          have q1 : (i : Int) < (nn : Int) := by omega
          have q4 : (k : Int) < (nn : Int) := by have := HK.out.2.2; omega
          clear hel hx hi hk
          have HNM : Hid (NM (wr.alloc (.cells x.cells.toArray 36)) bm ns) := (HWB.out.2.same (HB.out.2.2.1.2 bm HNE.out.2.2.2.2.2.2.2.2 HNE.out.2.2.2.1 HNE.out.2.2.2.2.1)).alloc _
          go_wp2_with (first
            | (with_reducible change wpList _ _ _ ({ dst := some 42, op := _, type := _, pos := _, after := _, guard := _ } :: _) _ _
               refine wpList_load_mid rfl 36 (.tmp 41) rfl b (off + i * 33) rfl x.cells _ HRA.out Try.underlying36 rfl (info36 x HX.out.2.2) ?_)
            | (with_reducible change wpList _ _ _ ({ dst := none, op := Op.store 36 _ _, type := _, pos := _, after := _, guard := _ } :: _) _ _
               refine wpList_store_fresh rfl 36 (.tmp 8) (.tmp 42) rfl Z x.cells 36 rfl rfl (by rw [x.cells_length HX.out.2.2, HZ.out.1]) (info36 x HX.out.2.2) (cells_one x) ?_)
            | (with_reducible change wpList _ _ _ ({ dst := some 45, op := _, type := _, pos := _, after := _, guard := _ } :: _) _ _
               refine wpList_load_mid rfl 34 (.tmp 44) rfl wr.heap.size 0 rfl (U x.name) _ (cells_name wr x) Try.underlying34 rfl (info34 x.name HX.out.2.2) ?_)
            | (with_reducible change wpList _ _ _ ({ dst := some 46, op := _, type := _, pos := _, after := _, guard := _ } :: _) _ _
               refine wpList_nlook rfl (.tmp 43) (.tmp 45) rfl bm ns x.name k rfl rfl HNM.out HX.out.2.2 HK.out.2.1 ?_)
            | (with_reducible change wpList _ _ _ ({ dst := some 47, op := _, type := _, pos := _, after := _, guard := _ } :: _) _ _
               refine Hid.out ?_)
            | fail)
          show wpList _ _ _ _ _ _
          have hcd := cells_dep wr x HX.out.2.2
          have hgs : Blk (wr.alloc (.cells x.cells.toArray 36)) gs 58 [.slice an nn cc, .slice (some ⟨ga, 0, none⟩) nn nn, .slice (some ⟨gw, 0, none⟩) nn nn] := Blk.alloc (w := wr) ((HB.out.2.2.1.2 gs HNE.out.2.2.2.2.2.1 HNE.out.1 HNE.out.2.1).trans HF.out.2.1) _
          have hcs2 := hgs.cell (i := 2) rfl
          clear hgs
          obtain ⟨bi, hbi⟩ : ∃ bi, wr.heap.size = bi := ⟨_, rfl⟩
          obtain ⟨V1, hV⟩ : ∃ V1, wr.alloc (.cells x.cells.toArray 36) = V1 := ⟨_, rfl⟩
          have hbV : Below wr.heap.size wr V1 := by rw [← hV]; exact below_new wr _
          have HV1 : Hid (Below w.heap.size w V1 ∧ Fr WB.heap.size WB V1 ga gw ∧ Blk V1 gw 3 (IV (webW ns (l.take i))) ∧ (∃ L, AbM V1 WB.heap.size ga L (webA ns (l.take i))) ∧ WB.heap.size ≤ bi ∧ bi < V1.heap.size) := by
            obtain ⟨c1, c2, c3, c4, L, c5⟩ := HB.out
            refine ⟨c2.trans (hbV.mono c2.size), c3.below hbV, c4.below hbV c4.lt, ⟨L, c5.below hbV⟩, by rw [← hbi]; exact c3.1, by rw [← hbi, ← hV]; simp⟩
          rw [hbi, hV] at hcd
          rw [hV] at hcs2
          rw [hV, hbi]
          clear hV hbV hbi HRA HNM
          go_wp2_with (first
            | (with_reducible change wpList _ _ _ ({ dst := none, op := Op.store 3 _ _, type := _, pos := _, after := _, guard := _ } :: _) _ _
               refine Hid.out ?_)
            | fail)
          show wpList _ _ _ _ _ _
          refine wpList_storeI rfl (.tmp 53) (.tmp 52) rfl gw k x.n (webW ns (l.take i)) rfl rfl HV1.out.2.2.1 (by rw [webW_length, HNS.out.1]; exact HK.out.2.2) ?_
          intro V2 r1 r2
          have hcd2 : V2.cell? ⟨bi, 32, none⟩ = some (.slice x.a x.n x.c) := by
            rw [← hcd]
            exact cell_same (r2.block bi HV1.out.2.2.2.2.2 (by have h1 := HV1.out.2.2.2.2.1; have h2 := HNE.out.2.2.2.2.2.2.2.1; simp only [ne_eq, Option.some.injEq]; omega)) _
          have HV2 : Hid (Below w.heap.size w V2 ∧ Fr WB.heap.size WB V2 ga gw ∧ Blk V2 gw 3 (IV ((webW ns (l.take i)).set k x.n)) ∧ ∃ L, AbM V2 WB.heap.size ga L (webA ns (l.take i))) := by
            obtain ⟨c1, c2, c3, ⟨L, c4⟩, c5⟩ := HV1.out
            exact ⟨below_grownBy c1 r2 (Nat.le_of_lt HF.out.2.2.2.2.2.2) (Nat.le_refl _), c2.grown r2 (fun g e => by simp only [Option.some.injEq] at e; exact .inr (.inl e.symm)), r1, L, c4.wrote r2 (fun e => HNE.out.2.2.1 e.symm) HNE.out.2.2.2.2.2.2.2.1⟩
          clear hcd hcs2 r1 r2
          go_wp2
          clear hcd2
          obtain ⟨W1, hW1⟩ : ∃ W1, W1 = wr := ⟨_, rfl⟩
          subst hW1
          have q2 : (x.n : Int) ≤ 100000 := by have := HXN.out; omega
          go_loopw [57] (fun u wr => ∃ j : Nat, u = .int .i64 (j : Int) ∧ Hid (j ≤ x.n ∧ Below w.heap.size w wr ∧ Fr WB.heap.size WB wr ga gw ∧ Blk wr gw 3 (IV ((webW ns (l.take i)).set k x.n)) ∧ ∃ L, AbM wr WB.heap.size ga L (aboveI ns k (webA ns (l.take i)) (x.deps.take j)))) (fun u _ => x.n - (intOf u).toNat)
          case atStart => exact ⟨0, rfl, ⟨Nat.zero_le _, HV2.out⟩⟩
          case round =>
            obtain ⟨j, rfl, HJ⟩ := hrel
            by_cases hj : j < x.n
            · obtain ⟨d, hd⟩ : ∃ d, x.deps[j]? = some d := ⟨_, List.getElem?_eq_getElem (by rw [HDW.out.1]; exact hj)⟩
              obtain ⟨g2, off2, hxa, hg2, hel2⟩ := HDW.out.2.2 (by omega)
              have HD : Hid (j < x.n ∧ x.deps[j]? = some d ∧ d.length = 32 ∧ wr.rangeAt g2 (off2 + j * 32) (U d)) := ⟨hj, hd, HDW.out.2.1 d (List.mem_of_getElem? hd), rangeAt_same (hel2 j d hd) (HJ.out.2.1.block g2 hg2)⟩
              have q3 : (j : Int) < (x.n : Int) := by omega
              clear hj hd hel2
              rw [hxa]
              go_wp2_with (first
                | (with_reducible change wpList _ _ _ ({ dst := some 60, op := _, type := _, pos := _, after := _, guard := _ } :: _) _ _
                   refine wpList_load_mid rfl 34 (.tmp 59) rfl g2 (off2 + j * 32) rfl (U d) _ HD.out.2.2.2 Try.underlying34 rfl (info34 d HD.out.2.2.1) ?_)
                | (with_reducible change wpList _ _ _ ({ dst := none, op := Op.store 34 _ _, type := _, pos := _, after := _, guard := _ } :: _) _ _
                   refine wpList_store_fresh rfl 34 (.tmp 11) (.tmp 60) rfl Y (U d) 34 rfl rfl (by rw [U_length, HD.out.2.2.1, HZ.out.2]) (info34 d HD.out.2.2.1) (U_one d) ?_)
                | fail)
              obtain ⟨hb, hhb⟩ : ∃ hb, wr.heap.size = hb := ⟨_, rfl⟩
              obtain ⟨A2, hA2⟩ : ∃ A2, wr.alloc (.cells (U d).toArray 34) = A2 := ⟨_, rfl⟩
              obtain ⟨kd, hkd⟩ : ∃ kd, numOf ns d = kd := ⟨_, rfl⟩
              have hkk : ns[kd]? = some d := by
                rw [← hkd]
                exact numOf_at ((HNS.out.2.2.1 _).2 (HC.out.2 x (List.mem_of_getElem? HX.out.2.1) d (List.mem_of_getElem? HD.out.2.1)))
              have hkn : kd < nn := by have := (List.getElem?_eq_some_iff.1 hkk).1; rw [HNS.out.1] at this; exact this
              obtain ⟨L, hAb⟩ := HJ.out.2.2.2.2
              have hbA : Below wr.heap.size wr A2 := by rw [← hA2]; exact below_new wr _
              have hAb2 : AbM A2 WB.heap.size ga L (aboveI ns k (webA ns (l.take i)) (x.deps.take j)) := hAb.below hbA
              have hlen : L.length = nn := by rw [hAb.len, aboveI_length, webA_length, HNS.out.1]
              obtain ⟨v, hv⟩ : ∃ v, L[kd]? = some v := ⟨_, List.getElem?_eq_getElem (by rw [hlen]; exact hkn)⟩
              obtain ⟨xs, hxs⟩ := hAb.partner hv
              have hrow := hAb.rows kd v xs hv hxs
              have hBs := HJ.out.2.2.1.1
              have hgs2 : Blk A2 gs 58 [.slice an nn cc, .slice (some ⟨ga, 0, none⟩) nn nn, .slice (some ⟨gw, 0, none⟩) nn nn] := (hbA.block gs (by have := HNE.out.2.2.2.2.2.1; omega)).trans ((HJ.out.2.2.1.2 gs HNE.out.2.2.2.2.2.1 HNE.out.1 HNE.out.2.1).trans HF.out.2.1)
              have hnm2 : NM A2 bm ns := HWB.out.2.same ((hbA.block bm (by have := HNE.out.2.2.2.2.2.2.2.2; omega)).trans (HJ.out.2.2.1.2 bm HNE.out.2.2.2.2.2.2.2.2 HNE.out.2.2.2.1 HNE.out.2.2.2.2.1))
              have hrg2 : A2.rangeAt hb 0 (U d) := by rw [← hA2, ← hhb]; exact new34 wr d
              have hsz : A2.heap.size = hb + 1 := by rw [← hA2, ← hhb]; simp
              have hxl : xs.length ≤ 1000000 := by
                have h1 := aboveI_bound ns k (x.deps.take j) (webA ns (l.take i)) (webA_bound ns (l.take i)) xs (List.mem_of_getElem? hxs)
                have h2 := many_le l i
                have h3 := HA.out.2.2
                have h4 := HXN.out
                have h5 := HDW.out.1
                rw [List.length_take] at h1
                omega
              have hne1 : some gs ≠ v.ownBlock := fun e => by have := (hrow.lt gs e.symm).1; have := HNE.out.2.2.2.2.2.1; omega
              have hne2 : some hb ≠ v.ownBlock := fun e => by have := (hrow.lt hb e.symm).2; omega
              have hne3 : some bm ≠ v.ownBlock := fun e => by have := (hrow.lt bm e.symm).1; have := HNE.out.2.2.2.2.2.2.2.2; omega
              have hne4 : some ga ≠ v.ownBlock := fun e => by have := (hrow.lt ga e.symm).1; have := HNE.out.2.2.2.2.2.2.1; omega
              have hne5 : some gw ≠ v.ownBlock := fun e => by have := (hrow.lt gw e.symm).1; have := HNE.out.2.2.2.2.2.2.2.1; omega
              have t1 : gs < A2.drew.heap.size := by show gs < A2.heap.size; have := HNE.out.2.2.2.2.2.1; omega
              have t2 : hb < A2.drew.heap.size := by show hb < A2.heap.size; omega
              have t3 : bm < A2.drew.heap.size := by show bm < A2.heap.size; have := HNE.out.2.2.2.2.2.2.2.2; omega
              have hgB := HNE.out.2.2.2.2.2.2.1
              rw [hA2, hhb]
              refine web_region16 (gs := gs) (ga := ga) (n := nn) (bm := bm) (k := kd) (m := k) (hb := hb) (B := WB.heap.size) (d := d) (v := v) (xs := xs) (L := L) HD.out.2.2.1 (by omega) hv hAb2.blk (hAb2.rows kd v xs hv hxs) hxl (show WB.heap.size ≤ A2.heap.size by omega) ?_ ?_ HA.out.2.1 ?_ ?_
              · exact s3_same hgs2 hrg2 hnm2 HD.out.2.2.1 hkk (alloc_ne t1) (alloc_ne t2) (alloc_ne t3)
              · show ∀ w1, _ → _
                intro w1 hg
                have u1 : gs < (A2.drew.alloc (.cells #[.int .i64 (k : Int)] 3)).heap.size := Nat.lt_of_lt_of_le t1 (below_new A2.drew _).size
                have u2 : hb < (A2.drew.alloc (.cells #[.int .i64 (k : Int)] 3)).heap.size := Nat.lt_of_lt_of_le t2 (below_new A2.drew _).size
                have u3 : bm < (A2.drew.alloc (.cells #[.int .i64 (k : Int)] 3)).heap.size := Nat.lt_of_lt_of_le t3 (below_new A2.drew _).size
                have e1 : w1.heap[gs]? = A2.heap[gs]? := (hg.block gs u1 hne1).trans (alloc_ne t1)
                have e2 : w1.heap[hb]? = A2.heap[hb]? := (hg.block hb u2 hne2).trans (alloc_ne t2)
                have e3 : w1.heap[bm]? = A2.heap[bm]? := (hg.block bm u3 hne3).trans (alloc_ne t3)
                refine ⟨s3_same hgs2 hrg2 hnm2 HD.out.2.2.1 hkk e1 e2 e3, Blk.kept (Blk.alloc (w := A2.drew) hAb2.blk _) hg hne4, fun u => ?_⟩
                have hst := grown_setCell w1 ga kd u
                refine s3_same hgs2 hrg2 hnm2 HD.out.2.2.1 hkk ((hst.block gs (Nat.lt_of_lt_of_le u1 hg.size) (by have := HNE.out.1; simpa using this)).trans e1) ((hst.block hb (Nat.lt_of_lt_of_le u2 hg.size) ?_).trans e2) ((hst.block bm (Nat.lt_of_lt_of_le u3 hg.size) (by have := HNE.out.2.2.2.1; simpa using this)).trans e3)
                simp only [ne_eq, Option.some.injEq]; omega
              · exact s3_same hgs2 hrg2 hnm2 HD.out.2.2.1 hkk rfl rfl rfl
              show ∀ _, _
              intro p1 c1 w1 r1 r2 r3
              have hp := AbM.put hAb2 hv hxs hgB r1 r2 r3
              have hst := grown_setCell w1 ga kd (.slice p1 (xs.length + 1) c1)
              have hb5 : Below A2.heap.size A2 (A2.drew.alloc (.cells #[.int .i64 (k : Int)] 3)) := (below_drew A2).alloc (Nat.le_refl _) _
              have hwA : Below w.heap.size w A2 := HJ.out.2.1.trans (hbA.mono HJ.out.2.1.size)
              have hw5 : Below w.heap.size w (A2.drew.alloc (.cells #[.int .i64 (k : Int)] 3)) := hwA.trans (hb5.mono hwA.size)
              have hwB := HF.out.1.size
              have hw1 : Below w.heap.size w w1 := below_grown' hw5 r2 (fun g e => by have := (hrow.lt g e).1; omega) (Nat.le_refl _)
              have hF5 : Fr WB.heap.size WB (A2.drew.alloc (.cells #[.int .i64 (k : Int)] 3)) ga gw := (HJ.out.2.2.1.below hbA).below hb5
              have hF1 : Fr WB.heap.size WB w1 ga gw := hF5.grown r2 (fun g e => .inr (.inr (hrow.lt g e).1))
              have hW5 : Blk (A2.drew.alloc (.cells #[.int .i64 (k : Int)] 3)) gw 3 (IV ((webW ns (l.take i)).set k x.n)) := (HJ.out.2.2.2.1.below hbA HJ.out.2.2.2.1.lt).below hb5 (HJ.out.2.2.2.1.below hbA HJ.out.2.2.2.1.lt).lt
              obtain ⟨W9, hW9⟩ : ∃ W9, w1.setCell ⟨ga, kd, none⟩ (.slice p1 (xs.length + 1) c1) = W9 := ⟨_, rfl⟩
              have H9 : Hid (Below w.heap.size w W9 ∧ Fr WB.heap.size WB W9 ga gw ∧ Blk W9 gw 3 (IV ((webW ns (l.take i)).set k x.n)) ∧ AbM W9 WB.heap.size ga (L.set kd (.slice p1 (xs.length + 1) c1)) ((aboveI ns k (webA ns (l.take i)) (x.deps.take j)).set kd (xs ++ [k]))) := by
                rw [← hW9]
                exact ⟨below_grownBy hw1 hst (Nat.le_of_lt HF.out.2.2.2.2.2.1) (Nat.le_refl _), hF1.grown hst (fun g e => by simp only [Option.some.injEq] at e; exact .inl e.symm), (hW5.kept r2 hne5).kept hst (by have := HNE.out.2.2.1; simp only [ne_eq, Option.some.injEq]; exact fun e => this e.symm), hp⟩
              have HXS : Hid ((aboveI ns k (webA ns (l.take i)) (x.deps.take j))[kd]? = some xs ∧ numOf ns d = kd) := ⟨hxs, hkd⟩
              rw [hW9]
              clear hW9 hp hst hb5 hwA hw5 hwB hw1 hF5 hF1 hW5 r1 r2 r3 hgB t1 t2 t3 hne1 hne2 hne3 hne4 hne5 hxl hsz hrg2 hnm2 hgs2 hBs hrow hxs hv hlen hAb2 hbA hAb hkk hA2 hhb hkd
              go_wp2
              refine ⟨⟨j + 1, by simp, ⟨HD.out.1, H9.out.1, H9.out.2.1, H9.out.2.2.1, L.set kd (.slice p1 (xs.length + 1) c1), ?_⟩⟩, ?_⟩
              · rw [aboveI_take _ _ _ _ j d HD.out.2.1, HXS.out.2, getD_at HXS.out.1]; exact H9.out.2.2.2
              · have := HD.out.1; simp [intOf]; omega
            · have q3 : ¬ (j : Int) < (x.n : Int) := by omega
              go_wp2
              refine ⟨⟨i + 1, by simp, ⟨HX.out.1, HJ.out.2.1, HJ.out.2.2.1, ?_, ?_⟩⟩, ?_⟩
              · rw [webW_take ns l i x HX.out.2.1, HK.out.1, HDW.out.1]; exact HJ.out.2.2.2.1
              · obtain ⟨L, h⟩ := HJ.out.2.2.2.2
                rw [List.take_of_length_le (l := x.deps) (by rw [HDW.out.1]; omega)] at h
                exact ⟨L, by rw [webA_take ns l i x HX.out.2.1, HK.out.1]; exact h⟩
              · have := HX.out.1; simp [intOf]; omega
        · have q1 : ¬ (i : Int) < (nn : Int) := by omega
          have hgs : Blk wr gs 58 [.slice an nn cc, .slice (some ⟨ga, 0, none⟩) nn nn, .slice (some ⟨gw, 0, none⟩) nn nn] := (HB.out.2.2.1.2 gs HNE.out.2.2.2.2.2.1 HNE.out.1 HNE.out.2.1).trans HF.out.2.1
          have hgr : Blk wr w.heap.size 58 [.slice none 0 0, .slice none 0 0, .slice none 0 0] := (HB.out.2.2.1.2 w.heap.size HF.out.2.2.2.2.1.lt (by have := HF.out.2.2.2.2.2.1; omega) (by have := HF.out.2.2.2.2.2.2; omega)).trans HF.out.2.2.2.2.1
          have HG : Hid (wr.rangeAt gs 0 [.slice an nn cc, .slice (some ⟨ga, 0, none⟩) nn nn, .slice (some ⟨gw, 0, none⟩) nn nn] ∧ Blk wr w.heap.size 58 [.slice none 0 0, .slice none 0 0, .slice none 0 0]) := ⟨by simpa using hgs.range 0 3, hgr⟩
          have HFIN : Hid (∃ L, Blk wr gw 3 (IV (webW ns l)) ∧ AbM wr WB.heap.size ga L (webA ns l) ∧ HsR wr an nn ns) := by
            obtain ⟨c1, c2, c3, c4, L, c5⟩ := HB.out
            rw [List.take_of_length_le (by rw [HA.out.1.1]; omega)] at c4 c5
            refine ⟨L, c4, c5, ?_⟩
            have hro := H0'.out.2.1.1.below HWB.out.1
            by_cases hn0 : 0 < nn
            · obtain ⟨g, off, e, hg, _⟩ := hro.2.2 hn0
              have h1 := row_apart hro HF.out.2.2.1 (fun v hv k => by obtain rfl := List.eq_of_mem_replicate hv; simp) g off hn0 e
              have h2 := row_apart hro HF.out.2.2.2.1 (fun v hv k => by obtain rfl := List.eq_of_mem_replicate hv; simp) g off hn0 e
              refine hro.same c3.1 fun g' off' e' => ?_
              rw [e] at e'
              simp only [Option.some.injEq, Addr.mk.injEq] at e'
              obtain ⟨rfl, -⟩ := e'
              exact c3.2 _ hg h1.1 h2.1
            · have h0 : nn = 0 := by omega
              have h1 : ns = [] := List.eq_nil_of_length_eq_zero (by rw [HNS.out.1]; exact h0)
              subst h0 h1
              exact HsR.nil _ _
          clear hgs hgr hi
          go_wp2_with (first
            | (with_reducible change wpList _ _ _ ({ dst := some 79, op := _, type := _, pos := _, after := _, guard := _ } :: _) _ _
               refine wpList_load_mid rfl 58 (.tmp 3) rfl gs 0 rfl [.slice an nn cc, .slice (some ⟨ga, 0, none⟩) nn nn, .slice (some ⟨gw, 0, none⟩) nn nn] _ HG.out.1 Try.underlying58 rfl (by kernel_rfl) ?_)
            | (with_reducible change wpList _ _ _ ({ dst := none, op := Op.store 58 _ _, type := _, pos := _, after := _, guard := _ } :: _) _ _
               refine Hid.out ?_)
            | fail)
          show wpList _ _ _ _ _ _
          refine wpList_store_blk rfl 58 (.tmp 2) (.tmp 79) rfl w.heap.size 0 58 _ [.slice an nn cc, .slice (some ⟨ga, 0, none⟩) nn nn, .slice (some ⟨gw, 0, none⟩) nn nn] rfl rfl HG.out.2 (by simp) (by kernel_rfl) (by simp [Value.oneCell']) ?_
          intro V9 R1 R2
          go_wp2
          have hb9 : Blk V9 w.heap.size 58 [.slice an nn cc, .slice (some ⟨ga, 0, none⟩) nn nn, .slice (some ⟨gw, 0, none⟩) nn nn] := R1.out
          refine bodyPost_ret (results_cell_row (P := Try.prog) (p := 2) rfl _ V9 w.heap.size 58 _ (0, 0) _ rfl hb9 Try.underlying58 rfl (by kernel_rfl)) rfl ?_
          obtain ⟨L, c1, c2, c3⟩ := HFIN.out
          have hB0 := HF.out.1.size
          have hwr := HB.out.2.1
          have hwl : w.heap.size < WB.heap.size := HF.out.2.2.2.2.1.lt
          refine ⟨an, cc, ga, gw, ns, L, WB.heap.size, rfl, ⟨c3.kept HG.out.2 (by simp) R2.out, H0'.out.2.1.2.2.1, HNS.out.2.2.1, H0'.out.2.1.2.1⟩, ⟨c1.kept R2.out (by have := HF.out.2.2.2.2.2.2; simp only [ne_eq, Option.some.injEq]; omega), c2.wrote R2.out (by have := HF.out.2.2.2.2.2.1; omega) hwl, by have := HF.out.2.2.2.2.2.1; omega, by have := HF.out.2.2.2.2.2.2; omega, HNE.out.2.2.2.2.2.2.2.1, HNE.out.2.2.2.2.2.2.1, Nat.le_trans HB.out.2.2.1.1 R2.out.size⟩, below_grownBy hwr R2.out (Nat.le_refl _) (Nat.le_refl _)⟩
end Go.Proofs.Ytijkpkcopjkhkaa.Oct
