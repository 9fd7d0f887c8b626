/-
  Layer 12 (deps): webOf's first region, whatever its order: a fact for each state of it.
-/
import Derived.Test.YtijkpkcopjkhkaaWebBase
namespace Go.Proofs.Ytijkpkcopjkhkaa.Oct
open Go.RowKit
set_option linter.unusedSimpArgs false
set_option linter.unusedVariables false

def RowF (W : World) (ks : List Hs) (an : Option Addr) (nn cc : Nat) (rs : List Hs) : Prop := HsR W an nn rs ∧ nn ≤ cc ∧ rs.Pairwise LtH ∧ ∀ x, x ∈ rs ↔ x ∈ ks
def NewA (A W : World) (len ga : Nat) : Prop := Blk W ga 56 (List.replicate len (.slice none 0 0)) ∧ A.heap.size ≤ ga
def NewW (A W : World) (len gw : Nat) : Prop := Blk W gw 3 (List.replicate len (.int .i64 0)) ∧ A.heap.size ≤ gw
def NewS (A W : World) (gs : Nat) : Prop := Blk W gs 58 [.slice none 0 0, .slice none 0 0, .slice none 0 0] ∧ A.heap.size ≤ gs
def Web0 (A W : World) (ks : List Hs) (len : Nat) (an : Option Addr) (nn cc : Nat) (rs : List Hs) (ga gw gs : Nat) : Prop :=
  Below A.heap.size A W ∧ RowF W ks an nn cc rs ∧ NewA A W len ga ∧ NewW A W len gw ∧ Blk W gs 58 [.slice an nn cc, .slice (some ⟨ga, 0, none⟩) len len, .slice (some ⟨gw, 0, none⟩) len len] ∧ A.heap.size ≤ gs
def MapF (W : World) (bm : Nat) (ks : List Hs) : Prop := SM W bm ks
theorem MapF.below {W V : World} {bm : Nat} {ks : List Hs} (h : MapF W bm ks) (hb : Below W.heap.size W V) : MapF V bm ks := SM.below h hb (SM.lt h)
theorem RowF.below {W V : World} {ks : List Hs} {an : Option Addr} {nn cc : Nat} {rs : List Hs} (h : RowF W ks an nn cc rs) (hb : Below W.heap.size W V) : RowF V ks an nn cc rs := ⟨h.1.below hb, h.2⟩
theorem NewA.below {A W V : World} {len ga : Nat} (h : NewA A W len ga) (hb : Below W.heap.size W V) : NewA A V len ga := ⟨h.1.below hb h.1.lt, h.2⟩
theorem NewW.below {A W V : World} {len ga : Nat} (h : NewW A W len ga) (hb : Below W.heap.size W V) : NewW A V len ga := ⟨h.1.below hb h.1.lt, h.2⟩
theorem NewS.below {A W V : World} {ga : Nat} (h : NewS A W ga) (hb : Below W.heap.size W V) : NewS A V ga := ⟨h.1.below hb h.1.lt, h.2⟩
theorem below_new (W : World) (o : Obj) : Below W.heap.size W (W.alloc o) := (Below.refl _ W).alloc (Nat.le_refl _) o
/-- a row of hashes lies in no block without a byte -/
theorem HsR.kept {W V : World} {an : Option Addr} {nn : Nat} {rs : List Hs} (h : HsR W an nn rs) {b : Nat} {t : TypeId} {L : List Value} (hb : Blk W b t L) (hL : ∀ v ∈ L, ∀ k, v ≠ .int .u8 k) (hg : W.grownBy V (some b)) : HsR V an nn rs := by
  by_cases hn : 0 < nn
  · obtain ⟨g, off, rfl, hgl, hel⟩ := h.2.2 hn
    have hne : g ≠ b := by
      intro e
      subst e
      obtain ⟨x, hx⟩ : ∃ x, rs[0]? = some x := ⟨_, List.getElem?_eq_getElem (by rw [h.1]; exact hn)⟩
      have hl := h.2.1 x (List.mem_of_getElem? hx)
      have h0 := hel 0 x hx 0 (.int .u8 (x[0].toNat : Int)) (by simpa using U_get x 0 (by omega))
      rw [cell_of_row W g _ _ t (0, 0) hb] at h0
      simp only [List.getElem?_toArray] at h0
      exact hL _ (List.mem_of_getElem? h0) _ rfl
    refine h.same hg.size fun g' off' e => ?_
    simp only [Option.some.injEq, Addr.mk.injEq] at e
    obtain ⟨rfl, -⟩ := e
    exact hg.block _ hgl (by simpa using hne)
  · obtain rfl : nn = 0 := by omega
    obtain rfl : rs = [] := List.eq_nil_of_length_eq_zero h.1
    exact HsR.nil _ _

def QN (Q : Exit → Act → World → Prop) : Exit → Act → World → Prop := fun x a w => match x with | .normal => Q .normal a w | _ => False
def webOps : Array Oper := #[{ dst := some 12, op := Op.move (Operand.tmp 0), type := 22, pos := "order.go:34", after := #[], guard := none }, { dst := some 13, op := Op.call { callee := Callee.value (Operand.func 24), args := #[Operand.tmp 12], argTypes := #[22] }, type := 43, pos := "order.go:34", after := #[{ on := 0, ground := Ground.data }], guard := none }, { dst := some 14, op := Op.call { callee := Callee.value (Operand.func 33), args := #[Operand.tmp 13], argTypes := #[43] }, type := 26, pos := "order.go:34", after := #[{ on := 1, ground := Ground.data }, { on := 1, ground := Ground.chain }], guard := none }, { dst := some 15, op := Op.move (Operand.tmp 0), type := 22, pos := "order.go:34", after := #[], guard := none }, { dst := some 16, op := Op.call { callee := Callee.builtin Builtin.len, args := #[Operand.tmp 15], argTypes := #[22] }, type := 3, pos := "order.go:34", after := #[{ on := 3, ground := Ground.data }], guard := none }, { dst := some 17, op := Op.makeSlice 55 (Operand.tmp 16) (Operand.tmp 16), type := 55, pos := "order.go:34", after := #[{ on := 4, ground := Ground.data }, { on := 4, ground := Ground.data }], guard := none }, { dst := some 18, op := Op.move (Operand.tmp 0), type := 22, pos := "order.go:34", after := #[], guard := none }, { dst := some 19, op := Op.call { callee := Callee.builtin Builtin.len, args := #[Operand.tmp 18], argTypes := #[22] }, type := 3, pos := "order.go:34", after := #[{ on := 6, ground := Ground.data }], guard := none }, { dst := some 20, op := Op.makeSlice 56 (Operand.tmp 19) (Operand.tmp 19), type := 56, pos := "order.go:34", after := #[{ on := 7, ground := Ground.data }, { on := 7, ground := Ground.data }], guard := none }, { dst := some 21, op := Op.build 58 #[(0, Operand.tmp 14), (1, Operand.tmp 17), (2, Operand.tmp 20)], type := 58, pos := "order.go:34", after := #[{ on := 2, ground := Ground.data }, { on := 5, ground := Ground.data }, { on := 8, ground := Ground.data }], guard := none }, { dst := some 3, op := Op.alloc 58, type := 0, pos := "order.go:34", after := #[], guard := none }, { dst := none, op := Op.store 58 (Operand.tmp 3) (Operand.tmp 21), type := 0, pos := "order.go:34", after := #[{ on := 10, ground := Ground.data }, { on := 9, ground := Ground.data }, { on := 2, ground := Ground.chain }, { on := 0, ground := Ground.phase }, { on := 1, ground := Ground.phase }, { on := 2, ground := Ground.phase }, { on := 3, ground := Ground.phase }, { on := 4, ground := Ground.phase }, { on := 5, ground := Ground.phase }, { on := 6, ground := Ground.phase }, { on := 7, ground := Ground.phase }, { on := 8, ground := Ground.phase }, { on := 9, ground := Ground.phase }, { on := 10, ground := Ground.phase }], guard := none }]
set_option maxRecDepth 100000 in
set_option maxHeartbeats 2000000 in
theorem web1_fin {Q : Exit → Act → World → Prop} {ds : List Deferred} {A W : World} {len cap : Nat} {ad : Option Addr} {ks : List Hs} {bm : Nat} {an : Option Addr} {nn cc : Nat} {rs : List Hs} {ga : Nat} {gw : Nat} {gs : Nat} {x1 x2 x4 x5 x6 x7 x8 x9 x10 x11 x22 x23 x24 x25 x26 x27 x28 x29 x30 x31 x32 x33 x34 x35 x36 x37 x38 x39 x40 x41 x42 x43 x44 x45 x46 x47 x48 x49 x50 x51 x52 x53 x54 x55 x56 x57 x58 x59 x60 x61 x62 x63 x64 x65 x66 x67 x68 x69 x70 x71 x72 x73 x74 x75 x76 x77 x78 x79 : Value} (hn : Hid (len ≤ 100000)) (h24 : Hid (∀ V, Below A.heap.size A V → Calls Try.prog 24 #[.slice ad len cap] V (NamesP V ks))) (h33 : Hid (∀ V b, SM V b ks → Calls Try.prog 33 #[.map (some b)] V (RiseP V ks))) (hb : Hid (Below A.heap.size A W)) (hc : Hid (RowF W ks an nn cc rs)) (ha : Hid (NewA A W len ga)) (hw : Hid (NewW A W len gw)) (hs : Hid (NewS A W gs))
    (hQ : Hid (∀ (bm : Nat) (an : Option Addr) (nn cc : Nat) (rs : List Hs) (ga gw gs : Nat) (V : World), Web0 A V ks len an nn cc rs ga gw gs → Q .normal { tmps := #[.slice ad len cap, x1, x2, .pointer (some ⟨gs, 0, none⟩), x4, x5, x6, x7, x8, x9, x10, x11, .slice ad len cap, .map (some bm), .slice an nn cc, .slice ad len cap, .int .i64 (len : Int), .slice (some ⟨ga, 0, none⟩) len len, .slice ad len cap, .int .i64 (len : Int), .slice (some ⟨gw, 0, none⟩) len len, .agg #[.slice an nn cc, .slice (some ⟨ga, 0, none⟩) len len, .slice (some ⟨gw, 0, none⟩) len len], x22, x23, x24, x25, x26, x27, x28, x29, x30, x31, x32, x33, x34, x35, x36, x37, x38, x39, x40, x41, x42, x43, x44, x45, x46, x47, x48, x49, x50, x51, x52, x53, x54, x55, x56, x57, x58, x59, x60, x61, x62, x63, x64, x65, x66, x67, x68, x69, x70, x71, x72, x73, x74, x75, x76, x77, x78, x79], defers := ds } V)) :
    wpAnyH Try.prog .any webOps (QN Q) (fun _ => True) 1 #[true, true, true, true, true, true, true, true, true, true, true, false] { tmps := #[.slice ad len cap, x1, x2, .pointer (some ⟨gs, 0, none⟩), x4, x5, x6, x7, x8, x9, x10, x11, .slice ad len cap, .map (some bm), .slice an nn cc, .slice ad len cap, .int .i64 (len : Int), .slice (some ⟨ga, 0, none⟩) len len, .slice ad len cap, .int .i64 (len : Int), .slice (some ⟨gw, 0, none⟩) len len, .agg #[.slice an nn cc, .slice (some ⟨ga, 0, none⟩) len len, .slice (some ⟨gw, 0, none⟩) len len], x22, x23, x24, x25, x26, x27, x28, x29, x30, x31, x32, x33, x34, x35, x36, x37, x38, x39, x40, x41, x42, x43, x44, x45, x46, x47, x48, x49, x50, x51, x52, x53, x54, x55, x56, x57, x58, x59, x60, x61, x62, x63, x64, x65, x66, x67, x68, x69, x70, x71, x72, x73, x74, x75, x76, x77, x78, x79], defers := ds } W := by
  refine wpAnyH_ready (rs := [11]) (by kernel_rfl) (by simp) (AllReadyH.cons (i := 11) (o := { dst := none, op := Op.store 58 (Operand.tmp 3) (Operand.tmp 21), type := 0, pos := "order.go:34", after := #[{ on := 10, ground := Ground.data }, { on := 9, ground := Ground.data }, { on := 2, ground := Ground.chain }, { on := 0, ground := Ground.phase }, { on := 1, ground := Ground.phase }, { on := 2, ground := Ground.phase }, { on := 3, ground := Ground.phase }, { on := 4, ground := Ground.phase }, { on := 5, ground := Ground.phase }, { on := 6, ground := Ground.phase }, { on := 7, ground := Ground.phase }, { on := 8, ground := Ground.phase }, { on := 9, ground := Ground.phase }, { on := 10, ground := Ground.phase }], guard := none }) rfl ?_ AllReadyH.nil)
  intro K1 hK1
  rw [if_pos (by rfl)]
  have hbs := hs.out.1
  refine wp_store_mid 58 (.tmp 3) (.tmp 21) rfl gs 0 #[.slice an nn cc, .slice (some ⟨ga, 0, none⟩) len len, .slice (some ⟨gw, 0, none⟩) len len] rfl rfl (by simpa using hbs.there 0 3 (by simp)) (by kernel_rfl) (by simp [Value.oneCell']) ?_
  have e := Blk.setCells [.slice an nn cc, .slice (some ⟨ga, 0, none⟩) len len, .slice (some ⟨gw, 0, none⟩) len len] 0 W _ hbs (by simp)
  refine hK1.out _ _ trivial ?_
  intro _
  refine wpAnyH_done (by kernel_rfl) ?_ _
  refine hQ.out bm an nn cc rs ga gw gs _ ⟨below_grownBy hb.out e.2 hs.out.2 (Nat.le_refl _), ⟨hc.out.1.kept hbs (by simp) e.2, hc.out.2⟩, ⟨ha.out.1.kept e.2 ?_, ha.out.2⟩, ⟨hw.out.1.kept e.2 ?_, hw.out.2⟩, by simpa using e.1, hs.out.2⟩
  · intro e1; simp only [Option.some.injEq] at e1; subst e1
    have := ha.out.1.symm.trans hbs
    simp at this
  · intro e1; simp only [Option.some.injEq] at e1; subst e1
    have := hw.out.1.symm.trans hbs
    simp at this
set_option maxRecDepth 100000 in
set_option maxHeartbeats 2000000 in
theorem web1_2111 {Q : Exit → Act → World → Prop} {ds : List Deferred} {A W : World} {len cap : Nat} {ad : Option Addr} {ks : List Hs} {bm : Nat} {an : Option Addr} {nn cc : Nat} {rs : List Hs} {ga : Nat} {gw : Nat} {gs : Nat} {x1 x2 x4 x5 x6 x7 x8 x9 x10 x11 x21 x22 x23 x24 x25 x26 x27 x28 x29 x30 x31 x32 x33 x34 x35 x36 x37 x38 x39 x40 x41 x42 x43 x44 x45 x46 x47 x48 x49 x50 x51 x52 x53 x54 x55 x56 x57 x58 x59 x60 x61 x62 x63 x64 x65 x66 x67 x68 x69 x70 x71 x72 x73 x74 x75 x76 x77 x78 x79 : Value} (hn : Hid (len ≤ 100000)) (h24 : Hid (∀ V, Below A.heap.size A V → Calls Try.prog 24 #[.slice ad len cap] V (NamesP V ks))) (h33 : Hid (∀ V b, SM V b ks → Calls Try.prog 33 #[.map (some b)] V (RiseP V ks))) (hb : Hid (Below A.heap.size A W)) (hc : Hid (RowF W ks an nn cc rs)) (ha : Hid (NewA A W len ga)) (hw : Hid (NewW A W len gw)) (hs : Hid (NewS A W gs))
    (hQ : Hid (∀ (bm : Nat) (an : Option Addr) (nn cc : Nat) (rs : List Hs) (ga gw gs : Nat) (V : World), Web0 A V ks len an nn cc rs ga gw gs → Q .normal { tmps := #[.slice ad len cap, x1, x2, .pointer (some ⟨gs, 0, none⟩), x4, x5, x6, x7, x8, x9, x10, x11, .slice ad len cap, .map (some bm), .slice an nn cc, .slice ad len cap, .int .i64 (len : Int), .slice (some ⟨ga, 0, none⟩) len len, .slice ad len cap, .int .i64 (len : Int), .slice (some ⟨gw, 0, none⟩) len len, .agg #[.slice an nn cc, .slice (some ⟨ga, 0, none⟩) len len, .slice (some ⟨gw, 0, none⟩) len len], x22, x23, x24, x25, x26, x27, x28, x29, x30, x31, x32, x33, x34, x35, x36, x37, x38, x39, x40, x41, x42, x43, x44, x45, x46, x47, x48, x49, x50, x51, x52, x53, x54, x55, x56, x57, x58, x59, x60, x61, x62, x63, x64, x65, x66, x67, x68, x69, x70, x71, x72, x73, x74, x75, x76, x77, x78, x79], defers := ds } V)) :
    wpAnyH Try.prog .any webOps (QN Q) (fun _ => True) 2 #[true, true, true, true, true, true, true, true, true, false, true, false] { tmps := #[.slice ad len cap, x1, x2, .pointer (some ⟨gs, 0, none⟩), x4, x5, x6, x7, x8, x9, x10, x11, .slice ad len cap, .map (some bm), .slice an nn cc, .slice ad len cap, .int .i64 (len : Int), .slice (some ⟨ga, 0, none⟩) len len, .slice ad len cap, .int .i64 (len : Int), .slice (some ⟨gw, 0, none⟩) len len, x21, x22, x23, x24, x25, x26, x27, x28, x29, x30, x31, x32, x33, x34, x35, x36, x37, x38, x39, x40, x41, x42, x43, x44, x45, x46, x47, x48, x49, x50, x51, x52, x53, x54, x55, x56, x57, x58, x59, x60, x61, x62, x63, x64, x65, x66, x67, x68, x69, x70, x71, x72, x73, x74, x75, x76, x77, x78, x79], defers := ds } W := by
  refine wpAnyH_take (i := 9) (oi := { dst := some 21, op := Op.build 58 #[(0, Operand.tmp 14), (1, Operand.tmp 17), (2, Operand.tmp 20)], type := 58, pos := "order.go:34", after := #[{ on := 2, ground := Ground.data }, { on := 5, ground := Ground.data }, { on := 8, ground := Ground.data }], guard := none }) (v := .agg #[.slice an nn cc, .slice (some ⟨ga, 0, none⟩) len len, .slice (some ⟨gw, 0, none⟩) len len]) rfl (by kernel_rfl) (by kernel_rfl) (by kernel_rfl) (fun _ _ _ h => (show False from h).elim) (Or.inl ⟨by rfl, ?y9⟩) trivial ?_
  case y9 =>
    intro V hV
    go_simp
  simp only [Act.put, List.setIfInBounds_toArray, List.set_cons_zero, List.set_cons_succ]
  exact web1_fin hn h24 h33 hb hc ha hw hs hQ
set_option maxRecDepth 100000 in
set_option maxHeartbeats 2000000 in
theorem web1_1111 {Q : Exit → Act → World → Prop} {ds : List Deferred} {A W : World} {len cap : Nat} {ad : Option Addr} {ks : List Hs} {bm : Nat} {ga : Nat} {gw : Nat} {gs : Nat} {x1 x2 x4 x5 x6 x7 x8 x9 x10 x11 x14 x21 x22 x23 x24 x25 x26 x27 x28 x29 x30 x31 x32 x33 x34 x35 x36 x37 x38 x39 x40 x41 x42 x43 x44 x45 x46 x47 x48 x49 x50 x51 x52 x53 x54 x55 x56 x57 x58 x59 x60 x61 x62 x63 x64 x65 x66 x67 x68 x69 x70 x71 x72 x73 x74 x75 x76 x77 x78 x79 : Value} (hn : Hid (len ≤ 100000)) (h24 : Hid (∀ V, Below A.heap.size A V → Calls Try.prog 24 #[.slice ad len cap] V (NamesP V ks))) (h33 : Hid (∀ V b, SM V b ks → Calls Try.prog 33 #[.map (some b)] V (RiseP V ks))) (hb : Hid (Below A.heap.size A W)) (hc : Hid (MapF W bm ks)) (ha : Hid (NewA A W len ga)) (hw : Hid (NewW A W len gw)) (hs : Hid (NewS A W gs))
    (hQ : Hid (∀ (bm : Nat) (an : Option Addr) (nn cc : Nat) (rs : List Hs) (ga gw gs : Nat) (V : World), Web0 A V ks len an nn cc rs ga gw gs → Q .normal { tmps := #[.slice ad len cap, x1, x2, .pointer (some ⟨gs, 0, none⟩), x4, x5, x6, x7, x8, x9, x10, x11, .slice ad len cap, .map (some bm), .slice an nn cc, .slice ad len cap, .int .i64 (len : Int), .slice (some ⟨ga, 0, none⟩) len len, .slice ad len cap, .int .i64 (len : Int), .slice (some ⟨gw, 0, none⟩) len len, .agg #[.slice an nn cc, .slice (some ⟨ga, 0, none⟩) len len, .slice (some ⟨gw, 0, none⟩) len len], x22, x23, x24, x25, x26, x27, x28, x29, x30, x31, x32, x33, x34, x35, x36, x37, x38, x39, x40, x41, x42, x43, x44, x45, x46, x47, x48, x49, x50, x51, x52, x53, x54, x55, x56, x57, x58, x59, x60, x61, x62, x63, x64, x65, x66, x67, x68, x69, x70, x71, x72, x73, x74, x75, x76, x77, x78, x79], defers := ds } V)) :
    wpAnyH Try.prog .any webOps (QN Q) (fun _ => True) 3 #[true, true, false, true, true, true, true, true, true, false, true, false] { tmps := #[.slice ad len cap, x1, x2, .pointer (some ⟨gs, 0, none⟩), x4, x5, x6, x7, x8, x9, x10, x11, .slice ad len cap, .map (some bm), x14, .slice ad len cap, .int .i64 (len : Int), .slice (some ⟨ga, 0, none⟩) len len, .slice ad len cap, .int .i64 (len : Int), .slice (some ⟨gw, 0, none⟩) len len, x21, x22, x23, x24, x25, x26, x27, x28, x29, x30, x31, x32, x33, x34, x35, x36, x37, x38, x39, x40, x41, x42, x43, x44, x45, x46, x47, x48, x49, x50, x51, x52, x53, x54, x55, x56, x57, x58, x59, x60, x61, x62, x63, x64, x65, x66, x67, x68, x69, x70, x71, x72, x73, x74, x75, x76, x77, x78, x79], defers := ds } W := by
  refine wpAnyH_ready (rs := [2]) (by kernel_rfl) (by simp) ?_
  refine AllReadyH.cons (i := 2) (o := { dst := some 14, op := Op.call { callee := Callee.value (Operand.func 33), args := #[Operand.tmp 13], argTypes := #[43] }, type := 26, pos := "order.go:34", after := #[{ on := 1, ground := Ground.data }, { on := 1, ground := Ground.chain }], guard := none }) rfl ?_ AllReadyH.nil
  · intro K1 hK1
    rw [if_pos (by rfl)]
    have H := h33.out W bm hc.out
    go_wp2_with fail
    refine H.mono ?_
    rintro e w1 ⟨an, nn, cc, rs, rfl, H1, HB1⟩
    dsimp only
    refine hK1.out _ _ trivial ?_
    intro _
    try simp only [Act.put, List.setIfInBounds_toArray, List.set_cons_zero, List.set_cons_succ]
    exact web1_2111 (bm := bm) (an := an) (nn := nn) (cc := cc) (rs := rs) hn h24 h33 (hb.out.trans (HB1.out.mono hb.out.size)) H1.out (ha.out.below HB1.out) (hw.out.below HB1.out) (hs.out.below HB1.out) hQ
set_option maxRecDepth 100000 in
set_option maxHeartbeats 2000000 in
theorem web1_2011 {Q : Exit → Act → World → Prop} {ds : List Deferred} {A W : World} {len cap : Nat} {ad : Option Addr} {ks : List Hs} {bm : Nat} {an : Option Addr} {nn cc : Nat} {rs : List Hs} {gw : Nat} {gs : Nat} {x1 x2 x4 x5 x6 x7 x8 x9 x10 x11 x17 x21 x22 x23 x24 x25 x26 x27 x28 x29 x30 x31 x32 x33 x34 x35 x36 x37 x38 x39 x40 x41 x42 x43 x44 x45 x46 x47 x48 x49 x50 x51 x52 x53 x54 x55 x56 x57 x58 x59 x60 x61 x62 x63 x64 x65 x66 x67 x68 x69 x70 x71 x72 x73 x74 x75 x76 x77 x78 x79 : Value} (hn : Hid (len ≤ 100000)) (h24 : Hid (∀ V, Below A.heap.size A V → Calls Try.prog 24 #[.slice ad len cap] V (NamesP V ks))) (h33 : Hid (∀ V b, SM V b ks → Calls Try.prog 33 #[.map (some b)] V (RiseP V ks))) (hb : Hid (Below A.heap.size A W)) (hc : Hid (RowF W ks an nn cc rs)) (hw : Hid (NewW A W len gw)) (hs : Hid (NewS A W gs))
    (hQ : Hid (∀ (bm : Nat) (an : Option Addr) (nn cc : Nat) (rs : List Hs) (ga gw gs : Nat) (V : World), Web0 A V ks len an nn cc rs ga gw gs → Q .normal { tmps := #[.slice ad len cap, x1, x2, .pointer (some ⟨gs, 0, none⟩), x4, x5, x6, x7, x8, x9, x10, x11, .slice ad len cap, .map (some bm), .slice an nn cc, .slice ad len cap, .int .i64 (len : Int), .slice (some ⟨ga, 0, none⟩) len len, .slice ad len cap, .int .i64 (len : Int), .slice (some ⟨gw, 0, none⟩) len len, .agg #[.slice an nn cc, .slice (some ⟨ga, 0, none⟩) len len, .slice (some ⟨gw, 0, none⟩) len len], x22, x23, x24, x25, x26, x27, x28, x29, x30, x31, x32, x33, x34, x35, x36, x37, x38, x39, x40, x41, x42, x43, x44, x45, x46, x47, x48, x49, x50, x51, x52, x53, x54, x55, x56, x57, x58, x59, x60, x61, x62, x63, x64, x65, x66, x67, x68, x69, x70, x71, x72, x73, x74, x75, x76, x77, x78, x79], defers := ds } V)) :
    wpAnyH Try.prog .any webOps (QN Q) (fun _ => True) 3 #[true, true, true, true, true, false, true, true, true, false, true, false] { tmps := #[.slice ad len cap, x1, x2, .pointer (some ⟨gs, 0, none⟩), x4, x5, x6, x7, x8, x9, x10, x11, .slice ad len cap, .map (some bm), .slice an nn cc, .slice ad len cap, .int .i64 (len : Int), x17, .slice ad len cap, .int .i64 (len : Int), .slice (some ⟨gw, 0, none⟩) len len, x21, x22, x23, x24, x25, x26, x27, x28, x29, x30, x31, x32, x33, x34, x35, x36, x37, x38, x39, x40, x41, x42, x43, x44, x45, x46, x47, x48, x49, x50, x51, x52, x53, x54, x55, x56, x57, x58, x59, x60, x61, x62, x63, x64, x65, x66, x67, x68, x69, x70, x71, x72, x73, x74, x75, x76, x77, x78, x79], defers := ds } W := by
  refine wpAnyH_ready (rs := [5]) (by kernel_rfl) (by simp) ?_
  refine AllReadyH.cons (i := 5) (o := { dst := some 17, op := Op.makeSlice 55 (Operand.tmp 16) (Operand.tmp 16), type := 55, pos := "order.go:34", after := #[{ on := 4, ground := Ground.data }, { on := 4, ground := Ground.data }], guard := none }) rfl ?_ AllReadyH.nil
  · intro K1 hK1
    rw [if_pos (by rfl)]
    refine wp_mk55 (.tmp 16) (.tmp 16) rfl len rfl rfl hn.out ?_
    refine hK1.out _ _ trivial ?_
    intro _
    try simp only [Act.put, List.setIfInBounds_toArray, List.set_cons_zero, List.set_cons_succ]
    exact web1_2111 (ga := W.heap.size) hn h24 h33 (hb.out.alloc hb.out.size _) (hc.out.below (below_new W (.cells (List.replicate len (.slice none 0 0)).toArray 56))) ⟨by simpa using Blk.new W (List.replicate len (.slice none 0 0)).toArray 56, hb.out.size⟩ (hw.out.below (below_new W (.cells (List.replicate len (.slice none 0 0)).toArray 56))) (hs.out.below (below_new W (.cells (List.replicate len (.slice none 0 0)).toArray 56))) hQ
set_option maxRecDepth 100000 in
set_option maxHeartbeats 2000000 in
theorem web1_2101 {Q : Exit → Act → World → Prop} {ds : List Deferred} {A W : World} {len cap : Nat} {ad : Option Addr} {ks : List Hs} {bm : Nat} {an : Option Addr} {nn cc : Nat} {rs : List Hs} {ga : Nat} {gs : Nat} {x1 x2 x4 x5 x6 x7 x8 x9 x10 x11 x20 x21 x22 x23 x24 x25 x26 x27 x28 x29 x30 x31 x32 x33 x34 x35 x36 x37 x38 x39 x40 x41 x42 x43 x44 x45 x46 x47 x48 x49 x50 x51 x52 x53 x54 x55 x56 x57 x58 x59 x60 x61 x62 x63 x64 x65 x66 x67 x68 x69 x70 x71 x72 x73 x74 x75 x76 x77 x78 x79 : Value} (hn : Hid (len ≤ 100000)) (h24 : Hid (∀ V, Below A.heap.size A V → Calls Try.prog 24 #[.slice ad len cap] V (NamesP V ks))) (h33 : Hid (∀ V b, SM V b ks → Calls Try.prog 33 #[.map (some b)] V (RiseP V ks))) (hb : Hid (Below A.heap.size A W)) (hc : Hid (RowF W ks an nn cc rs)) (ha : Hid (NewA A W len ga)) (hs : Hid (NewS A W gs))
    (hQ : Hid (∀ (bm : Nat) (an : Option Addr) (nn cc : Nat) (rs : List Hs) (ga gw gs : Nat) (V : World), Web0 A V ks len an nn cc rs ga gw gs → Q .normal { tmps := #[.slice ad len cap, x1, x2, .pointer (some ⟨gs, 0, none⟩), x4, x5, x6, x7, x8, x9, x10, x11, .slice ad len cap, .map (some bm), .slice an nn cc, .slice ad len cap, .int .i64 (len : Int), .slice (some ⟨ga, 0, none⟩) len len, .slice ad len cap, .int .i64 (len : Int), .slice (some ⟨gw, 0, none⟩) len len, .agg #[.slice an nn cc, .slice (some ⟨ga, 0, none⟩) len len, .slice (some ⟨gw, 0, none⟩) len len], x22, x23, x24, x25, x26, x27, x28, x29, x30, x31, x32, x33, x34, x35, x36, x37, x38, x39, x40, x41, x42, x43, x44, x45, x46, x47, x48, x49, x50, x51, x52, x53, x54, x55, x56, x57, x58, x59, x60, x61, x62, x63, x64, x65, x66, x67, x68, x69, x70, x71, x72, x73, x74, x75, x76, x77, x78, x79], defers := ds } V)) :
    wpAnyH Try.prog .any webOps (QN Q) (fun _ => True) 3 #[true, true, true, true, true, true, true, true, false, false, true, false] { tmps := #[.slice ad len cap, x1, x2, .pointer (some ⟨gs, 0, none⟩), x4, x5, x6, x7, x8, x9, x10, x11, .slice ad len cap, .map (some bm), .slice an nn cc, .slice ad len cap, .int .i64 (len : Int), .slice (some ⟨ga, 0, none⟩) len len, .slice ad len cap, .int .i64 (len : Int), x20, x21, x22, x23, x24, x25, x26, x27, x28, x29, x30, x31, x32, x33, x34, x35, x36, x37, x38, x39, x40, x41, x42, x43, x44, x45, x46, x47, x48, x49, x50, x51, x52, x53, x54, x55, x56, x57, x58, x59, x60, x61, x62, x63, x64, x65, x66, x67, x68, x69, x70, x71, x72, x73, x74, x75, x76, x77, x78, x79], defers := ds } W := by
  refine wpAnyH_ready (rs := [8]) (by kernel_rfl) (by simp) ?_
  refine AllReadyH.cons (i := 8) (o := { dst := some 20, op := Op.makeSlice 56 (Operand.tmp 19) (Operand.tmp 19), type := 56, pos := "order.go:34", after := #[{ on := 7, ground := Ground.data }, { on := 7, ground := Ground.data }], guard := none }) rfl ?_ AllReadyH.nil
  · intro K1 hK1
    rw [if_pos (by rfl)]
    refine wp_mk56 (.tmp 19) (.tmp 19) rfl len rfl rfl hn.out ?_
    refine hK1.out _ _ trivial ?_
    intro _
    try simp only [Act.put, List.setIfInBounds_toArray, List.set_cons_zero, List.set_cons_succ]
    exact web1_2111 (gw := W.heap.size) hn h24 h33 (hb.out.alloc hb.out.size _) (hc.out.below (below_new W (.cells (List.replicate len (.int .i64 0)).toArray 3))) (ha.out.below (below_new W (.cells (List.replicate len (.int .i64 0)).toArray 3))) ⟨by simpa using Blk.new W (List.replicate len (.int .i64 0)).toArray 3, hb.out.size⟩ (hs.out.below (below_new W (.cells (List.replicate len (.int .i64 0)).toArray 3))) hQ
set_option maxRecDepth 100000 in
set_option maxHeartbeats 2000000 in
theorem web1_2110 {Q : Exit → Act → World → Prop} {ds : List Deferred} {A W : World} {len cap : Nat} {ad : Option Addr} {ks : List Hs} {bm : Nat} {an : Option Addr} {nn cc : Nat} {rs : List Hs} {ga : Nat} {gw : Nat} {x1 x2 x3 x4 x5 x6 x7 x8 x9 x10 x11 x21 x22 x23 x24 x25 x26 x27 x28 x29 x30 x31 x32 x33 x34 x35 x36 x37 x38 x39 x40 x41 x42 x43 x44 x45 x46 x47 x48 x49 x50 x51 x52 x53 x54 x55 x56 x57 x58 x59 x60 x61 x62 x63 x64 x65 x66 x67 x68 x69 x70 x71 x72 x73 x74 x75 x76 x77 x78 x79 : Value} (hn : Hid (len ≤ 100000)) (h24 : Hid (∀ V, Below A.heap.size A V → Calls Try.prog 24 #[.slice ad len cap] V (NamesP V ks))) (h33 : Hid (∀ V b, SM V b ks → Calls Try.prog 33 #[.map (some b)] V (RiseP V ks))) (hb : Hid (Below A.heap.size A W)) (hc : Hid (RowF W ks an nn cc rs)) (ha : Hid (NewA A W len ga)) (hw : Hid (NewW A W len gw))
    (hQ : Hid (∀ (bm : Nat) (an : Option Addr) (nn cc : Nat) (rs : List Hs) (ga gw gs : Nat) (V : World), Web0 A V ks len an nn cc rs ga gw gs → Q .normal { tmps := #[.slice ad len cap, x1, x2, .pointer (some ⟨gs, 0, none⟩), x4, x5, x6, x7, x8, x9, x10, x11, .slice ad len cap, .map (some bm), .slice an nn cc, .slice ad len cap, .int .i64 (len : Int), .slice (some ⟨ga, 0, none⟩) len len, .slice ad len cap, .int .i64 (len : Int), .slice (some ⟨gw, 0, none⟩) len len, .agg #[.slice an nn cc, .slice (some ⟨ga, 0, none⟩) len len, .slice (some ⟨gw, 0, none⟩) len len], x22, x23, x24, x25, x26, x27, x28, x29, x30, x31, x32, x33, x34, x35, x36, x37, x38, x39, x40, x41, x42, x43, x44, x45, x46, x47, x48, x49, x50, x51, x52, x53, x54, x55, x56, x57, x58, x59, x60, x61, x62, x63, x64, x65, x66, x67, x68, x69, x70, x71, x72, x73, x74, x75, x76, x77, x78, x79], defers := ds } V)) :
    wpAnyH Try.prog .any webOps (QN Q) (fun _ => True) 3 #[true, true, true, true, true, true, true, true, true, false, false, false] { tmps := #[.slice ad len cap, x1, x2, x3, x4, x5, x6, x7, x8, x9, x10, x11, .slice ad len cap, .map (some bm), .slice an nn cc, .slice ad len cap, .int .i64 (len : Int), .slice (some ⟨ga, 0, none⟩) len len, .slice ad len cap, .int .i64 (len : Int), .slice (some ⟨gw, 0, none⟩) len len, x21, x22, x23, x24, x25, x26, x27, x28, x29, x30, x31, x32, x33, x34, x35, x36, x37, x38, x39, x40, x41, x42, x43, x44, x45, x46, x47, x48, x49, x50, x51, x52, x53, x54, x55, x56, x57, x58, x59, x60, x61, x62, x63, x64, x65, x66, x67, x68, x69, x70, x71, x72, x73, x74, x75, x76, x77, x78, x79], defers := ds } W := by
  refine wpAnyH_take (i := 9) (oi := { dst := some 21, op := Op.build 58 #[(0, Operand.tmp 14), (1, Operand.tmp 17), (2, Operand.tmp 20)], type := 58, pos := "order.go:34", after := #[{ on := 2, ground := Ground.data }, { on := 5, ground := Ground.data }, { on := 8, ground := Ground.data }], guard := none }) (v := .agg #[.slice an nn cc, .slice (some ⟨ga, 0, none⟩) len len, .slice (some ⟨gw, 0, none⟩) len len]) rfl (by kernel_rfl) (by kernel_rfl) (by kernel_rfl) (fun _ _ _ h => (show False from h).elim) (Or.inl ⟨by rfl, ?y9⟩) trivial ?_
  case y9 =>
    intro V hV
    go_simp
  simp only [Act.put, List.setIfInBounds_toArray, List.set_cons_zero, List.set_cons_succ]
  refine wpAnyH_ready (rs := [10]) (by kernel_rfl) (by simp) (AllReadyH.cons (i := 10) (o := { dst := some 3, op := Op.alloc 58, type := 0, pos := "order.go:34", after := #[], guard := none }) rfl ?_ AllReadyH.nil)
  intro K1 hK1
  rw [if_pos (by rfl)]
  refine wp_al58 3 rfl rfl ?_
  refine hK1.out _ _ trivial ?_
  intro _
  try simp only [Act.put, List.setIfInBounds_toArray, List.set_cons_zero, List.set_cons_succ]
  exact web1_fin (gs := W.heap.size) hn h24 h33 (hb.out.alloc hb.out.size _) (hc.out.below (below_new W (.cells #[.slice none 0 0, .slice none 0 0, .slice none 0 0] 58))) (ha.out.below (below_new W (.cells #[.slice none 0 0, .slice none 0 0, .slice none 0 0] 58))) (hw.out.below (below_new W (.cells #[.slice none 0 0, .slice none 0 0, .slice none 0 0] 58))) ⟨by simpa using Blk.new W #[.slice none 0 0, .slice none 0 0, .slice none 0 0] 58, hb.out.size⟩ hQ
set_option maxRecDepth 100000 in
set_option maxHeartbeats 2000000 in
theorem web1_0111 {Q : Exit → Act → World → Prop} {ds : List Deferred} {A W : World} {len cap : Nat} {ad : Option Addr} {ks : List Hs} {ga : Nat} {gw : Nat} {gs : Nat} {x1 x2 x4 x5 x6 x7 x8 x9 x10 x11 x13 x14 x21 x22 x23 x24 x25 x26 x27 x28 x29 x30 x31 x32 x33 x34 x35 x36 x37 x38 x39 x40 x41 x42 x43 x44 x45 x46 x47 x48 x49 x50 x51 x52 x53 x54 x55 x56 x57 x58 x59 x60 x61 x62 x63 x64 x65 x66 x67 x68 x69 x70 x71 x72 x73 x74 x75 x76 x77 x78 x79 : Value} (hn : Hid (len ≤ 100000)) (h24 : Hid (∀ V, Below A.heap.size A V → Calls Try.prog 24 #[.slice ad len cap] V (NamesP V ks))) (h33 : Hid (∀ V b, SM V b ks → Calls Try.prog 33 #[.map (some b)] V (RiseP V ks))) (hb : Hid (Below A.heap.size A W)) (ha : Hid (NewA A W len ga)) (hw : Hid (NewW A W len gw)) (hs : Hid (NewS A W gs))
    (hQ : Hid (∀ (bm : Nat) (an : Option Addr) (nn cc : Nat) (rs : List Hs) (ga gw gs : Nat) (V : World), Web0 A V ks len an nn cc rs ga gw gs → Q .normal { tmps := #[.slice ad len cap, x1, x2, .pointer (some ⟨gs, 0, none⟩), x4, x5, x6, x7, x8, x9, x10, x11, .slice ad len cap, .map (some bm), .slice an nn cc, .slice ad len cap, .int .i64 (len : Int), .slice (some ⟨ga, 0, none⟩) len len, .slice ad len cap, .int .i64 (len : Int), .slice (some ⟨gw, 0, none⟩) len len, .agg #[.slice an nn cc, .slice (some ⟨ga, 0, none⟩) len len, .slice (some ⟨gw, 0, none⟩) len len], x22, x23, x24, x25, x26, x27, x28, x29, x30, x31, x32, x33, x34, x35, x36, x37, x38, x39, x40, x41, x42, x43, x44, x45, x46, x47, x48, x49, x50, x51, x52, x53, x54, x55, x56, x57, x58, x59, x60, x61, x62, x63, x64, x65, x66, x67, x68, x69, x70, x71, x72, x73, x74, x75, x76, x77, x78, x79], defers := ds } V)) :
    wpAnyH Try.prog .any webOps (QN Q) (fun _ => True) 4 #[true, false, false, true, true, true, true, true, true, false, true, false] { tmps := #[.slice ad len cap, x1, x2, .pointer (some ⟨gs, 0, none⟩), x4, x5, x6, x7, x8, x9, x10, x11, .slice ad len cap, x13, x14, .slice ad len cap, .int .i64 (len : Int), .slice (some ⟨ga, 0, none⟩) len len, .slice ad len cap, .int .i64 (len : Int), .slice (some ⟨gw, 0, none⟩) len len, x21, x22, x23, x24, x25, x26, x27, x28, x29, x30, x31, x32, x33, x34, x35, x36, x37, x38, x39, x40, x41, x42, x43, x44, x45, x46, x47, x48, x49, x50, x51, x52, x53, x54, x55, x56, x57, x58, x59, x60, x61, x62, x63, x64, x65, x66, x67, x68, x69, x70, x71, x72, x73, x74, x75, x76, x77, x78, x79], defers := ds } W := by
  refine wpAnyH_ready (rs := [1]) (by kernel_rfl) (by simp) ?_
  refine AllReadyH.cons (i := 1) (o := { dst := some 13, op := Op.call { callee := Callee.value (Operand.func 24), args := #[Operand.tmp 12], argTypes := #[22] }, type := 43, pos := "order.go:34", after := #[{ on := 0, ground := Ground.data }], guard := none }) rfl ?_ AllReadyH.nil
  · intro K1 hK1
    rw [if_pos (by rfl)]
    have H := h24.out W hb.out
    go_wp2_with fail
    refine H.mono ?_
    rintro e w1 ⟨b1, rfl, H1, HB1⟩
    dsimp only
    refine hK1.out _ _ trivial ?_
    intro _
    try simp only [Act.put, List.setIfInBounds_toArray, List.set_cons_zero, List.set_cons_succ]
    exact web1_1111 (bm := b1) hn h24 h33 (hb.out.trans (HB1.out.mono hb.out.size)) H1.out.1 (ha.out.below HB1.out) (hw.out.below HB1.out) (hs.out.below HB1.out) hQ
set_option maxRecDepth 100000 in
set_option maxHeartbeats 2000000 in
theorem web1_1011 {Q : Exit → Act → World → Prop} {ds : List Deferred} {A W : World} {len cap : Nat} {ad : Option Addr} {ks : List Hs} {bm : Nat} {gw : Nat} {gs : Nat} {x1 x2 x4 x5 x6 x7 x8 x9 x10 x11 x14 x17 x21 x22 x23 x24 x25 x26 x27 x28 x29 x30 x31 x32 x33 x34 x35 x36 x37 x38 x39 x40 x41 x42 x43 x44 x45 x46 x47 x48 x49 x50 x51 x52 x53 x54 x55 x56 x57 x58 x59 x60 x61 x62 x63 x64 x65 x66 x67 x68 x69 x70 x71 x72 x73 x74 x75 x76 x77 x78 x79 : Value} (hn : Hid (len ≤ 100000)) (h24 : Hid (∀ V, Below A.heap.size A V → Calls Try.prog 24 #[.slice ad len cap] V (NamesP V ks))) (h33 : Hid (∀ V b, SM V b ks → Calls Try.prog 33 #[.map (some b)] V (RiseP V ks))) (hb : Hid (Below A.heap.size A W)) (hc : Hid (MapF W bm ks)) (hw : Hid (NewW A W len gw)) (hs : Hid (NewS A W gs))
    (hQ : Hid (∀ (bm : Nat) (an : Option Addr) (nn cc : Nat) (rs : List Hs) (ga gw gs : Nat) (V : World), Web0 A V ks len an nn cc rs ga gw gs → Q .normal { tmps := #[.slice ad len cap, x1, x2, .pointer (some ⟨gs, 0, none⟩), x4, x5, x6, x7, x8, x9, x10, x11, .slice ad len cap, .map (some bm), .slice an nn cc, .slice ad len cap, .int .i64 (len : Int), .slice (some ⟨ga, 0, none⟩) len len, .slice ad len cap, .int .i64 (len : Int), .slice (some ⟨gw, 0, none⟩) len len, .agg #[.slice an nn cc, .slice (some ⟨ga, 0, none⟩) len len, .slice (some ⟨gw, 0, none⟩) len len], x22, x23, x24, x25, x26, x27, x28, x29, x30, x31, x32, x33, x34, x35, x36, x37, x38, x39, x40, x41, x42, x43, x44, x45, x46, x47, x48, x49, x50, x51, x52, x53, x54, x55, x56, x57, x58, x59, x60, x61, x62, x63, x64, x65, x66, x67, x68, x69, x70, x71, x72, x73, x74, x75, x76, x77, x78, x79], defers := ds } V)) :
    wpAnyH Try.prog .any webOps (QN Q) (fun _ => True) 4 #[true, true, false, true, true, false, true, true, true, false, true, false] { tmps := #[.slice ad len cap, x1, x2, .pointer (some ⟨gs, 0, none⟩), x4, x5, x6, x7, x8, x9, x10, x11, .slice ad len cap, .map (some bm), x14, .slice ad len cap, .int .i64 (len : Int), x17, .slice ad len cap, .int .i64 (len : Int), .slice (some ⟨gw, 0, none⟩) len len, x21, x22, x23, x24, x25, x26, x27, x28, x29, x30, x31, x32, x33, x34, x35, x36, x37, x38, x39, x40, x41, x42, x43, x44, x45, x46, x47, x48, x49, x50, x51, x52, x53, x54, x55, x56, x57, x58, x59, x60, x61, x62, x63, x64, x65, x66, x67, x68, x69, x70, x71, x72, x73, x74, x75, x76, x77, x78, x79], defers := ds } W := by
  refine wpAnyH_ready (rs := [2, 5]) (by kernel_rfl) (by simp) ?_
  refine AllReadyH.cons (i := 2) (o := { dst := some 14, op := Op.call { callee := Callee.value (Operand.func 33), args := #[Operand.tmp 13], argTypes := #[43] }, type := 26, pos := "order.go:34", after := #[{ on := 1, ground := Ground.data }, { on := 1, ground := Ground.chain }], guard := none }) rfl ?_ (AllReadyH.cons (i := 5) (o := { dst := some 17, op := Op.makeSlice 55 (Operand.tmp 16) (Operand.tmp 16), type := 55, pos := "order.go:34", after := #[{ on := 4, ground := Ground.data }, { on := 4, ground := Ground.data }], guard := none }) rfl ?_ AllReadyH.nil)
  · intro K1 hK1
    rw [if_pos (by rfl)]
    have H := h33.out W bm hc.out
    go_wp2_with fail
    refine H.mono ?_
    rintro e w1 ⟨an, nn, cc, rs, rfl, H1, HB1⟩
    dsimp only
    refine hK1.out _ _ trivial ?_
    intro _
    try simp only [Act.put, List.setIfInBounds_toArray, List.set_cons_zero, List.set_cons_succ]
    exact web1_2011 (bm := bm) (an := an) (nn := nn) (cc := cc) (rs := rs) hn h24 h33 (hb.out.trans (HB1.out.mono hb.out.size)) H1.out (hw.out.below HB1.out) (hs.out.below HB1.out) hQ
  · intro K1 hK1
    rw [if_pos (by rfl)]
    refine wp_mk55 (.tmp 16) (.tmp 16) rfl len rfl rfl hn.out ?_
    refine hK1.out _ _ trivial ?_
    intro _
    try simp only [Act.put, List.setIfInBounds_toArray, List.set_cons_zero, List.set_cons_succ]
    exact web1_1111 (ga := W.heap.size) hn h24 h33 (hb.out.alloc hb.out.size _) (hc.out.below (below_new W (.cells (List.replicate len (.slice none 0 0)).toArray 56))) ⟨by simpa using Blk.new W (List.replicate len (.slice none 0 0)).toArray 56, hb.out.size⟩ (hw.out.below (below_new W (.cells (List.replicate len (.slice none 0 0)).toArray 56))) (hs.out.below (below_new W (.cells (List.replicate len (.slice none 0 0)).toArray 56))) hQ
set_option maxRecDepth 100000 in
set_option maxHeartbeats 2000000 in
theorem web1_1101 {Q : Exit → Act → World → Prop} {ds : List Deferred} {A W : World} {len cap : Nat} {ad : Option Addr} {ks : List Hs} {bm : Nat} {ga : Nat} {gs : Nat} {x1 x2 x4 x5 x6 x7 x8 x9 x10 x11 x14 x20 x21 x22 x23 x24 x25 x26 x27 x28 x29 x30 x31 x32 x33 x34 x35 x36 x37 x38 x39 x40 x41 x42 x43 x44 x45 x46 x47 x48 x49 x50 x51 x52 x53 x54 x55 x56 x57 x58 x59 x60 x61 x62 x63 x64 x65 x66 x67 x68 x69 x70 x71 x72 x73 x74 x75 x76 x77 x78 x79 : Value} (hn : Hid (len ≤ 100000)) (h24 : Hid (∀ V, Below A.heap.size A V → Calls Try.prog 24 #[.slice ad len cap] V (NamesP V ks))) (h33 : Hid (∀ V b, SM V b ks → Calls Try.prog 33 #[.map (some b)] V (RiseP V ks))) (hb : Hid (Below A.heap.size A W)) (hc : Hid (MapF W bm ks)) (ha : Hid (NewA A W len ga)) (hs : Hid (NewS A W gs))
    (hQ : Hid (∀ (bm : Nat) (an : Option Addr) (nn cc : Nat) (rs : List Hs) (ga gw gs : Nat) (V : World), Web0 A V ks len an nn cc rs ga gw gs → Q .normal { tmps := #[.slice ad len cap, x1, x2, .pointer (some ⟨gs, 0, none⟩), x4, x5, x6, x7, x8, x9, x10, x11, .slice ad len cap, .map (some bm), .slice an nn cc, .slice ad len cap, .int .i64 (len : Int), .slice (some ⟨ga, 0, none⟩) len len, .slice ad len cap, .int .i64 (len : Int), .slice (some ⟨gw, 0, none⟩) len len, .agg #[.slice an nn cc, .slice (some ⟨ga, 0, none⟩) len len, .slice (some ⟨gw, 0, none⟩) len len], x22, x23, x24, x25, x26, x27, x28, x29, x30, x31, x32, x33, x34, x35, x36, x37, x38, x39, x40, x41, x42, x43, x44, x45, x46, x47, x48, x49, x50, x51, x52, x53, x54, x55, x56, x57, x58, x59, x60, x61, x62, x63, x64, x65, x66, x67, x68, x69, x70, x71, x72, x73, x74, x75, x76, x77, x78, x79], defers := ds } V)) :
    wpAnyH Try.prog .any webOps (QN Q) (fun _ => True) 4 #[true, true, false, true, true, true, true, true, false, false, true, false] { tmps := #[.slice ad len cap, x1, x2, .pointer (some ⟨gs, 0, none⟩), x4, x5, x6, x7, x8, x9, x10, x11, .slice ad len cap, .map (some bm), x14, .slice ad len cap, .int .i64 (len : Int), .slice (some ⟨ga, 0, none⟩) len len, .slice ad len cap, .int .i64 (len : Int), x20, x21, x22, x23, x24, x25, x26, x27, x28, x29, x30, x31, x32, x33, x34, x35, x36, x37, x38, x39, x40, x41, x42, x43, x44, x45, x46, x47, x48, x49, x50, x51, x52, x53, x54, x55, x56, x57, x58, x59, x60, x61, x62, x63, x64, x65, x66, x67, x68, x69, x70, x71, x72, x73, x74, x75, x76, x77, x78, x79], defers := ds } W := by
  refine wpAnyH_ready (rs := [2, 8]) (by kernel_rfl) (by simp) ?_
  refine AllReadyH.cons (i := 2) (o := { dst := some 14, op := Op.call { callee := Callee.value (Operand.func 33), args := #[Operand.tmp 13], argTypes := #[43] }, type := 26, pos := "order.go:34", after := #[{ on := 1, ground := Ground.data }, { on := 1, ground := Ground.chain }], guard := none }) rfl ?_ (AllReadyH.cons (i := 8) (o := { dst := some 20, op := Op.makeSlice 56 (Operand.tmp 19) (Operand.tmp 19), type := 56, pos := "order.go:34", after := #[{ on := 7, ground := Ground.data }, { on := 7, ground := Ground.data }], guard := none }) rfl ?_ AllReadyH.nil)
  · intro K1 hK1
    rw [if_pos (by rfl)]
    have H := h33.out W bm hc.out
    go_wp2_with fail
    refine H.mono ?_
    rintro e w1 ⟨an, nn, cc, rs, rfl, H1, HB1⟩
    dsimp only
    refine hK1.out _ _ trivial ?_
    intro _
    try simp only [Act.put, List.setIfInBounds_toArray, List.set_cons_zero, List.set_cons_succ]
    exact web1_2101 (bm := bm) (an := an) (nn := nn) (cc := cc) (rs := rs) hn h24 h33 (hb.out.trans (HB1.out.mono hb.out.size)) H1.out (ha.out.below HB1.out) (hs.out.below HB1.out) hQ
  · intro K1 hK1
    rw [if_pos (by rfl)]
    refine wp_mk56 (.tmp 19) (.tmp 19) rfl len rfl rfl hn.out ?_
    refine hK1.out _ _ trivial ?_
    intro _
    try simp only [Act.put, List.setIfInBounds_toArray, List.set_cons_zero, List.set_cons_succ]
    exact web1_1111 (gw := W.heap.size) hn h24 h33 (hb.out.alloc hb.out.size _) (hc.out.below (below_new W (.cells (List.replicate len (.int .i64 0)).toArray 3))) (ha.out.below (below_new W (.cells (List.replicate len (.int .i64 0)).toArray 3))) ⟨by simpa using Blk.new W (List.replicate len (.int .i64 0)).toArray 3, hb.out.size⟩ (hs.out.below (below_new W (.cells (List.replicate len (.int .i64 0)).toArray 3))) hQ
set_option maxRecDepth 100000 in
set_option maxHeartbeats 2000000 in
theorem web1_1110 {Q : Exit → Act → World → Prop} {ds : List Deferred} {A W : World} {len cap : Nat} {ad : Option Addr} {ks : List Hs} {bm : Nat} {ga : Nat} {gw : Nat} {x1 x2 x3 x4 x5 x6 x7 x8 x9 x10 x11 x14 x21 x22 x23 x24 x25 x26 x27 x28 x29 x30 x31 x32 x33 x34 x35 x36 x37 x38 x39 x40 x41 x42 x43 x44 x45 x46 x47 x48 x49 x50 x51 x52 x53 x54 x55 x56 x57 x58 x59 x60 x61 x62 x63 x64 x65 x66 x67 x68 x69 x70 x71 x72 x73 x74 x75 x76 x77 x78 x79 : Value} (hn : Hid (len ≤ 100000)) (h24 : Hid (∀ V, Below A.heap.size A V → Calls Try.prog 24 #[.slice ad len cap] V (NamesP V ks))) (h33 : Hid (∀ V b, SM V b ks → Calls Try.prog 33 #[.map (some b)] V (RiseP V ks))) (hb : Hid (Below A.heap.size A W)) (hc : Hid (MapF W bm ks)) (ha : Hid (NewA A W len ga)) (hw : Hid (NewW A W len gw))
    (hQ : Hid (∀ (bm : Nat) (an : Option Addr) (nn cc : Nat) (rs : List Hs) (ga gw gs : Nat) (V : World), Web0 A V ks len an nn cc rs ga gw gs → Q .normal { tmps := #[.slice ad len cap, x1, x2, .pointer (some ⟨gs, 0, none⟩), x4, x5, x6, x7, x8, x9, x10, x11, .slice ad len cap, .map (some bm), .slice an nn cc, .slice ad len cap, .int .i64 (len : Int), .slice (some ⟨ga, 0, none⟩) len len, .slice ad len cap, .int .i64 (len : Int), .slice (some ⟨gw, 0, none⟩) len len, .agg #[.slice an nn cc, .slice (some ⟨ga, 0, none⟩) len len, .slice (some ⟨gw, 0, none⟩) len len], x22, x23, x24, x25, x26, x27, x28, x29, x30, x31, x32, x33, x34, x35, x36, x37, x38, x39, x40, x41, x42, x43, x44, x45, x46, x47, x48, x49, x50, x51, x52, x53, x54, x55, x56, x57, x58, x59, x60, x61, x62, x63, x64, x65, x66, x67, x68, x69, x70, x71, x72, x73, x74, x75, x76, x77, x78, x79], defers := ds } V)) :
    wpAnyH Try.prog .any webOps (QN Q) (fun _ => True) 4 #[true, true, false, true, true, true, true, true, true, false, false, false] { tmps := #[.slice ad len cap, x1, x2, x3, x4, x5, x6, x7, x8, x9, x10, x11, .slice ad len cap, .map (some bm), x14, .slice ad len cap, .int .i64 (len : Int), .slice (some ⟨ga, 0, none⟩) len len, .slice ad len cap, .int .i64 (len : Int), .slice (some ⟨gw, 0, none⟩) len len, x21, x22, x23, x24, x25, x26, x27, x28, x29, x30, x31, x32, x33, x34, x35, x36, x37, x38, x39, x40, x41, x42, x43, x44, x45, x46, x47, x48, x49, x50, x51, x52, x53, x54, x55, x56, x57, x58, x59, x60, x61, x62, x63, x64, x65, x66, x67, x68, x69, x70, x71, x72, x73, x74, x75, x76, x77, x78, x79], defers := ds } W := by
  refine wpAnyH_ready (rs := [2, 10]) (by kernel_rfl) (by simp) ?_
  refine AllReadyH.cons (i := 2) (o := { dst := some 14, op := Op.call { callee := Callee.value (Operand.func 33), args := #[Operand.tmp 13], argTypes := #[43] }, type := 26, pos := "order.go:34", after := #[{ on := 1, ground := Ground.data }, { on := 1, ground := Ground.chain }], guard := none }) rfl ?_ (AllReadyH.cons (i := 10) (o := { dst := some 3, op := Op.alloc 58, type := 0, pos := "order.go:34", after := #[], guard := none }) rfl ?_ AllReadyH.nil)
  · intro K1 hK1
    rw [if_pos (by rfl)]
    have H := h33.out W bm hc.out
    go_wp2_with fail
    refine H.mono ?_
    rintro e w1 ⟨an, nn, cc, rs, rfl, H1, HB1⟩
    dsimp only
    refine hK1.out _ _ trivial ?_
    intro _
    try simp only [Act.put, List.setIfInBounds_toArray, List.set_cons_zero, List.set_cons_succ]
    exact web1_2110 (bm := bm) (an := an) (nn := nn) (cc := cc) (rs := rs) hn h24 h33 (hb.out.trans (HB1.out.mono hb.out.size)) H1.out (ha.out.below HB1.out) (hw.out.below HB1.out) hQ
  · intro K1 hK1
    rw [if_pos (by rfl)]
    refine wp_al58 3 rfl rfl ?_
    refine hK1.out _ _ trivial ?_
    intro _
    try simp only [Act.put, List.setIfInBounds_toArray, List.set_cons_zero, List.set_cons_succ]
    exact web1_1111 (gs := W.heap.size) hn h24 h33 (hb.out.alloc hb.out.size _) (hc.out.below (below_new W (.cells #[.slice none 0 0, .slice none 0 0, .slice none 0 0] 58))) (ha.out.below (below_new W (.cells #[.slice none 0 0, .slice none 0 0, .slice none 0 0] 58))) (hw.out.below (below_new W (.cells #[.slice none 0 0, .slice none 0 0, .slice none 0 0] 58))) ⟨by simpa using Blk.new W #[.slice none 0 0, .slice none 0 0, .slice none 0 0] 58, hb.out.size⟩ hQ
set_option maxRecDepth 100000 in
set_option maxHeartbeats 2000000 in
theorem web1_2001 {Q : Exit → Act → World → Prop} {ds : List Deferred} {A W : World} {len cap : Nat} {ad : Option Addr} {ks : List Hs} {bm : Nat} {an : Option Addr} {nn cc : Nat} {rs : List Hs} {gs : Nat} {x1 x2 x4 x5 x6 x7 x8 x9 x10 x11 x17 x20 x21 x22 x23 x24 x25 x26 x27 x28 x29 x30 x31 x32 x33 x34 x35 x36 x37 x38 x39 x40 x41 x42 x43 x44 x45 x46 x47 x48 x49 x50 x51 x52 x53 x54 x55 x56 x57 x58 x59 x60 x61 x62 x63 x64 x65 x66 x67 x68 x69 x70 x71 x72 x73 x74 x75 x76 x77 x78 x79 : Value} (hn : Hid (len ≤ 100000)) (h24 : Hid (∀ V, Below A.heap.size A V → Calls Try.prog 24 #[.slice ad len cap] V (NamesP V ks))) (h33 : Hid (∀ V b, SM V b ks → Calls Try.prog 33 #[.map (some b)] V (RiseP V ks))) (hb : Hid (Below A.heap.size A W)) (hc : Hid (RowF W ks an nn cc rs)) (hs : Hid (NewS A W gs))
    (hQ : Hid (∀ (bm : Nat) (an : Option Addr) (nn cc : Nat) (rs : List Hs) (ga gw gs : Nat) (V : World), Web0 A V ks len an nn cc rs ga gw gs → Q .normal { tmps := #[.slice ad len cap, x1, x2, .pointer (some ⟨gs, 0, none⟩), x4, x5, x6, x7, x8, x9, x10, x11, .slice ad len cap, .map (some bm), .slice an nn cc, .slice ad len cap, .int .i64 (len : Int), .slice (some ⟨ga, 0, none⟩) len len, .slice ad len cap, .int .i64 (len : Int), .slice (some ⟨gw, 0, none⟩) len len, .agg #[.slice an nn cc, .slice (some ⟨ga, 0, none⟩) len len, .slice (some ⟨gw, 0, none⟩) len len], x22, x23, x24, x25, x26, x27, x28, x29, x30, x31, x32, x33, x34, x35, x36, x37, x38, x39, x40, x41, x42, x43, x44, x45, x46, x47, x48, x49, x50, x51, x52, x53, x54, x55, x56, x57, x58, x59, x60, x61, x62, x63, x64, x65, x66, x67, x68, x69, x70, x71, x72, x73, x74, x75, x76, x77, x78, x79], defers := ds } V)) :
    wpAnyH Try.prog .any webOps (QN Q) (fun _ => True) 4 #[true, true, true, true, true, false, true, true, false, false, true, false] { tmps := #[.slice ad len cap, x1, x2, .pointer (some ⟨gs, 0, none⟩), x4, x5, x6, x7, x8, x9, x10, x11, .slice ad len cap, .map (some bm), .slice an nn cc, .slice ad len cap, .int .i64 (len : Int), x17, .slice ad len cap, .int .i64 (len : Int), x20, x21, x22, x23, x24, x25, x26, x27, x28, x29, x30, x31, x32, x33, x34, x35, x36, x37, x38, x39, x40, x41, x42, x43, x44, x45, x46, x47, x48, x49, x50, x51, x52, x53, x54, x55, x56, x57, x58, x59, x60, x61, x62, x63, x64, x65, x66, x67, x68, x69, x70, x71, x72, x73, x74, x75, x76, x77, x78, x79], defers := ds } W := by
  refine wpAnyH_ready (rs := [5, 8]) (by kernel_rfl) (by simp) ?_
  refine AllReadyH.cons (i := 5) (o := { dst := some 17, op := Op.makeSlice 55 (Operand.tmp 16) (Operand.tmp 16), type := 55, pos := "order.go:34", after := #[{ on := 4, ground := Ground.data }, { on := 4, ground := Ground.data }], guard := none }) rfl ?_ (AllReadyH.cons (i := 8) (o := { dst := some 20, op := Op.makeSlice 56 (Operand.tmp 19) (Operand.tmp 19), type := 56, pos := "order.go:34", after := #[{ on := 7, ground := Ground.data }, { on := 7, ground := Ground.data }], guard := none }) rfl ?_ AllReadyH.nil)
  · intro K1 hK1
    rw [if_pos (by rfl)]
    refine wp_mk55 (.tmp 16) (.tmp 16) rfl len rfl rfl hn.out ?_
    refine hK1.out _ _ trivial ?_
    intro _
    try simp only [Act.put, List.setIfInBounds_toArray, List.set_cons_zero, List.set_cons_succ]
    exact web1_2101 (ga := W.heap.size) hn h24 h33 (hb.out.alloc hb.out.size _) (hc.out.below (below_new W (.cells (List.replicate len (.slice none 0 0)).toArray 56))) ⟨by simpa using Blk.new W (List.replicate len (.slice none 0 0)).toArray 56, hb.out.size⟩ (hs.out.below (below_new W (.cells (List.replicate len (.slice none 0 0)).toArray 56))) hQ
  · intro K1 hK1
    rw [if_pos (by rfl)]
    refine wp_mk56 (.tmp 19) (.tmp 19) rfl len rfl rfl hn.out ?_
    refine hK1.out _ _ trivial ?_
    intro _
    try simp only [Act.put, List.setIfInBounds_toArray, List.set_cons_zero, List.set_cons_succ]
    exact web1_2011 (gw := W.heap.size) hn h24 h33 (hb.out.alloc hb.out.size _) (hc.out.below (below_new W (.cells (List.replicate len (.int .i64 0)).toArray 3))) ⟨by simpa using Blk.new W (List.replicate len (.int .i64 0)).toArray 3, hb.out.size⟩ (hs.out.below (below_new W (.cells (List.replicate len (.int .i64 0)).toArray 3))) hQ
set_option maxRecDepth 100000 in
set_option maxHeartbeats 2000000 in
theorem web1_2010 {Q : Exit → Act → World → Prop} {ds : List Deferred} {A W : World} {len cap : Nat} {ad : Option Addr} {ks : List Hs} {bm : Nat} {an : Option Addr} {nn cc : Nat} {rs : List Hs} {gw : Nat} {x1 x2 x3 x4 x5 x6 x7 x8 x9 x10 x11 x17 x21 x22 x23 x24 x25 x26 x27 x28 x29 x30 x31 x32 x33 x34 x35 x36 x37 x38 x39 x40 x41 x42 x43 x44 x45 x46 x47 x48 x49 x50 x51 x52 x53 x54 x55 x56 x57 x58 x59 x60 x61 x62 x63 x64 x65 x66 x67 x68 x69 x70 x71 x72 x73 x74 x75 x76 x77 x78 x79 : Value} (hn : Hid (len ≤ 100000)) (h24 : Hid (∀ V, Below A.heap.size A V → Calls Try.prog 24 #[.slice ad len cap] V (NamesP V ks))) (h33 : Hid (∀ V b, SM V b ks → Calls Try.prog 33 #[.map (some b)] V (RiseP V ks))) (hb : Hid (Below A.heap.size A W)) (hc : Hid (RowF W ks an nn cc rs)) (hw : Hid (NewW A W len gw))
    (hQ : Hid (∀ (bm : Nat) (an : Option Addr) (nn cc : Nat) (rs : List Hs) (ga gw gs : Nat) (V : World), Web0 A V ks len an nn cc rs ga gw gs → Q .normal { tmps := #[.slice ad len cap, x1, x2, .pointer (some ⟨gs, 0, none⟩), x4, x5, x6, x7, x8, x9, x10, x11, .slice ad len cap, .map (some bm), .slice an nn cc, .slice ad len cap, .int .i64 (len : Int), .slice (some ⟨ga, 0, none⟩) len len, .slice ad len cap, .int .i64 (len : Int), .slice (some ⟨gw, 0, none⟩) len len, .agg #[.slice an nn cc, .slice (some ⟨ga, 0, none⟩) len len, .slice (some ⟨gw, 0, none⟩) len len], x22, x23, x24, x25, x26, x27, x28, x29, x30, x31, x32, x33, x34, x35, x36, x37, x38, x39, x40, x41, x42, x43, x44, x45, x46, x47, x48, x49, x50, x51, x52, x53, x54, x55, x56, x57, x58, x59, x60, x61, x62, x63, x64, x65, x66, x67, x68, x69, x70, x71, x72, x73, x74, x75, x76, x77, x78, x79], defers := ds } V)) :
    wpAnyH Try.prog .any webOps (QN Q) (fun _ => True) 4 #[true, true, true, true, true, false, true, true, true, false, false, false] { tmps := #[.slice ad len cap, x1, x2, x3, x4, x5, x6, x7, x8, x9, x10, x11, .slice ad len cap, .map (some bm), .slice an nn cc, .slice ad len cap, .int .i64 (len : Int), x17, .slice ad len cap, .int .i64 (len : Int), .slice (some ⟨gw, 0, none⟩) len len, x21, x22, x23, x24, x25, x26, x27, x28, x29, x30, x31, x32, x33, x34, x35, x36, x37, x38, x39, x40, x41, x42, x43, x44, x45, x46, x47, x48, x49, x50, x51, x52, x53, x54, x55, x56, x57, x58, x59, x60, x61, x62, x63, x64, x65, x66, x67, x68, x69, x70, x71, x72, x73, x74, x75, x76, x77, x78, x79], defers := ds } W := by
  refine wpAnyH_ready (rs := [5, 10]) (by kernel_rfl) (by simp) ?_
  refine AllReadyH.cons (i := 5) (o := { dst := some 17, op := Op.makeSlice 55 (Operand.tmp 16) (Operand.tmp 16), type := 55, pos := "order.go:34", after := #[{ on := 4, ground := Ground.data }, { on := 4, ground := Ground.data }], guard := none }) rfl ?_ (AllReadyH.cons (i := 10) (o := { dst := some 3, op := Op.alloc 58, type := 0, pos := "order.go:34", after := #[], guard := none }) rfl ?_ AllReadyH.nil)
  · intro K1 hK1
    rw [if_pos (by rfl)]
    refine wp_mk55 (.tmp 16) (.tmp 16) rfl len rfl rfl hn.out ?_
    refine hK1.out _ _ trivial ?_
    intro _
    try simp only [Act.put, List.setIfInBounds_toArray, List.set_cons_zero, List.set_cons_succ]
    exact web1_2110 (ga := W.heap.size) hn h24 h33 (hb.out.alloc hb.out.size _) (hc.out.below (below_new W (.cells (List.replicate len (.slice none 0 0)).toArray 56))) ⟨by simpa using Blk.new W (List.replicate len (.slice none 0 0)).toArray 56, hb.out.size⟩ (hw.out.below (below_new W (.cells (List.replicate len (.slice none 0 0)).toArray 56))) hQ
  · intro K1 hK1
    rw [if_pos (by rfl)]
    refine wp_al58 3 rfl rfl ?_
    refine hK1.out _ _ trivial ?_
    intro _
    try simp only [Act.put, List.setIfInBounds_toArray, List.set_cons_zero, List.set_cons_succ]
    exact web1_2011 (gs := W.heap.size) hn h24 h33 (hb.out.alloc hb.out.size _) (hc.out.below (below_new W (.cells #[.slice none 0 0, .slice none 0 0, .slice none 0 0] 58))) (hw.out.below (below_new W (.cells #[.slice none 0 0, .slice none 0 0, .slice none 0 0] 58))) ⟨by simpa using Blk.new W #[.slice none 0 0, .slice none 0 0, .slice none 0 0] 58, hb.out.size⟩ hQ
set_option maxRecDepth 100000 in
set_option maxHeartbeats 2000000 in
theorem web1_2100 {Q : Exit → Act → World → Prop} {ds : List Deferred} {A W : World} {len cap : Nat} {ad : Option Addr} {ks : List Hs} {bm : Nat} {an : Option Addr} {nn cc : Nat} {rs : List Hs} {ga : Nat} {x1 x2 x3 x4 x5 x6 x7 x8 x9 x10 x11 x20 x21 x22 x23 x24 x25 x26 x27 x28 x29 x30 x31 x32 x33 x34 x35 x36 x37 x38 x39 x40 x41 x42 x43 x44 x45 x46 x47 x48 x49 x50 x51 x52 x53 x54 x55 x56 x57 x58 x59 x60 x61 x62 x63 x64 x65 x66 x67 x68 x69 x70 x71 x72 x73 x74 x75 x76 x77 x78 x79 : Value} (hn : Hid (len ≤ 100000)) (h24 : Hid (∀ V, Below A.heap.size A V → Calls Try.prog 24 #[.slice ad len cap] V (NamesP V ks))) (h33 : Hid (∀ V b, SM V b ks → Calls Try.prog 33 #[.map (some b)] V (RiseP V ks))) (hb : Hid (Below A.heap.size A W)) (hc : Hid (RowF W ks an nn cc rs)) (ha : Hid (NewA A W len ga))
    (hQ : Hid (∀ (bm : Nat) (an : Option Addr) (nn cc : Nat) (rs : List Hs) (ga gw gs : Nat) (V : World), Web0 A V ks len an nn cc rs ga gw gs → Q .normal { tmps := #[.slice ad len cap, x1, x2, .pointer (some ⟨gs, 0, none⟩), x4, x5, x6, x7, x8, x9, x10, x11, .slice ad len cap, .map (some bm), .slice an nn cc, .slice ad len cap, .int .i64 (len : Int), .slice (some ⟨ga, 0, none⟩) len len, .slice ad len cap, .int .i64 (len : Int), .slice (some ⟨gw, 0, none⟩) len len, .agg #[.slice an nn cc, .slice (some ⟨ga, 0, none⟩) len len, .slice (some ⟨gw, 0, none⟩) len len], x22, x23, x24, x25, x26, x27, x28, x29, x30, x31, x32, x33, x34, x35, x36, x37, x38, x39, x40, x41, x42, x43, x44, x45, x46, x47, x48, x49, x50, x51, x52, x53, x54, x55, x56, x57, x58, x59, x60, x61, x62, x63, x64, x65, x66, x67, x68, x69, x70, x71, x72, x73, x74, x75, x76, x77, x78, x79], defers := ds } V)) :
    wpAnyH Try.prog .any webOps (QN Q) (fun _ => True) 4 #[true, true, true, true, true, true, true, true, false, false, false, false] { tmps := #[.slice ad len cap, x1, x2, x3, x4, x5, x6, x7, x8, x9, x10, x11, .slice ad len cap, .map (some bm), .slice an nn cc, .slice ad len cap, .int .i64 (len : Int), .slice (some ⟨ga, 0, none⟩) len len, .slice ad len cap, .int .i64 (len : Int), x20, x21, x22, x23, x24, x25, x26, x27, x28, x29, x30, x31, x32, x33, x34, x35, x36, x37, x38, x39, x40, x41, x42, x43, x44, x45, x46, x47, x48, x49, x50, x51, x52, x53, x54, x55, x56, x57, x58, x59, x60, x61, x62, x63, x64, x65, x66, x67, x68, x69, x70, x71, x72, x73, x74, x75, x76, x77, x78, x79], defers := ds } W := by
  refine wpAnyH_ready (rs := [8, 10]) (by kernel_rfl) (by simp) ?_
  refine AllReadyH.cons (i := 8) (o := { dst := some 20, op := Op.makeSlice 56 (Operand.tmp 19) (Operand.tmp 19), type := 56, pos := "order.go:34", after := #[{ on := 7, ground := Ground.data }, { on := 7, ground := Ground.data }], guard := none }) rfl ?_ (AllReadyH.cons (i := 10) (o := { dst := some 3, op := Op.alloc 58, type := 0, pos := "order.go:34", after := #[], guard := none }) rfl ?_ AllReadyH.nil)
  · intro K1 hK1
    rw [if_pos (by rfl)]
    refine wp_mk56 (.tmp 19) (.tmp 19) rfl len rfl rfl hn.out ?_
    refine hK1.out _ _ trivial ?_
    intro _
    try simp only [Act.put, List.setIfInBounds_toArray, List.set_cons_zero, List.set_cons_succ]
    exact web1_2110 (gw := W.heap.size) hn h24 h33 (hb.out.alloc hb.out.size _) (hc.out.below (below_new W (.cells (List.replicate len (.int .i64 0)).toArray 3))) (ha.out.below (below_new W (.cells (List.replicate len (.int .i64 0)).toArray 3))) ⟨by simpa using Blk.new W (List.replicate len (.int .i64 0)).toArray 3, hb.out.size⟩ hQ
  · intro K1 hK1
    rw [if_pos (by rfl)]
    refine wp_al58 3 rfl rfl ?_
    refine hK1.out _ _ trivial ?_
    intro _
    try simp only [Act.put, List.setIfInBounds_toArray, List.set_cons_zero, List.set_cons_succ]
    exact web1_2101 (gs := W.heap.size) hn h24 h33 (hb.out.alloc hb.out.size _) (hc.out.below (below_new W (.cells #[.slice none 0 0, .slice none 0 0, .slice none 0 0] 58))) (ha.out.below (below_new W (.cells #[.slice none 0 0, .slice none 0 0, .slice none 0 0] 58))) ⟨by simpa using Blk.new W #[.slice none 0 0, .slice none 0 0, .slice none 0 0] 58, hb.out.size⟩ hQ
set_option maxRecDepth 100000 in
set_option maxHeartbeats 2000000 in
theorem web1_0011 {Q : Exit → Act → World → Prop} {ds : List Deferred} {A W : World} {len cap : Nat} {ad : Option Addr} {ks : List Hs} {gw : Nat} {gs : Nat} {x1 x2 x4 x5 x6 x7 x8 x9 x10 x11 x13 x14 x17 x21 x22 x23 x24 x25 x26 x27 x28 x29 x30 x31 x32 x33 x34 x35 x36 x37 x38 x39 x40 x41 x42 x43 x44 x45 x46 x47 x48 x49 x50 x51 x52 x53 x54 x55 x56 x57 x58 x59 x60 x61 x62 x63 x64 x65 x66 x67 x68 x69 x70 x71 x72 x73 x74 x75 x76 x77 x78 x79 : Value} (hn : Hid (len ≤ 100000)) (h24 : Hid (∀ V, Below A.heap.size A V → Calls Try.prog 24 #[.slice ad len cap] V (NamesP V ks))) (h33 : Hid (∀ V b, SM V b ks → Calls Try.prog 33 #[.map (some b)] V (RiseP V ks))) (hb : Hid (Below A.heap.size A W)) (hw : Hid (NewW A W len gw)) (hs : Hid (NewS A W gs))
    (hQ : Hid (∀ (bm : Nat) (an : Option Addr) (nn cc : Nat) (rs : List Hs) (ga gw gs : Nat) (V : World), Web0 A V ks len an nn cc rs ga gw gs → Q .normal { tmps := #[.slice ad len cap, x1, x2, .pointer (some ⟨gs, 0, none⟩), x4, x5, x6, x7, x8, x9, x10, x11, .slice ad len cap, .map (some bm), .slice an nn cc, .slice ad len cap, .int .i64 (len : Int), .slice (some ⟨ga, 0, none⟩) len len, .slice ad len cap, .int .i64 (len : Int), .slice (some ⟨gw, 0, none⟩) len len, .agg #[.slice an nn cc, .slice (some ⟨ga, 0, none⟩) len len, .slice (some ⟨gw, 0, none⟩) len len], x22, x23, x24, x25, x26, x27, x28, x29, x30, x31, x32, x33, x34, x35, x36, x37, x38, x39, x40, x41, x42, x43, x44, x45, x46, x47, x48, x49, x50, x51, x52, x53, x54, x55, x56, x57, x58, x59, x60, x61, x62, x63, x64, x65, x66, x67, x68, x69, x70, x71, x72, x73, x74, x75, x76, x77, x78, x79], defers := ds } V)) :
    wpAnyH Try.prog .any webOps (QN Q) (fun _ => True) 5 #[true, false, false, true, true, false, true, true, true, false, true, false] { tmps := #[.slice ad len cap, x1, x2, .pointer (some ⟨gs, 0, none⟩), x4, x5, x6, x7, x8, x9, x10, x11, .slice ad len cap, x13, x14, .slice ad len cap, .int .i64 (len : Int), x17, .slice ad len cap, .int .i64 (len : Int), .slice (some ⟨gw, 0, none⟩) len len, x21, x22, x23, x24, x25, x26, x27, x28, x29, x30, x31, x32, x33, x34, x35, x36, x37, x38, x39, x40, x41, x42, x43, x44, x45, x46, x47, x48, x49, x50, x51, x52, x53, x54, x55, x56, x57, x58, x59, x60, x61, x62, x63, x64, x65, x66, x67, x68, x69, x70, x71, x72, x73, x74, x75, x76, x77, x78, x79], defers := ds } W := by
  refine wpAnyH_ready (rs := [1, 5]) (by kernel_rfl) (by simp) ?_
  refine AllReadyH.cons (i := 1) (o := { dst := some 13, op := Op.call { callee := Callee.value (Operand.func 24), args := #[Operand.tmp 12], argTypes := #[22] }, type := 43, pos := "order.go:34", after := #[{ on := 0, ground := Ground.data }], guard := none }) rfl ?_ (AllReadyH.cons (i := 5) (o := { dst := some 17, op := Op.makeSlice 55 (Operand.tmp 16) (Operand.tmp 16), type := 55, pos := "order.go:34", after := #[{ on := 4, ground := Ground.data }, { on := 4, ground := Ground.data }], guard := none }) rfl ?_ AllReadyH.nil)
  · intro K1 hK1
    rw [if_pos (by rfl)]
    have H := h24.out W hb.out
    go_wp2_with fail
    refine H.mono ?_
    rintro e w1 ⟨b1, rfl, H1, HB1⟩
    dsimp only
    refine hK1.out _ _ trivial ?_
    intro _
    try simp only [Act.put, List.setIfInBounds_toArray, List.set_cons_zero, List.set_cons_succ]
    exact web1_1011 (bm := b1) hn h24 h33 (hb.out.trans (HB1.out.mono hb.out.size)) H1.out.1 (hw.out.below HB1.out) (hs.out.below HB1.out) hQ
  · intro K1 hK1
    rw [if_pos (by rfl)]
    refine wp_mk55 (.tmp 16) (.tmp 16) rfl len rfl rfl hn.out ?_
    refine hK1.out _ _ trivial ?_
    intro _
    try simp only [Act.put, List.setIfInBounds_toArray, List.set_cons_zero, List.set_cons_succ]
    exact web1_0111 (ga := W.heap.size) hn h24 h33 (hb.out.alloc hb.out.size _) ⟨by simpa using Blk.new W (List.replicate len (.slice none 0 0)).toArray 56, hb.out.size⟩ (hw.out.below (below_new W (.cells (List.replicate len (.slice none 0 0)).toArray 56))) (hs.out.below (below_new W (.cells (List.replicate len (.slice none 0 0)).toArray 56))) hQ
set_option maxRecDepth 100000 in
set_option maxHeartbeats 2000000 in
theorem web1_0101 {Q : Exit → Act → World → Prop} {ds : List Deferred} {A W : World} {len cap : Nat} {ad : Option Addr} {ks : List Hs} {ga : Nat} {gs : Nat} {x1 x2 x4 x5 x6 x7 x8 x9 x10 x11 x13 x14 x20 x21 x22 x23 x24 x25 x26 x27 x28 x29 x30 x31 x32 x33 x34 x35 x36 x37 x38 x39 x40 x41 x42 x43 x44 x45 x46 x47 x48 x49 x50 x51 x52 x53 x54 x55 x56 x57 x58 x59 x60 x61 x62 x63 x64 x65 x66 x67 x68 x69 x70 x71 x72 x73 x74 x75 x76 x77 x78 x79 : Value} (hn : Hid (len ≤ 100000)) (h24 : Hid (∀ V, Below A.heap.size A V → Calls Try.prog 24 #[.slice ad len cap] V (NamesP V ks))) (h33 : Hid (∀ V b, SM V b ks → Calls Try.prog 33 #[.map (some b)] V (RiseP V ks))) (hb : Hid (Below A.heap.size A W)) (ha : Hid (NewA A W len ga)) (hs : Hid (NewS A W gs))
    (hQ : Hid (∀ (bm : Nat) (an : Option Addr) (nn cc : Nat) (rs : List Hs) (ga gw gs : Nat) (V : World), Web0 A V ks len an nn cc rs ga gw gs → Q .normal { tmps := #[.slice ad len cap, x1, x2, .pointer (some ⟨gs, 0, none⟩), x4, x5, x6, x7, x8, x9, x10, x11, .slice ad len cap, .map (some bm), .slice an nn cc, .slice ad len cap, .int .i64 (len : Int), .slice (some ⟨ga, 0, none⟩) len len, .slice ad len cap, .int .i64 (len : Int), .slice (some ⟨gw, 0, none⟩) len len, .agg #[.slice an nn cc, .slice (some ⟨ga, 0, none⟩) len len, .slice (some ⟨gw, 0, none⟩) len len], x22, x23, x24, x25, x26, x27, x28, x29, x30, x31, x32, x33, x34, x35, x36, x37, x38, x39, x40, x41, x42, x43, x44, x45, x46, x47, x48, x49, x50, x51, x52, x53, x54, x55, x56, x57, x58, x59, x60, x61, x62, x63, x64, x65, x66, x67, x68, x69, x70, x71, x72, x73, x74, x75, x76, x77, x78, x79], defers := ds } V)) :
    wpAnyH Try.prog .any webOps (QN Q) (fun _ => True) 5 #[true, false, false, true, true, true, true, true, false, false, true, false] { tmps := #[.slice ad len cap, x1, x2, .pointer (some ⟨gs, 0, none⟩), x4, x5, x6, x7, x8, x9, x10, x11, .slice ad len cap, x13, x14, .slice ad len cap, .int .i64 (len : Int), .slice (some ⟨ga, 0, none⟩) len len, .slice ad len cap, .int .i64 (len : Int), x20, x21, x22, x23, x24, x25, x26, x27, x28, x29, x30, x31, x32, x33, x34, x35, x36, x37, x38, x39, x40, x41, x42, x43, x44, x45, x46, x47, x48, x49, x50, x51, x52, x53, x54, x55, x56, x57, x58, x59, x60, x61, x62, x63, x64, x65, x66, x67, x68, x69, x70, x71, x72, x73, x74, x75, x76, x77, x78, x79], defers := ds } W := by
  refine wpAnyH_ready (rs := [1, 8]) (by kernel_rfl) (by simp) ?_
  refine AllReadyH.cons (i := 1) (o := { dst := some 13, op := Op.call { callee := Callee.value (Operand.func 24), args := #[Operand.tmp 12], argTypes := #[22] }, type := 43, pos := "order.go:34", after := #[{ on := 0, ground := Ground.data }], guard := none }) rfl ?_ (AllReadyH.cons (i := 8) (o := { dst := some 20, op := Op.makeSlice 56 (Operand.tmp 19) (Operand.tmp 19), type := 56, pos := "order.go:34", after := #[{ on := 7, ground := Ground.data }, { on := 7, ground := Ground.data }], guard := none }) rfl ?_ AllReadyH.nil)
  · intro K1 hK1
    rw [if_pos (by rfl)]
    have H := h24.out W hb.out
    go_wp2_with fail
    refine H.mono ?_
    rintro e w1 ⟨b1, rfl, H1, HB1⟩
    dsimp only
    refine hK1.out _ _ trivial ?_
    intro _
    try simp only [Act.put, List.setIfInBounds_toArray, List.set_cons_zero, List.set_cons_succ]
    exact web1_1101 (bm := b1) hn h24 h33 (hb.out.trans (HB1.out.mono hb.out.size)) H1.out.1 (ha.out.below HB1.out) (hs.out.below HB1.out) hQ
  · intro K1 hK1
    rw [if_pos (by rfl)]
    refine wp_mk56 (.tmp 19) (.tmp 19) rfl len rfl rfl hn.out ?_
    refine hK1.out _ _ trivial ?_
    intro _
    try simp only [Act.put, List.setIfInBounds_toArray, List.set_cons_zero, List.set_cons_succ]
    exact web1_0111 (gw := W.heap.size) hn h24 h33 (hb.out.alloc hb.out.size _) (ha.out.below (below_new W (.cells (List.replicate len (.int .i64 0)).toArray 3))) ⟨by simpa using Blk.new W (List.replicate len (.int .i64 0)).toArray 3, hb.out.size⟩ (hs.out.below (below_new W (.cells (List.replicate len (.int .i64 0)).toArray 3))) hQ
set_option maxRecDepth 100000 in
set_option maxHeartbeats 2000000 in
theorem web1_0110 {Q : Exit → Act → World → Prop} {ds : List Deferred} {A W : World} {len cap : Nat} {ad : Option Addr} {ks : List Hs} {ga : Nat} {gw : Nat} {x1 x2 x3 x4 x5 x6 x7 x8 x9 x10 x11 x13 x14 x21 x22 x23 x24 x25 x26 x27 x28 x29 x30 x31 x32 x33 x34 x35 x36 x37 x38 x39 x40 x41 x42 x43 x44 x45 x46 x47 x48 x49 x50 x51 x52 x53 x54 x55 x56 x57 x58 x59 x60 x61 x62 x63 x64 x65 x66 x67 x68 x69 x70 x71 x72 x73 x74 x75 x76 x77 x78 x79 : Value} (hn : Hid (len ≤ 100000)) (h24 : Hid (∀ V, Below A.heap.size A V → Calls Try.prog 24 #[.slice ad len cap] V (NamesP V ks))) (h33 : Hid (∀ V b, SM V b ks → Calls Try.prog 33 #[.map (some b)] V (RiseP V ks))) (hb : Hid (Below A.heap.size A W)) (ha : Hid (NewA A W len ga)) (hw : Hid (NewW A W len gw))
    (hQ : Hid (∀ (bm : Nat) (an : Option Addr) (nn cc : Nat) (rs : List Hs) (ga gw gs : Nat) (V : World), Web0 A V ks len an nn cc rs ga gw gs → Q .normal { tmps := #[.slice ad len cap, x1, x2, .pointer (some ⟨gs, 0, none⟩), x4, x5, x6, x7, x8, x9, x10, x11, .slice ad len cap, .map (some bm), .slice an nn cc, .slice ad len cap, .int .i64 (len : Int), .slice (some ⟨ga, 0, none⟩) len len, .slice ad len cap, .int .i64 (len : Int), .slice (some ⟨gw, 0, none⟩) len len, .agg #[.slice an nn cc, .slice (some ⟨ga, 0, none⟩) len len, .slice (some ⟨gw, 0, none⟩) len len], x22, x23, x24, x25, x26, x27, x28, x29, x30, x31, x32, x33, x34, x35, x36, x37, x38, x39, x40, x41, x42, x43, x44, x45, x46, x47, x48, x49, x50, x51, x52, x53, x54, x55, x56, x57, x58, x59, x60, x61, x62, x63, x64, x65, x66, x67, x68, x69, x70, x71, x72, x73, x74, x75, x76, x77, x78, x79], defers := ds } V)) :
    wpAnyH Try.prog .any webOps (QN Q) (fun _ => True) 5 #[true, false, false, true, true, true, true, true, true, false, false, false] { tmps := #[.slice ad len cap, x1, x2, x3, x4, x5, x6, x7, x8, x9, x10, x11, .slice ad len cap, x13, x14, .slice ad len cap, .int .i64 (len : Int), .slice (some ⟨ga, 0, none⟩) len len, .slice ad len cap, .int .i64 (len : Int), .slice (some ⟨gw, 0, none⟩) len len, x21, x22, x23, x24, x25, x26, x27, x28, x29, x30, x31, x32, x33, x34, x35, x36, x37, x38, x39, x40, x41, x42, x43, x44, x45, x46, x47, x48, x49, x50, x51, x52, x53, x54, x55, x56, x57, x58, x59, x60, x61, x62, x63, x64, x65, x66, x67, x68, x69, x70, x71, x72, x73, x74, x75, x76, x77, x78, x79], defers := ds } W := by
  refine wpAnyH_ready (rs := [1, 10]) (by kernel_rfl) (by simp) ?_
  refine AllReadyH.cons (i := 1) (o := { dst := some 13, op := Op.call { callee := Callee.value (Operand.func 24), args := #[Operand.tmp 12], argTypes := #[22] }, type := 43, pos := "order.go:34", after := #[{ on := 0, ground := Ground.data }], guard := none }) rfl ?_ (AllReadyH.cons (i := 10) (o := { dst := some 3, op := Op.alloc 58, type := 0, pos := "order.go:34", after := #[], guard := none }) rfl ?_ AllReadyH.nil)
  · intro K1 hK1
    rw [if_pos (by rfl)]
    have H := h24.out W hb.out
    go_wp2_with fail
    refine H.mono ?_
    rintro e w1 ⟨b1, rfl, H1, HB1⟩
    dsimp only
    refine hK1.out _ _ trivial ?_
    intro _
    try simp only [Act.put, List.setIfInBounds_toArray, List.set_cons_zero, List.set_cons_succ]
    exact web1_1110 (bm := b1) hn h24 h33 (hb.out.trans (HB1.out.mono hb.out.size)) H1.out.1 (ha.out.below HB1.out) (hw.out.below HB1.out) hQ
  · intro K1 hK1
    rw [if_pos (by rfl)]
    refine wp_al58 3 rfl rfl ?_
    refine hK1.out _ _ trivial ?_
    intro _
    try simp only [Act.put, List.setIfInBounds_toArray, List.set_cons_zero, List.set_cons_succ]
    exact web1_0111 (gs := W.heap.size) hn h24 h33 (hb.out.alloc hb.out.size _) (ha.out.below (below_new W (.cells #[.slice none 0 0, .slice none 0 0, .slice none 0 0] 58))) (hw.out.below (below_new W (.cells #[.slice none 0 0, .slice none 0 0, .slice none 0 0] 58))) ⟨by simpa using Blk.new W #[.slice none 0 0, .slice none 0 0, .slice none 0 0] 58, hb.out.size⟩ hQ
set_option maxRecDepth 100000 in
set_option maxHeartbeats 2000000 in
theorem web1_1001 {Q : Exit → Act → World → Prop} {ds : List Deferred} {A W : World} {len cap : Nat} {ad : Option Addr} {ks : List Hs} {bm : Nat} {gs : Nat} {x1 x2 x4 x5 x6 x7 x8 x9 x10 x11 x14 x17 x20 x21 x22 x23 x24 x25 x26 x27 x28 x29 x30 x31 x32 x33 x34 x35 x36 x37 x38 x39 x40 x41 x42 x43 x44 x45 x46 x47 x48 x49 x50 x51 x52 x53 x54 x55 x56 x57 x58 x59 x60 x61 x62 x63 x64 x65 x66 x67 x68 x69 x70 x71 x72 x73 x74 x75 x76 x77 x78 x79 : Value} (hn : Hid (len ≤ 100000)) (h24 : Hid (∀ V, Below A.heap.size A V → Calls Try.prog 24 #[.slice ad len cap] V (NamesP V ks))) (h33 : Hid (∀ V b, SM V b ks → Calls Try.prog 33 #[.map (some b)] V (RiseP V ks))) (hb : Hid (Below A.heap.size A W)) (hc : Hid (MapF W bm ks)) (hs : Hid (NewS A W gs))
    (hQ : Hid (∀ (bm : Nat) (an : Option Addr) (nn cc : Nat) (rs : List Hs) (ga gw gs : Nat) (V : World), Web0 A V ks len an nn cc rs ga gw gs → Q .normal { tmps := #[.slice ad len cap, x1, x2, .pointer (some ⟨gs, 0, none⟩), x4, x5, x6, x7, x8, x9, x10, x11, .slice ad len cap, .map (some bm), .slice an nn cc, .slice ad len cap, .int .i64 (len : Int), .slice (some ⟨ga, 0, none⟩) len len, .slice ad len cap, .int .i64 (len : Int), .slice (some ⟨gw, 0, none⟩) len len, .agg #[.slice an nn cc, .slice (some ⟨ga, 0, none⟩) len len, .slice (some ⟨gw, 0, none⟩) len len], x22, x23, x24, x25, x26, x27, x28, x29, x30, x31, x32, x33, x34, x35, x36, x37, x38, x39, x40, x41, x42, x43, x44, x45, x46, x47, x48, x49, x50, x51, x52, x53, x54, x55, x56, x57, x58, x59, x60, x61, x62, x63, x64, x65, x66, x67, x68, x69, x70, x71, x72, x73, x74, x75, x76, x77, x78, x79], defers := ds } V)) :
    wpAnyH Try.prog .any webOps (QN Q) (fun _ => True) 5 #[true, true, false, true, true, false, true, true, false, false, true, false] { tmps := #[.slice ad len cap, x1, x2, .pointer (some ⟨gs, 0, none⟩), x4, x5, x6, x7, x8, x9, x10, x11, .slice ad len cap, .map (some bm), x14, .slice ad len cap, .int .i64 (len : Int), x17, .slice ad len cap, .int .i64 (len : Int), x20, x21, x22, x23, x24, x25, x26, x27, x28, x29, x30, x31, x32, x33, x34, x35, x36, x37, x38, x39, x40, x41, x42, x43, x44, x45, x46, x47, x48, x49, x50, x51, x52, x53, x54, x55, x56, x57, x58, x59, x60, x61, x62, x63, x64, x65, x66, x67, x68, x69, x70, x71, x72, x73, x74, x75, x76, x77, x78, x79], defers := ds } W := by
  refine wpAnyH_ready (rs := [2, 5, 8]) (by kernel_rfl) (by simp) ?_
  refine AllReadyH.cons (i := 2) (o := { dst := some 14, op := Op.call { callee := Callee.value (Operand.func 33), args := #[Operand.tmp 13], argTypes := #[43] }, type := 26, pos := "order.go:34", after := #[{ on := 1, ground := Ground.data }, { on := 1, ground := Ground.chain }], guard := none }) rfl ?_ (AllReadyH.cons (i := 5) (o := { dst := some 17, op := Op.makeSlice 55 (Operand.tmp 16) (Operand.tmp 16), type := 55, pos := "order.go:34", after := #[{ on := 4, ground := Ground.data }, { on := 4, ground := Ground.data }], guard := none }) rfl ?_ (AllReadyH.cons (i := 8) (o := { dst := some 20, op := Op.makeSlice 56 (Operand.tmp 19) (Operand.tmp 19), type := 56, pos := "order.go:34", after := #[{ on := 7, ground := Ground.data }, { on := 7, ground := Ground.data }], guard := none }) rfl ?_ AllReadyH.nil))
  · intro K1 hK1
    rw [if_pos (by rfl)]
    have H := h33.out W bm hc.out
    go_wp2_with fail
    refine H.mono ?_
    rintro e w1 ⟨an, nn, cc, rs, rfl, H1, HB1⟩
    dsimp only
    refine hK1.out _ _ trivial ?_
    intro _
    try simp only [Act.put, List.setIfInBounds_toArray, List.set_cons_zero, List.set_cons_succ]
    exact web1_2001 (bm := bm) (an := an) (nn := nn) (cc := cc) (rs := rs) hn h24 h33 (hb.out.trans (HB1.out.mono hb.out.size)) H1.out (hs.out.below HB1.out) hQ
  · intro K1 hK1
    rw [if_pos (by rfl)]
    refine wp_mk55 (.tmp 16) (.tmp 16) rfl len rfl rfl hn.out ?_
    refine hK1.out _ _ trivial ?_
    intro _
    try simp only [Act.put, List.setIfInBounds_toArray, List.set_cons_zero, List.set_cons_succ]
    exact web1_1101 (ga := W.heap.size) hn h24 h33 (hb.out.alloc hb.out.size _) (hc.out.below (below_new W (.cells (List.replicate len (.slice none 0 0)).toArray 56))) ⟨by simpa using Blk.new W (List.replicate len (.slice none 0 0)).toArray 56, hb.out.size⟩ (hs.out.below (below_new W (.cells (List.replicate len (.slice none 0 0)).toArray 56))) hQ
  · intro K1 hK1
    rw [if_pos (by rfl)]
    refine wp_mk56 (.tmp 19) (.tmp 19) rfl len rfl rfl hn.out ?_
    refine hK1.out _ _ trivial ?_
    intro _
    try simp only [Act.put, List.setIfInBounds_toArray, List.set_cons_zero, List.set_cons_succ]
    exact web1_1011 (gw := W.heap.size) hn h24 h33 (hb.out.alloc hb.out.size _) (hc.out.below (below_new W (.cells (List.replicate len (.int .i64 0)).toArray 3))) ⟨by simpa using Blk.new W (List.replicate len (.int .i64 0)).toArray 3, hb.out.size⟩ (hs.out.below (below_new W (.cells (List.replicate len (.int .i64 0)).toArray 3))) hQ
set_option maxRecDepth 100000 in
set_option maxHeartbeats 2000000 in
theorem web1_1010 {Q : Exit → Act → World → Prop} {ds : List Deferred} {A W : World} {len cap : Nat} {ad : Option Addr} {ks : List Hs} {bm : Nat} {gw : Nat} {x1 x2 x3 x4 x5 x6 x7 x8 x9 x10 x11 x14 x17 x21 x22 x23 x24 x25 x26 x27 x28 x29 x30 x31 x32 x33 x34 x35 x36 x37 x38 x39 x40 x41 x42 x43 x44 x45 x46 x47 x48 x49 x50 x51 x52 x53 x54 x55 x56 x57 x58 x59 x60 x61 x62 x63 x64 x65 x66 x67 x68 x69 x70 x71 x72 x73 x74 x75 x76 x77 x78 x79 : Value} (hn : Hid (len ≤ 100000)) (h24 : Hid (∀ V, Below A.heap.size A V → Calls Try.prog 24 #[.slice ad len cap] V (NamesP V ks))) (h33 : Hid (∀ V b, SM V b ks → Calls Try.prog 33 #[.map (some b)] V (RiseP V ks))) (hb : Hid (Below A.heap.size A W)) (hc : Hid (MapF W bm ks)) (hw : Hid (NewW A W len gw))
    (hQ : Hid (∀ (bm : Nat) (an : Option Addr) (nn cc : Nat) (rs : List Hs) (ga gw gs : Nat) (V : World), Web0 A V ks len an nn cc rs ga gw gs → Q .normal { tmps := #[.slice ad len cap, x1, x2, .pointer (some ⟨gs, 0, none⟩), x4, x5, x6, x7, x8, x9, x10, x11, .slice ad len cap, .map (some bm), .slice an nn cc, .slice ad len cap, .int .i64 (len : Int), .slice (some ⟨ga, 0, none⟩) len len, .slice ad len cap, .int .i64 (len : Int), .slice (some ⟨gw, 0, none⟩) len len, .agg #[.slice an nn cc, .slice (some ⟨ga, 0, none⟩) len len, .slice (some ⟨gw, 0, none⟩) len len], x22, x23, x24, x25, x26, x27, x28, x29, x30, x31, x32, x33, x34, x35, x36, x37, x38, x39, x40, x41, x42, x43, x44, x45, x46, x47, x48, x49, x50, x51, x52, x53, x54, x55, x56, x57, x58, x59, x60, x61, x62, x63, x64, x65, x66, x67, x68, x69, x70, x71, x72, x73, x74, x75, x76, x77, x78, x79], defers := ds } V)) :
    wpAnyH Try.prog .any webOps (QN Q) (fun _ => True) 5 #[true, true, false, true, true, false, true, true, true, false, false, false] { tmps := #[.slice ad len cap, x1, x2, x3, x4, x5, x6, x7, x8, x9, x10, x11, .slice ad len cap, .map (some bm), x14, .slice ad len cap, .int .i64 (len : Int), x17, .slice ad len cap, .int .i64 (len : Int), .slice (some ⟨gw, 0, none⟩) len len, x21, x22, x23, x24, x25, x26, x27, x28, x29, x30, x31, x32, x33, x34, x35, x36, x37, x38, x39, x40, x41, x42, x43, x44, x45, x46, x47, x48, x49, x50, x51, x52, x53, x54, x55, x56, x57, x58, x59, x60, x61, x62, x63, x64, x65, x66, x67, x68, x69, x70, x71, x72, x73, x74, x75, x76, x77, x78, x79], defers := ds } W := by
  refine wpAnyH_ready (rs := [2, 5, 10]) (by kernel_rfl) (by simp) ?_
  refine AllReadyH.cons (i := 2) (o := { dst := some 14, op := Op.call { callee := Callee.value (Operand.func 33), args := #[Operand.tmp 13], argTypes := #[43] }, type := 26, pos := "order.go:34", after := #[{ on := 1, ground := Ground.data }, { on := 1, ground := Ground.chain }], guard := none }) rfl ?_ (AllReadyH.cons (i := 5) (o := { dst := some 17, op := Op.makeSlice 55 (Operand.tmp 16) (Operand.tmp 16), type := 55, pos := "order.go:34", after := #[{ on := 4, ground := Ground.data }, { on := 4, ground := Ground.data }], guard := none }) rfl ?_ (AllReadyH.cons (i := 10) (o := { dst := some 3, op := Op.alloc 58, type := 0, pos := "order.go:34", after := #[], guard := none }) rfl ?_ AllReadyH.nil))
  · intro K1 hK1
    rw [if_pos (by rfl)]
    have H := h33.out W bm hc.out
    go_wp2_with fail
    refine H.mono ?_
    rintro e w1 ⟨an, nn, cc, rs, rfl, H1, HB1⟩
    dsimp only
    refine hK1.out _ _ trivial ?_
    intro _
    try simp only [Act.put, List.setIfInBounds_toArray, List.set_cons_zero, List.set_cons_succ]
    exact web1_2010 (bm := bm) (an := an) (nn := nn) (cc := cc) (rs := rs) hn h24 h33 (hb.out.trans (HB1.out.mono hb.out.size)) H1.out (hw.out.below HB1.out) hQ
  · intro K1 hK1
    rw [if_pos (by rfl)]
    refine wp_mk55 (.tmp 16) (.tmp 16) rfl len rfl rfl hn.out ?_
    refine hK1.out _ _ trivial ?_
    intro _
    try simp only [Act.put, List.setIfInBounds_toArray, List.set_cons_zero, List.set_cons_succ]
    exact web1_1110 (ga := W.heap.size) hn h24 h33 (hb.out.alloc hb.out.size _) (hc.out.below (below_new W (.cells (List.replicate len (.slice none 0 0)).toArray 56))) ⟨by simpa using Blk.new W (List.replicate len (.slice none 0 0)).toArray 56, hb.out.size⟩ (hw.out.below (below_new W (.cells (List.replicate len (.slice none 0 0)).toArray 56))) hQ
  · intro K1 hK1
    rw [if_pos (by rfl)]
    refine wp_al58 3 rfl rfl ?_
    refine hK1.out _ _ trivial ?_
    intro _
    try simp only [Act.put, List.setIfInBounds_toArray, List.set_cons_zero, List.set_cons_succ]
    exact web1_1011 (gs := W.heap.size) hn h24 h33 (hb.out.alloc hb.out.size _) (hc.out.below (below_new W (.cells #[.slice none 0 0, .slice none 0 0, .slice none 0 0] 58))) (hw.out.below (below_new W (.cells #[.slice none 0 0, .slice none 0 0, .slice none 0 0] 58))) ⟨by simpa using Blk.new W #[.slice none 0 0, .slice none 0 0, .slice none 0 0] 58, hb.out.size⟩ hQ
set_option maxRecDepth 100000 in
set_option maxHeartbeats 2000000 in
theorem web1_1100 {Q : Exit → Act → World → Prop} {ds : List Deferred} {A W : World} {len cap : Nat} {ad : Option Addr} {ks : List Hs} {bm : Nat} {ga : Nat} {x1 x2 x3 x4 x5 x6 x7 x8 x9 x10 x11 x14 x20 x21 x22 x23 x24 x25 x26 x27 x28 x29 x30 x31 x32 x33 x34 x35 x36 x37 x38 x39 x40 x41 x42 x43 x44 x45 x46 x47 x48 x49 x50 x51 x52 x53 x54 x55 x56 x57 x58 x59 x60 x61 x62 x63 x64 x65 x66 x67 x68 x69 x70 x71 x72 x73 x74 x75 x76 x77 x78 x79 : Value} (hn : Hid (len ≤ 100000)) (h24 : Hid (∀ V, Below A.heap.size A V → Calls Try.prog 24 #[.slice ad len cap] V (NamesP V ks))) (h33 : Hid (∀ V b, SM V b ks → Calls Try.prog 33 #[.map (some b)] V (RiseP V ks))) (hb : Hid (Below A.heap.size A W)) (hc : Hid (MapF W bm ks)) (ha : Hid (NewA A W len ga))
    (hQ : Hid (∀ (bm : Nat) (an : Option Addr) (nn cc : Nat) (rs : List Hs) (ga gw gs : Nat) (V : World), Web0 A V ks len an nn cc rs ga gw gs → Q .normal { tmps := #[.slice ad len cap, x1, x2, .pointer (some ⟨gs, 0, none⟩), x4, x5, x6, x7, x8, x9, x10, x11, .slice ad len cap, .map (some bm), .slice an nn cc, .slice ad len cap, .int .i64 (len : Int), .slice (some ⟨ga, 0, none⟩) len len, .slice ad len cap, .int .i64 (len : Int), .slice (some ⟨gw, 0, none⟩) len len, .agg #[.slice an nn cc, .slice (some ⟨ga, 0, none⟩) len len, .slice (some ⟨gw, 0, none⟩) len len], x22, x23, x24, x25, x26, x27, x28, x29, x30, x31, x32, x33, x34, x35, x36, x37, x38, x39, x40, x41, x42, x43, x44, x45, x46, x47, x48, x49, x50, x51, x52, x53, x54, x55, x56, x57, x58, x59, x60, x61, x62, x63, x64, x65, x66, x67, x68, x69, x70, x71, x72, x73, x74, x75, x76, x77, x78, x79], defers := ds } V)) :
    wpAnyH Try.prog .any webOps (QN Q) (fun _ => True) 5 #[true, true, false, true, true, true, true, true, false, false, false, false] { tmps := #[.slice ad len cap, x1, x2, x3, x4, x5, x6, x7, x8, x9, x10, x11, .slice ad len cap, .map (some bm), x14, .slice ad len cap, .int .i64 (len : Int), .slice (some ⟨ga, 0, none⟩) len len, .slice ad len cap, .int .i64 (len : Int), x20, x21, x22, x23, x24, x25, x26, x27, x28, x29, x30, x31, x32, x33, x34, x35, x36, x37, x38, x39, x40, x41, x42, x43, x44, x45, x46, x47, x48, x49, x50, x51, x52, x53, x54, x55, x56, x57, x58, x59, x60, x61, x62, x63, x64, x65, x66, x67, x68, x69, x70, x71, x72, x73, x74, x75, x76, x77, x78, x79], defers := ds } W := by
  refine wpAnyH_ready (rs := [2, 8, 10]) (by kernel_rfl) (by simp) ?_
  refine AllReadyH.cons (i := 2) (o := { dst := some 14, op := Op.call { callee := Callee.value (Operand.func 33), args := #[Operand.tmp 13], argTypes := #[43] }, type := 26, pos := "order.go:34", after := #[{ on := 1, ground := Ground.data }, { on := 1, ground := Ground.chain }], guard := none }) rfl ?_ (AllReadyH.cons (i := 8) (o := { dst := some 20, op := Op.makeSlice 56 (Operand.tmp 19) (Operand.tmp 19), type := 56, pos := "order.go:34", after := #[{ on := 7, ground := Ground.data }, { on := 7, ground := Ground.data }], guard := none }) rfl ?_ (AllReadyH.cons (i := 10) (o := { dst := some 3, op := Op.alloc 58, type := 0, pos := "order.go:34", after := #[], guard := none }) rfl ?_ AllReadyH.nil))
  · intro K1 hK1
    rw [if_pos (by rfl)]
    have H := h33.out W bm hc.out
    go_wp2_with fail
    refine H.mono ?_
    rintro e w1 ⟨an, nn, cc, rs, rfl, H1, HB1⟩
    dsimp only
    refine hK1.out _ _ trivial ?_
    intro _
    try simp only [Act.put, List.setIfInBounds_toArray, List.set_cons_zero, List.set_cons_succ]
    exact web1_2100 (bm := bm) (an := an) (nn := nn) (cc := cc) (rs := rs) hn h24 h33 (hb.out.trans (HB1.out.mono hb.out.size)) H1.out (ha.out.below HB1.out) hQ
  · intro K1 hK1
    rw [if_pos (by rfl)]
    refine wp_mk56 (.tmp 19) (.tmp 19) rfl len rfl rfl hn.out ?_
    refine hK1.out _ _ trivial ?_
    intro _
    try simp only [Act.put, List.setIfInBounds_toArray, List.set_cons_zero, List.set_cons_succ]
    exact web1_1110 (gw := W.heap.size) hn h24 h33 (hb.out.alloc hb.out.size _) (hc.out.below (below_new W (.cells (List.replicate len (.int .i64 0)).toArray 3))) (ha.out.below (below_new W (.cells (List.replicate len (.int .i64 0)).toArray 3))) ⟨by simpa using Blk.new W (List.replicate len (.int .i64 0)).toArray 3, hb.out.size⟩ hQ
  · intro K1 hK1
    rw [if_pos (by rfl)]
    refine wp_al58 3 rfl rfl ?_
    refine hK1.out _ _ trivial ?_
    intro _
    try simp only [Act.put, List.setIfInBounds_toArray, List.set_cons_zero, List.set_cons_succ]
    exact web1_1101 (gs := W.heap.size) hn h24 h33 (hb.out.alloc hb.out.size _) (hc.out.below (below_new W (.cells #[.slice none 0 0, .slice none 0 0, .slice none 0 0] 58))) (ha.out.below (below_new W (.cells #[.slice none 0 0, .slice none 0 0, .slice none 0 0] 58))) ⟨by simpa using Blk.new W #[.slice none 0 0, .slice none 0 0, .slice none 0 0] 58, hb.out.size⟩ hQ
set_option maxRecDepth 100000 in
set_option maxHeartbeats 2000000 in
theorem web1_2000 {Q : Exit → Act → World → Prop} {ds : List Deferred} {A W : World} {len cap : Nat} {ad : Option Addr} {ks : List Hs} {bm : Nat} {an : Option Addr} {nn cc : Nat} {rs : List Hs} {x1 x2 x3 x4 x5 x6 x7 x8 x9 x10 x11 x17 x20 x21 x22 x23 x24 x25 x26 x27 x28 x29 x30 x31 x32 x33 x34 x35 x36 x37 x38 x39 x40 x41 x42 x43 x44 x45 x46 x47 x48 x49 x50 x51 x52 x53 x54 x55 x56 x57 x58 x59 x60 x61 x62 x63 x64 x65 x66 x67 x68 x69 x70 x71 x72 x73 x74 x75 x76 x77 x78 x79 : Value} (hn : Hid (len ≤ 100000)) (h24 : Hid (∀ V, Below A.heap.size A V → Calls Try.prog 24 #[.slice ad len cap] V (NamesP V ks))) (h33 : Hid (∀ V b, SM V b ks → Calls Try.prog 33 #[.map (some b)] V (RiseP V ks))) (hb : Hid (Below A.heap.size A W)) (hc : Hid (RowF W ks an nn cc rs))
    (hQ : Hid (∀ (bm : Nat) (an : Option Addr) (nn cc : Nat) (rs : List Hs) (ga gw gs : Nat) (V : World), Web0 A V ks len an nn cc rs ga gw gs → Q .normal { tmps := #[.slice ad len cap, x1, x2, .pointer (some ⟨gs, 0, none⟩), x4, x5, x6, x7, x8, x9, x10, x11, .slice ad len cap, .map (some bm), .slice an nn cc, .slice ad len cap, .int .i64 (len : Int), .slice (some ⟨ga, 0, none⟩) len len, .slice ad len cap, .int .i64 (len : Int), .slice (some ⟨gw, 0, none⟩) len len, .agg #[.slice an nn cc, .slice (some ⟨ga, 0, none⟩) len len, .slice (some ⟨gw, 0, none⟩) len len], x22, x23, x24, x25, x26, x27, x28, x29, x30, x31, x32, x33, x34, x35, x36, x37, x38, x39, x40, x41, x42, x43, x44, x45, x46, x47, x48, x49, x50, x51, x52, x53, x54, x55, x56, x57, x58, x59, x60, x61, x62, x63, x64, x65, x66, x67, x68, x69, x70, x71, x72, x73, x74, x75, x76, x77, x78, x79], defers := ds } V)) :
    wpAnyH Try.prog .any webOps (QN Q) (fun _ => True) 5 #[true, true, true, true, true, false, true, true, false, false, false, false] { tmps := #[.slice ad len cap, x1, x2, x3, x4, x5, x6, x7, x8, x9, x10, x11, .slice ad len cap, .map (some bm), .slice an nn cc, .slice ad len cap, .int .i64 (len : Int), x17, .slice ad len cap, .int .i64 (len : Int), x20, x21, x22, x23, x24, x25, x26, x27, x28, x29, x30, x31, x32, x33, x34, x35, x36, x37, x38, x39, x40, x41, x42, x43, x44, x45, x46, x47, x48, x49, x50, x51, x52, x53, x54, x55, x56, x57, x58, x59, x60, x61, x62, x63, x64, x65, x66, x67, x68, x69, x70, x71, x72, x73, x74, x75, x76, x77, x78, x79], defers := ds } W := by
  refine wpAnyH_ready (rs := [5, 8, 10]) (by kernel_rfl) (by simp) ?_
  refine AllReadyH.cons (i := 5) (o := { dst := some 17, op := Op.makeSlice 55 (Operand.tmp 16) (Operand.tmp 16), type := 55, pos := "order.go:34", after := #[{ on := 4, ground := Ground.data }, { on := 4, ground := Ground.data }], guard := none }) rfl ?_ (AllReadyH.cons (i := 8) (o := { dst := some 20, op := Op.makeSlice 56 (Operand.tmp 19) (Operand.tmp 19), type := 56, pos := "order.go:34", after := #[{ on := 7, ground := Ground.data }, { on := 7, ground := Ground.data }], guard := none }) rfl ?_ (AllReadyH.cons (i := 10) (o := { dst := some 3, op := Op.alloc 58, type := 0, pos := "order.go:34", after := #[], guard := none }) rfl ?_ AllReadyH.nil))
  · intro K1 hK1
    rw [if_pos (by rfl)]
    refine wp_mk55 (.tmp 16) (.tmp 16) rfl len rfl rfl hn.out ?_
    refine hK1.out _ _ trivial ?_
    intro _
    try simp only [Act.put, List.setIfInBounds_toArray, List.set_cons_zero, List.set_cons_succ]
    exact web1_2100 (ga := W.heap.size) hn h24 h33 (hb.out.alloc hb.out.size _) (hc.out.below (below_new W (.cells (List.replicate len (.slice none 0 0)).toArray 56))) ⟨by simpa using Blk.new W (List.replicate len (.slice none 0 0)).toArray 56, hb.out.size⟩ hQ
  · intro K1 hK1
    rw [if_pos (by rfl)]
    refine wp_mk56 (.tmp 19) (.tmp 19) rfl len rfl rfl hn.out ?_
    refine hK1.out _ _ trivial ?_
    intro _
    try simp only [Act.put, List.setIfInBounds_toArray, List.set_cons_zero, List.set_cons_succ]
    exact web1_2010 (gw := W.heap.size) hn h24 h33 (hb.out.alloc hb.out.size _) (hc.out.below (below_new W (.cells (List.replicate len (.int .i64 0)).toArray 3))) ⟨by simpa using Blk.new W (List.replicate len (.int .i64 0)).toArray 3, hb.out.size⟩ hQ
  · intro K1 hK1
    rw [if_pos (by rfl)]
    refine wp_al58 3 rfl rfl ?_
    refine hK1.out _ _ trivial ?_
    intro _
    try simp only [Act.put, List.setIfInBounds_toArray, List.set_cons_zero, List.set_cons_succ]
    exact web1_2001 (gs := W.heap.size) hn h24 h33 (hb.out.alloc hb.out.size _) (hc.out.below (below_new W (.cells #[.slice none 0 0, .slice none 0 0, .slice none 0 0] 58))) ⟨by simpa using Blk.new W #[.slice none 0 0, .slice none 0 0, .slice none 0 0] 58, hb.out.size⟩ hQ
set_option maxRecDepth 100000 in
set_option maxHeartbeats 2000000 in
theorem web1_0001 {Q : Exit → Act → World → Prop} {ds : List Deferred} {A W : World} {len cap : Nat} {ad : Option Addr} {ks : List Hs} {gs : Nat} {x1 x2 x4 x5 x6 x7 x8 x9 x10 x11 x13 x14 x17 x20 x21 x22 x23 x24 x25 x26 x27 x28 x29 x30 x31 x32 x33 x34 x35 x36 x37 x38 x39 x40 x41 x42 x43 x44 x45 x46 x47 x48 x49 x50 x51 x52 x53 x54 x55 x56 x57 x58 x59 x60 x61 x62 x63 x64 x65 x66 x67 x68 x69 x70 x71 x72 x73 x74 x75 x76 x77 x78 x79 : Value} (hn : Hid (len ≤ 100000)) (h24 : Hid (∀ V, Below A.heap.size A V → Calls Try.prog 24 #[.slice ad len cap] V (NamesP V ks))) (h33 : Hid (∀ V b, SM V b ks → Calls Try.prog 33 #[.map (some b)] V (RiseP V ks))) (hb : Hid (Below A.heap.size A W)) (hs : Hid (NewS A W gs))
    (hQ : Hid (∀ (bm : Nat) (an : Option Addr) (nn cc : Nat) (rs : List Hs) (ga gw gs : Nat) (V : World), Web0 A V ks len an nn cc rs ga gw gs → Q .normal { tmps := #[.slice ad len cap, x1, x2, .pointer (some ⟨gs, 0, none⟩), x4, x5, x6, x7, x8, x9, x10, x11, .slice ad len cap, .map (some bm), .slice an nn cc, .slice ad len cap, .int .i64 (len : Int), .slice (some ⟨ga, 0, none⟩) len len, .slice ad len cap, .int .i64 (len : Int), .slice (some ⟨gw, 0, none⟩) len len, .agg #[.slice an nn cc, .slice (some ⟨ga, 0, none⟩) len len, .slice (some ⟨gw, 0, none⟩) len len], x22, x23, x24, x25, x26, x27, x28, x29, x30, x31, x32, x33, x34, x35, x36, x37, x38, x39, x40, x41, x42, x43, x44, x45, x46, x47, x48, x49, x50, x51, x52, x53, x54, x55, x56, x57, x58, x59, x60, x61, x62, x63, x64, x65, x66, x67, x68, x69, x70, x71, x72, x73, x74, x75, x76, x77, x78, x79], defers := ds } V)) :
    wpAnyH Try.prog .any webOps (QN Q) (fun _ => True) 6 #[true, false, false, true, true, false, true, true, false, false, true, false] { tmps := #[.slice ad len cap, x1, x2, .pointer (some ⟨gs, 0, none⟩), x4, x5, x6, x7, x8, x9, x10, x11, .slice ad len cap, x13, x14, .slice ad len cap, .int .i64 (len : Int), x17, .slice ad len cap, .int .i64 (len : Int), x20, x21, x22, x23, x24, x25, x26, x27, x28, x29, x30, x31, x32, x33, x34, x35, x36, x37, x38, x39, x40, x41, x42, x43, x44, x45, x46, x47, x48, x49, x50, x51, x52, x53, x54, x55, x56, x57, x58, x59, x60, x61, x62, x63, x64, x65, x66, x67, x68, x69, x70, x71, x72, x73, x74, x75, x76, x77, x78, x79], defers := ds } W := by
  refine wpAnyH_ready (rs := [1, 5, 8]) (by kernel_rfl) (by simp) ?_
  refine AllReadyH.cons (i := 1) (o := { dst := some 13, op := Op.call { callee := Callee.value (Operand.func 24), args := #[Operand.tmp 12], argTypes := #[22] }, type := 43, pos := "order.go:34", after := #[{ on := 0, ground := Ground.data }], guard := none }) rfl ?_ (AllReadyH.cons (i := 5) (o := { dst := some 17, op := Op.makeSlice 55 (Operand.tmp 16) (Operand.tmp 16), type := 55, pos := "order.go:34", after := #[{ on := 4, ground := Ground.data }, { on := 4, ground := Ground.data }], guard := none }) rfl ?_ (AllReadyH.cons (i := 8) (o := { dst := some 20, op := Op.makeSlice 56 (Operand.tmp 19) (Operand.tmp 19), type := 56, pos := "order.go:34", after := #[{ on := 7, ground := Ground.data }, { on := 7, ground := Ground.data }], guard := none }) rfl ?_ AllReadyH.nil))
  · intro K1 hK1
    rw [if_pos (by rfl)]
    have H := h24.out W hb.out
    go_wp2_with fail
    refine H.mono ?_
    rintro e w1 ⟨b1, rfl, H1, HB1⟩
    dsimp only
    refine hK1.out _ _ trivial ?_
    intro _
    try simp only [Act.put, List.setIfInBounds_toArray, List.set_cons_zero, List.set_cons_succ]
    exact web1_1001 (bm := b1) hn h24 h33 (hb.out.trans (HB1.out.mono hb.out.size)) H1.out.1 (hs.out.below HB1.out) hQ
  · intro K1 hK1
    rw [if_pos (by rfl)]
    refine wp_mk55 (.tmp 16) (.tmp 16) rfl len rfl rfl hn.out ?_
    refine hK1.out _ _ trivial ?_
    intro _
    try simp only [Act.put, List.setIfInBounds_toArray, List.set_cons_zero, List.set_cons_succ]
    exact web1_0101 (ga := W.heap.size) hn h24 h33 (hb.out.alloc hb.out.size _) ⟨by simpa using Blk.new W (List.replicate len (.slice none 0 0)).toArray 56, hb.out.size⟩ (hs.out.below (below_new W (.cells (List.replicate len (.slice none 0 0)).toArray 56))) hQ
  · intro K1 hK1
    rw [if_pos (by rfl)]
    refine wp_mk56 (.tmp 19) (.tmp 19) rfl len rfl rfl hn.out ?_
    refine hK1.out _ _ trivial ?_
    intro _
    try simp only [Act.put, List.setIfInBounds_toArray, List.set_cons_zero, List.set_cons_succ]
    exact web1_0011 (gw := W.heap.size) hn h24 h33 (hb.out.alloc hb.out.size _) ⟨by simpa using Blk.new W (List.replicate len (.int .i64 0)).toArray 3, hb.out.size⟩ (hs.out.below (below_new W (.cells (List.replicate len (.int .i64 0)).toArray 3))) hQ
set_option maxRecDepth 100000 in
set_option maxHeartbeats 2000000 in
theorem web1_0010 {Q : Exit → Act → World → Prop} {ds : List Deferred} {A W : World} {len cap : Nat} {ad : Option Addr} {ks : List Hs} {gw : Nat} {x1 x2 x3 x4 x5 x6 x7 x8 x9 x10 x11 x13 x14 x17 x21 x22 x23 x24 x25 x26 x27 x28 x29 x30 x31 x32 x33 x34 x35 x36 x37 x38 x39 x40 x41 x42 x43 x44 x45 x46 x47 x48 x49 x50 x51 x52 x53 x54 x55 x56 x57 x58 x59 x60 x61 x62 x63 x64 x65 x66 x67 x68 x69 x70 x71 x72 x73 x74 x75 x76 x77 x78 x79 : Value} (hn : Hid (len ≤ 100000)) (h24 : Hid (∀ V, Below A.heap.size A V → Calls Try.prog 24 #[.slice ad len cap] V (NamesP V ks))) (h33 : Hid (∀ V b, SM V b ks → Calls Try.prog 33 #[.map (some b)] V (RiseP V ks))) (hb : Hid (Below A.heap.size A W)) (hw : Hid (NewW A W len gw))
    (hQ : Hid (∀ (bm : Nat) (an : Option Addr) (nn cc : Nat) (rs : List Hs) (ga gw gs : Nat) (V : World), Web0 A V ks len an nn cc rs ga gw gs → Q .normal { tmps := #[.slice ad len cap, x1, x2, .pointer (some ⟨gs, 0, none⟩), x4, x5, x6, x7, x8, x9, x10, x11, .slice ad len cap, .map (some bm), .slice an nn cc, .slice ad len cap, .int .i64 (len : Int), .slice (some ⟨ga, 0, none⟩) len len, .slice ad len cap, .int .i64 (len : Int), .slice (some ⟨gw, 0, none⟩) len len, .agg #[.slice an nn cc, .slice (some ⟨ga, 0, none⟩) len len, .slice (some ⟨gw, 0, none⟩) len len], x22, x23, x24, x25, x26, x27, x28, x29, x30, x31, x32, x33, x34, x35, x36, x37, x38, x39, x40, x41, x42, x43, x44, x45, x46, x47, x48, x49, x50, x51, x52, x53, x54, x55, x56, x57, x58, x59, x60, x61, x62, x63, x64, x65, x66, x67, x68, x69, x70, x71, x72, x73, x74, x75, x76, x77, x78, x79], defers := ds } V)) :
    wpAnyH Try.prog .any webOps (QN Q) (fun _ => True) 6 #[true, false, false, true, true, false, true, true, true, false, false, false] { tmps := #[.slice ad len cap, x1, x2, x3, x4, x5, x6, x7, x8, x9, x10, x11, .slice ad len cap, x13, x14, .slice ad len cap, .int .i64 (len : Int), x17, .slice ad len cap, .int .i64 (len : Int), .slice (some ⟨gw, 0, none⟩) len len, x21, x22, x23, x24, x25, x26, x27, x28, x29, x30, x31, x32, x33, x34, x35, x36, x37, x38, x39, x40, x41, x42, x43, x44, x45, x46, x47, x48, x49, x50, x51, x52, x53, x54, x55, x56, x57, x58, x59, x60, x61, x62, x63, x64, x65, x66, x67, x68, x69, x70, x71, x72, x73, x74, x75, x76, x77, x78, x79], defers := ds } W := by
  refine wpAnyH_ready (rs := [1, 5, 10]) (by kernel_rfl) (by simp) ?_
  refine AllReadyH.cons (i := 1) (o := { dst := some 13, op := Op.call { callee := Callee.value (Operand.func 24), args := #[Operand.tmp 12], argTypes := #[22] }, type := 43, pos := "order.go:34", after := #[{ on := 0, ground := Ground.data }], guard := none }) rfl ?_ (AllReadyH.cons (i := 5) (o := { dst := some 17, op := Op.makeSlice 55 (Operand.tmp 16) (Operand.tmp 16), type := 55, pos := "order.go:34", after := #[{ on := 4, ground := Ground.data }, { on := 4, ground := Ground.data }], guard := none }) rfl ?_ (AllReadyH.cons (i := 10) (o := { dst := some 3, op := Op.alloc 58, type := 0, pos := "order.go:34", after := #[], guard := none }) rfl ?_ AllReadyH.nil))
  · intro K1 hK1
    rw [if_pos (by rfl)]
    have H := h24.out W hb.out
    go_wp2_with fail
    refine H.mono ?_
    rintro e w1 ⟨b1, rfl, H1, HB1⟩
    dsimp only
    refine hK1.out _ _ trivial ?_
    intro _
    try simp only [Act.put, List.setIfInBounds_toArray, List.set_cons_zero, List.set_cons_succ]
    exact web1_1010 (bm := b1) hn h24 h33 (hb.out.trans (HB1.out.mono hb.out.size)) H1.out.1 (hw.out.below HB1.out) hQ
  · intro K1 hK1
    rw [if_pos (by rfl)]
    refine wp_mk55 (.tmp 16) (.tmp 16) rfl len rfl rfl hn.out ?_
    refine hK1.out _ _ trivial ?_
    intro _
    try simp only [Act.put, List.setIfInBounds_toArray, List.set_cons_zero, List.set_cons_succ]
    exact web1_0110 (ga := W.heap.size) hn h24 h33 (hb.out.alloc hb.out.size _) ⟨by simpa using Blk.new W (List.replicate len (.slice none 0 0)).toArray 56, hb.out.size⟩ (hw.out.below (below_new W (.cells (List.replicate len (.slice none 0 0)).toArray 56))) hQ
  · intro K1 hK1
    rw [if_pos (by rfl)]
    refine wp_al58 3 rfl rfl ?_
    refine hK1.out _ _ trivial ?_
    intro _
    try simp only [Act.put, List.setIfInBounds_toArray, List.set_cons_zero, List.set_cons_succ]
    exact web1_0011 (gs := W.heap.size) hn h24 h33 (hb.out.alloc hb.out.size _) (hw.out.below (below_new W (.cells #[.slice none 0 0, .slice none 0 0, .slice none 0 0] 58))) ⟨by simpa using Blk.new W #[.slice none 0 0, .slice none 0 0, .slice none 0 0] 58, hb.out.size⟩ hQ
set_option maxRecDepth 100000 in
set_option maxHeartbeats 2000000 in
theorem web1_0100 {Q : Exit → Act → World → Prop} {ds : List Deferred} {A W : World} {len cap : Nat} {ad : Option Addr} {ks : List Hs} {ga : Nat} {x1 x2 x3 x4 x5 x6 x7 x8 x9 x10 x11 x13 x14 x20 x21 x22 x23 x24 x25 x26 x27 x28 x29 x30 x31 x32 x33 x34 x35 x36 x37 x38 x39 x40 x41 x42 x43 x44 x45 x46 x47 x48 x49 x50 x51 x52 x53 x54 x55 x56 x57 x58 x59 x60 x61 x62 x63 x64 x65 x66 x67 x68 x69 x70 x71 x72 x73 x74 x75 x76 x77 x78 x79 : Value} (hn : Hid (len ≤ 100000)) (h24 : Hid (∀ V, Below A.heap.size A V → Calls Try.prog 24 #[.slice ad len cap] V (NamesP V ks))) (h33 : Hid (∀ V b, SM V b ks → Calls Try.prog 33 #[.map (some b)] V (RiseP V ks))) (hb : Hid (Below A.heap.size A W)) (ha : Hid (NewA A W len ga))
    (hQ : Hid (∀ (bm : Nat) (an : Option Addr) (nn cc : Nat) (rs : List Hs) (ga gw gs : Nat) (V : World), Web0 A V ks len an nn cc rs ga gw gs → Q .normal { tmps := #[.slice ad len cap, x1, x2, .pointer (some ⟨gs, 0, none⟩), x4, x5, x6, x7, x8, x9, x10, x11, .slice ad len cap, .map (some bm), .slice an nn cc, .slice ad len cap, .int .i64 (len : Int), .slice (some ⟨ga, 0, none⟩) len len, .slice ad len cap, .int .i64 (len : Int), .slice (some ⟨gw, 0, none⟩) len len, .agg #[.slice an nn cc, .slice (some ⟨ga, 0, none⟩) len len, .slice (some ⟨gw, 0, none⟩) len len], x22, x23, x24, x25, x26, x27, x28, x29, x30, x31, x32, x33, x34, x35, x36, x37, x38, x39, x40, x41, x42, x43, x44, x45, x46, x47, x48, x49, x50, x51, x52, x53, x54, x55, x56, x57, x58, x59, x60, x61, x62, x63, x64, x65, x66, x67, x68, x69, x70, x71, x72, x73, x74, x75, x76, x77, x78, x79], defers := ds } V)) :
    wpAnyH Try.prog .any webOps (QN Q) (fun _ => True) 6 #[true, false, false, true, true, true, true, true, false, false, false, false] { tmps := #[.slice ad len cap, x1, x2, x3, x4, x5, x6, x7, x8, x9, x10, x11, .slice ad len cap, x13, x14, .slice ad len cap, .int .i64 (len : Int), .slice (some ⟨ga, 0, none⟩) len len, .slice ad len cap, .int .i64 (len : Int), x20, x21, x22, x23, x24, x25, x26, x27, x28, x29, x30, x31, x32, x33, x34, x35, x36, x37, x38, x39, x40, x41, x42, x43, x44, x45, x46, x47, x48, x49, x50, x51, x52, x53, x54, x55, x56, x57, x58, x59, x60, x61, x62, x63, x64, x65, x66, x67, x68, x69, x70, x71, x72, x73, x74, x75, x76, x77, x78, x79], defers := ds } W := by
  refine wpAnyH_ready (rs := [1, 8, 10]) (by kernel_rfl) (by simp) ?_
  refine AllReadyH.cons (i := 1) (o := { dst := some 13, op := Op.call { callee := Callee.value (Operand.func 24), args := #[Operand.tmp 12], argTypes := #[22] }, type := 43, pos := "order.go:34", after := #[{ on := 0, ground := Ground.data }], guard := none }) rfl ?_ (AllReadyH.cons (i := 8) (o := { dst := some 20, op := Op.makeSlice 56 (Operand.tmp 19) (Operand.tmp 19), type := 56, pos := "order.go:34", after := #[{ on := 7, ground := Ground.data }, { on := 7, ground := Ground.data }], guard := none }) rfl ?_ (AllReadyH.cons (i := 10) (o := { dst := some 3, op := Op.alloc 58, type := 0, pos := "order.go:34", after := #[], guard := none }) rfl ?_ AllReadyH.nil))
  · intro K1 hK1
    rw [if_pos (by rfl)]
    have H := h24.out W hb.out
    go_wp2_with fail
    refine H.mono ?_
    rintro e w1 ⟨b1, rfl, H1, HB1⟩
    dsimp only
    refine hK1.out _ _ trivial ?_
    intro _
    try simp only [Act.put, List.setIfInBounds_toArray, List.set_cons_zero, List.set_cons_succ]
    exact web1_1100 (bm := b1) hn h24 h33 (hb.out.trans (HB1.out.mono hb.out.size)) H1.out.1 (ha.out.below HB1.out) hQ
  · intro K1 hK1
    rw [if_pos (by rfl)]
    refine wp_mk56 (.tmp 19) (.tmp 19) rfl len rfl rfl hn.out ?_
    refine hK1.out _ _ trivial ?_
    intro _
    try simp only [Act.put, List.setIfInBounds_toArray, List.set_cons_zero, List.set_cons_succ]
    exact web1_0110 (gw := W.heap.size) hn h24 h33 (hb.out.alloc hb.out.size _) (ha.out.below (below_new W (.cells (List.replicate len (.int .i64 0)).toArray 3))) ⟨by simpa using Blk.new W (List.replicate len (.int .i64 0)).toArray 3, hb.out.size⟩ hQ
  · intro K1 hK1
    rw [if_pos (by rfl)]
    refine wp_al58 3 rfl rfl ?_
    refine hK1.out _ _ trivial ?_
    intro _
    try simp only [Act.put, List.setIfInBounds_toArray, List.set_cons_zero, List.set_cons_succ]
    exact web1_0101 (gs := W.heap.size) hn h24 h33 (hb.out.alloc hb.out.size _) (ha.out.below (below_new W (.cells #[.slice none 0 0, .slice none 0 0, .slice none 0 0] 58))) ⟨by simpa using Blk.new W #[.slice none 0 0, .slice none 0 0, .slice none 0 0] 58, hb.out.size⟩ hQ
set_option maxRecDepth 100000 in
set_option maxHeartbeats 2000000 in
theorem web1_1000 {Q : Exit → Act → World → Prop} {ds : List Deferred} {A W : World} {len cap : Nat} {ad : Option Addr} {ks : List Hs} {bm : Nat} {x1 x2 x3 x4 x5 x6 x7 x8 x9 x10 x11 x14 x17 x20 x21 x22 x23 x24 x25 x26 x27 x28 x29 x30 x31 x32 x33 x34 x35 x36 x37 x38 x39 x40 x41 x42 x43 x44 x45 x46 x47 x48 x49 x50 x51 x52 x53 x54 x55 x56 x57 x58 x59 x60 x61 x62 x63 x64 x65 x66 x67 x68 x69 x70 x71 x72 x73 x74 x75 x76 x77 x78 x79 : Value} (hn : Hid (len ≤ 100000)) (h24 : Hid (∀ V, Below A.heap.size A V → Calls Try.prog 24 #[.slice ad len cap] V (NamesP V ks))) (h33 : Hid (∀ V b, SM V b ks → Calls Try.prog 33 #[.map (some b)] V (RiseP V ks))) (hb : Hid (Below A.heap.size A W)) (hc : Hid (MapF W bm ks))
    (hQ : Hid (∀ (bm : Nat) (an : Option Addr) (nn cc : Nat) (rs : List Hs) (ga gw gs : Nat) (V : World), Web0 A V ks len an nn cc rs ga gw gs → Q .normal { tmps := #[.slice ad len cap, x1, x2, .pointer (some ⟨gs, 0, none⟩), x4, x5, x6, x7, x8, x9, x10, x11, .slice ad len cap, .map (some bm), .slice an nn cc, .slice ad len cap, .int .i64 (len : Int), .slice (some ⟨ga, 0, none⟩) len len, .slice ad len cap, .int .i64 (len : Int), .slice (some ⟨gw, 0, none⟩) len len, .agg #[.slice an nn cc, .slice (some ⟨ga, 0, none⟩) len len, .slice (some ⟨gw, 0, none⟩) len len], x22, x23, x24, x25, x26, x27, x28, x29, x30, x31, x32, x33, x34, x35, x36, x37, x38, x39, x40, x41, x42, x43, x44, x45, x46, x47, x48, x49, x50, x51, x52, x53, x54, x55, x56, x57, x58, x59, x60, x61, x62, x63, x64, x65, x66, x67, x68, x69, x70, x71, x72, x73, x74, x75, x76, x77, x78, x79], defers := ds } V)) :
    wpAnyH Try.prog .any webOps (QN Q) (fun _ => True) 6 #[true, true, false, true, true, false, true, true, false, false, false, false] { tmps := #[.slice ad len cap, x1, x2, x3, x4, x5, x6, x7, x8, x9, x10, x11, .slice ad len cap, .map (some bm), x14, .slice ad len cap, .int .i64 (len : Int), x17, .slice ad len cap, .int .i64 (len : Int), x20, x21, x22, x23, x24, x25, x26, x27, x28, x29, x30, x31, x32, x33, x34, x35, x36, x37, x38, x39, x40, x41, x42, x43, x44, x45, x46, x47, x48, x49, x50, x51, x52, x53, x54, x55, x56, x57, x58, x59, x60, x61, x62, x63, x64, x65, x66, x67, x68, x69, x70, x71, x72, x73, x74, x75, x76, x77, x78, x79], defers := ds } W := by
  refine wpAnyH_ready (rs := [2, 5, 8, 10]) (by kernel_rfl) (by simp) ?_
  refine AllReadyH.cons (i := 2) (o := { dst := some 14, op := Op.call { callee := Callee.value (Operand.func 33), args := #[Operand.tmp 13], argTypes := #[43] }, type := 26, pos := "order.go:34", after := #[{ on := 1, ground := Ground.data }, { on := 1, ground := Ground.chain }], guard := none }) rfl ?_ (AllReadyH.cons (i := 5) (o := { dst := some 17, op := Op.makeSlice 55 (Operand.tmp 16) (Operand.tmp 16), type := 55, pos := "order.go:34", after := #[{ on := 4, ground := Ground.data }, { on := 4, ground := Ground.data }], guard := none }) rfl ?_ (AllReadyH.cons (i := 8) (o := { dst := some 20, op := Op.makeSlice 56 (Operand.tmp 19) (Operand.tmp 19), type := 56, pos := "order.go:34", after := #[{ on := 7, ground := Ground.data }, { on := 7, ground := Ground.data }], guard := none }) rfl ?_ (AllReadyH.cons (i := 10) (o := { dst := some 3, op := Op.alloc 58, type := 0, pos := "order.go:34", after := #[], guard := none }) rfl ?_ AllReadyH.nil)))
  · intro K1 hK1
    rw [if_pos (by rfl)]
    have H := h33.out W bm hc.out
    go_wp2_with fail
    refine H.mono ?_
    rintro e w1 ⟨an, nn, cc, rs, rfl, H1, HB1⟩
    dsimp only
    refine hK1.out _ _ trivial ?_
    intro _
    try simp only [Act.put, List.setIfInBounds_toArray, List.set_cons_zero, List.set_cons_succ]
    exact web1_2000 (bm := bm) (an := an) (nn := nn) (cc := cc) (rs := rs) hn h24 h33 (hb.out.trans (HB1.out.mono hb.out.size)) H1.out hQ
  · intro K1 hK1
    rw [if_pos (by rfl)]
    refine wp_mk55 (.tmp 16) (.tmp 16) rfl len rfl rfl hn.out ?_
    refine hK1.out _ _ trivial ?_
    intro _
    try simp only [Act.put, List.setIfInBounds_toArray, List.set_cons_zero, List.set_cons_succ]
    exact web1_1100 (ga := W.heap.size) hn h24 h33 (hb.out.alloc hb.out.size _) (hc.out.below (below_new W (.cells (List.replicate len (.slice none 0 0)).toArray 56))) ⟨by simpa using Blk.new W (List.replicate len (.slice none 0 0)).toArray 56, hb.out.size⟩ hQ
  · intro K1 hK1
    rw [if_pos (by rfl)]
    refine wp_mk56 (.tmp 19) (.tmp 19) rfl len rfl rfl hn.out ?_
    refine hK1.out _ _ trivial ?_
    intro _
    try simp only [Act.put, List.setIfInBounds_toArray, List.set_cons_zero, List.set_cons_succ]
    exact web1_1010 (gw := W.heap.size) hn h24 h33 (hb.out.alloc hb.out.size _) (hc.out.below (below_new W (.cells (List.replicate len (.int .i64 0)).toArray 3))) ⟨by simpa using Blk.new W (List.replicate len (.int .i64 0)).toArray 3, hb.out.size⟩ hQ
  · intro K1 hK1
    rw [if_pos (by rfl)]
    refine wp_al58 3 rfl rfl ?_
    refine hK1.out _ _ trivial ?_
    intro _
    try simp only [Act.put, List.setIfInBounds_toArray, List.set_cons_zero, List.set_cons_succ]
    exact web1_1001 (gs := W.heap.size) hn h24 h33 (hb.out.alloc hb.out.size _) (hc.out.below (below_new W (.cells #[.slice none 0 0, .slice none 0 0, .slice none 0 0] 58))) ⟨by simpa using Blk.new W #[.slice none 0 0, .slice none 0 0, .slice none 0 0] 58, hb.out.size⟩ hQ
set_option maxRecDepth 100000 in
set_option maxHeartbeats 2000000 in
theorem web1_0000 {Q : Exit → Act → World → Prop} {ds : List Deferred} {A W : World} {len cap : Nat} {ad : Option Addr} {ks : List Hs} {x1 x2 x3 x4 x5 x6 x7 x8 x9 x10 x11 x13 x14 x17 x20 x21 x22 x23 x24 x25 x26 x27 x28 x29 x30 x31 x32 x33 x34 x35 x36 x37 x38 x39 x40 x41 x42 x43 x44 x45 x46 x47 x48 x49 x50 x51 x52 x53 x54 x55 x56 x57 x58 x59 x60 x61 x62 x63 x64 x65 x66 x67 x68 x69 x70 x71 x72 x73 x74 x75 x76 x77 x78 x79 : Value} (hn : Hid (len ≤ 100000)) (h24 : Hid (∀ V, Below A.heap.size A V → Calls Try.prog 24 #[.slice ad len cap] V (NamesP V ks))) (h33 : Hid (∀ V b, SM V b ks → Calls Try.prog 33 #[.map (some b)] V (RiseP V ks))) (hb : Hid (Below A.heap.size A W))
    (hQ : Hid (∀ (bm : Nat) (an : Option Addr) (nn cc : Nat) (rs : List Hs) (ga gw gs : Nat) (V : World), Web0 A V ks len an nn cc rs ga gw gs → Q .normal { tmps := #[.slice ad len cap, x1, x2, .pointer (some ⟨gs, 0, none⟩), x4, x5, x6, x7, x8, x9, x10, x11, .slice ad len cap, .map (some bm), .slice an nn cc, .slice ad len cap, .int .i64 (len : Int), .slice (some ⟨ga, 0, none⟩) len len, .slice ad len cap, .int .i64 (len : Int), .slice (some ⟨gw, 0, none⟩) len len, .agg #[.slice an nn cc, .slice (some ⟨ga, 0, none⟩) len len, .slice (some ⟨gw, 0, none⟩) len len], x22, x23, x24, x25, x26, x27, x28, x29, x30, x31, x32, x33, x34, x35, x36, x37, x38, x39, x40, x41, x42, x43, x44, x45, x46, x47, x48, x49, x50, x51, x52, x53, x54, x55, x56, x57, x58, x59, x60, x61, x62, x63, x64, x65, x66, x67, x68, x69, x70, x71, x72, x73, x74, x75, x76, x77, x78, x79], defers := ds } V)) :
    wpAnyH Try.prog .any webOps (QN Q) (fun _ => True) 7 #[true, false, false, true, true, false, true, true, false, false, false, false] { tmps := #[.slice ad len cap, x1, x2, x3, x4, x5, x6, x7, x8, x9, x10, x11, .slice ad len cap, x13, x14, .slice ad len cap, .int .i64 (len : Int), x17, .slice ad len cap, .int .i64 (len : Int), x20, x21, x22, x23, x24, x25, x26, x27, x28, x29, x30, x31, x32, x33, x34, x35, x36, x37, x38, x39, x40, x41, x42, x43, x44, x45, x46, x47, x48, x49, x50, x51, x52, x53, x54, x55, x56, x57, x58, x59, x60, x61, x62, x63, x64, x65, x66, x67, x68, x69, x70, x71, x72, x73, x74, x75, x76, x77, x78, x79], defers := ds } W := by
  refine wpAnyH_ready (rs := [1, 5, 8, 10]) (by kernel_rfl) (by simp) ?_
  refine AllReadyH.cons (i := 1) (o := { dst := some 13, op := Op.call { callee := Callee.value (Operand.func 24), args := #[Operand.tmp 12], argTypes := #[22] }, type := 43, pos := "order.go:34", after := #[{ on := 0, ground := Ground.data }], guard := none }) rfl ?_ (AllReadyH.cons (i := 5) (o := { dst := some 17, op := Op.makeSlice 55 (Operand.tmp 16) (Operand.tmp 16), type := 55, pos := "order.go:34", after := #[{ on := 4, ground := Ground.data }, { on := 4, ground := Ground.data }], guard := none }) rfl ?_ (AllReadyH.cons (i := 8) (o := { dst := some 20, op := Op.makeSlice 56 (Operand.tmp 19) (Operand.tmp 19), type := 56, pos := "order.go:34", after := #[{ on := 7, ground := Ground.data }, { on := 7, ground := Ground.data }], guard := none }) rfl ?_ (AllReadyH.cons (i := 10) (o := { dst := some 3, op := Op.alloc 58, type := 0, pos := "order.go:34", after := #[], guard := none }) rfl ?_ AllReadyH.nil)))
  · intro K1 hK1
    rw [if_pos (by rfl)]
    have H := h24.out W hb.out
    go_wp2_with fail
    refine H.mono ?_
    rintro e w1 ⟨b1, rfl, H1, HB1⟩
    dsimp only
    refine hK1.out _ _ trivial ?_
    intro _
    try simp only [Act.put, List.setIfInBounds_toArray, List.set_cons_zero, List.set_cons_succ]
    exact web1_1000 (bm := b1) hn h24 h33 (hb.out.trans (HB1.out.mono hb.out.size)) H1.out.1 hQ
  · intro K1 hK1
    rw [if_pos (by rfl)]
    refine wp_mk55 (.tmp 16) (.tmp 16) rfl len rfl rfl hn.out ?_
    refine hK1.out _ _ trivial ?_
    intro _
    try simp only [Act.put, List.setIfInBounds_toArray, List.set_cons_zero, List.set_cons_succ]
    exact web1_0100 (ga := W.heap.size) hn h24 h33 (hb.out.alloc hb.out.size _) ⟨by simpa using Blk.new W (List.replicate len (.slice none 0 0)).toArray 56, hb.out.size⟩ hQ
  · intro K1 hK1
    rw [if_pos (by rfl)]
    refine wp_mk56 (.tmp 19) (.tmp 19) rfl len rfl rfl hn.out ?_
    refine hK1.out _ _ trivial ?_
    intro _
    try simp only [Act.put, List.setIfInBounds_toArray, List.set_cons_zero, List.set_cons_succ]
    exact web1_0010 (gw := W.heap.size) hn h24 h33 (hb.out.alloc hb.out.size _) ⟨by simpa using Blk.new W (List.replicate len (.int .i64 0)).toArray 3, hb.out.size⟩ hQ
  · intro K1 hK1
    rw [if_pos (by rfl)]
    refine wp_al58 3 rfl rfl ?_
    refine hK1.out _ _ trivial ?_
    intro _
    try simp only [Act.put, List.setIfInBounds_toArray, List.set_cons_zero, List.set_cons_succ]
    exact web1_0001 (gs := W.heap.size) hn h24 h33 (hb.out.alloc hb.out.size _) ⟨by simpa using Blk.new W #[.slice none 0 0, .slice none 0 0, .slice none 0 0] 58, hb.out.size⟩ hQ
set_option maxRecDepth 100000 in
set_option maxHeartbeats 2000000 in
theorem web_region1 {Q : Exit → Act → World → Prop} {ds : List Deferred} {A : World} {len cap : Nat} {ad : Option Addr} {ks : List Hs} {x1 x2 x3 x4 x5 x6 x7 x8 x9 x10 x11 x12 x13 x14 x15 x16 x17 x18 x19 x20 x21 x22 x23 x24 x25 x26 x27 x28 x29 x30 x31 x32 x33 x34 x35 x36 x37 x38 x39 x40 x41 x42 x43 x44 x45 x46 x47 x48 x49 x50 x51 x52 x53 x54 x55 x56 x57 x58 x59 x60 x61 x62 x63 x64 x65 x66 x67 x68 x69 x70 x71 x72 x73 x74 x75 x76 x77 x78 x79 : Value} (hn : Hid (len ≤ 100000)) (h24 : Hid (∀ V, Below A.heap.size A V → Calls Try.prog 24 #[.slice ad len cap] V (NamesP V ks))) (h33 : Hid (∀ V b, SM V b ks → Calls Try.prog 33 #[.map (some b)] V (RiseP V ks)))
    (hQ : Hid (∀ (bm : Nat) (an : Option Addr) (nn cc : Nat) (rs : List Hs) (ga gw gs : Nat) (V : World), Web0 A V ks len an nn cc rs ga gw gs → Q .normal { tmps := #[.slice ad len cap, x1, x2, .pointer (some ⟨gs, 0, none⟩), x4, x5, x6, x7, x8, x9, x10, x11, .slice ad len cap, .map (some bm), .slice an nn cc, .slice ad len cap, .int .i64 (len : Int), .slice (some ⟨ga, 0, none⟩) len len, .slice ad len cap, .int .i64 (len : Int), .slice (some ⟨gw, 0, none⟩) len len, .agg #[.slice an nn cc, .slice (some ⟨ga, 0, none⟩) len len, .slice (some ⟨gw, 0, none⟩) len len], x22, x23, x24, x25, x26, x27, x28, x29, x30, x31, x32, x33, x34, x35, x36, x37, x38, x39, x40, x41, x42, x43, x44, x45, x46, x47, x48, x49, x50, x51, x52, x53, x54, x55, x56, x57, x58, x59, x60, x61, x62, x63, x64, x65, x66, x67, x68, x69, x70, x71, x72, x73, x74, x75, x76, x77, x78, x79], defers := ds } V)) :
    (Code.region 1 #[{ dst := some 12, op := Op.move (Operand.tmp 0), type := 22, pos := "order.go:34", after := #[], guard := none }, { dst := some 13, op := Op.call { callee := Callee.value (Operand.func 24), args := #[Operand.tmp 12], argTypes := #[22] }, type := 43, pos := "order.go:34", after := #[{ on := 0, ground := Ground.data }], guard := none }, { dst := some 14, op := Op.call { callee := Callee.value (Operand.func 33), args := #[Operand.tmp 13], argTypes := #[43] }, type := 26, pos := "order.go:34", after := #[{ on := 1, ground := Ground.data }, { on := 1, ground := Ground.chain }], guard := none }, { dst := some 15, op := Op.move (Operand.tmp 0), type := 22, pos := "order.go:34", after := #[], guard := none }, { dst := some 16, op := Op.call { callee := Callee.builtin Builtin.len, args := #[Operand.tmp 15], argTypes := #[22] }, type := 3, pos := "order.go:34", after := #[{ on := 3, ground := Ground.data }], guard := none }, { dst := some 17, op := Op.makeSlice 55 (Operand.tmp 16) (Operand.tmp 16), type := 55, pos := "order.go:34", after := #[{ on := 4, ground := Ground.data }, { on := 4, ground := Ground.data }], guard := none }, { dst := some 18, op := Op.move (Operand.tmp 0), type := 22, pos := "order.go:34", after := #[], guard := none }, { dst := some 19, op := Op.call { callee := Callee.builtin Builtin.len, args := #[Operand.tmp 18], argTypes := #[22] }, type := 3, pos := "order.go:34", after := #[{ on := 6, ground := Ground.data }], guard := none }, { dst := some 20, op := Op.makeSlice 56 (Operand.tmp 19) (Operand.tmp 19), type := 56, pos := "order.go:34", after := #[{ on := 7, ground := Ground.data }, { on := 7, ground := Ground.data }], guard := none }, { dst := some 21, op := Op.build 58 #[(0, Operand.tmp 14), (1, Operand.tmp 17), (2, Operand.tmp 20)], type := 58, pos := "order.go:34", after := #[{ on := 2, ground := Ground.data }, { on := 5, ground := Ground.data }, { on := 8, ground := Ground.data }], guard := none }, { dst := some 3, op := Op.alloc 58, type := 0, pos := "order.go:34", after := #[], guard := none }, { dst := none, op := Op.store 58 (Operand.tmp 3) (Operand.tmp 21), type := 0, pos := "order.go:34", after := #[{ on := 10, ground := Ground.data }, { on := 9, ground := Ground.data }, { on := 2, ground := Ground.chain }, { on := 0, ground := Ground.phase }, { on := 1, ground := Ground.phase }, { on := 2, ground := Ground.phase }, { on := 3, ground := Ground.phase }, { on := 4, ground := Ground.phase }, { on := 5, ground := Ground.phase }, { on := 6, ground := Ground.phase }, { on := 7, ground := Ground.phase }, { on := 8, ground := Ground.phase }, { on := 9, ground := Ground.phase }, { on := 10, ground := Ground.phase }], guard := none }] true).wp Try.prog Q { tmps := #[.slice ad len cap, x1, x2, x3, x4, x5, x6, x7, x8, x9, x10, x11, x12, x13, x14, x15, x16, x17, x18, x19, x20, x21, x22, x23, x24, x25, x26, x27, x28, x29, x30, x31, x32, x33, x34, x35, x36, x37, x38, x39, x40, x41, x42, x43, x44, x45, x46, x47, x48, x49, x50, x51, x52, x53, x54, x55, x56, x57, x58, x59, x60, x61, x62, x63, x64, x65, x66, x67, x68, x69, x70, x71, x72, x73, x74, x75, x76, x77, x78, x79], defers := ds } A := by
  have hb0 : Below A.heap.size A A.drew := ⟨rfl, rfl, rfl, Nat.le_refl _, fun _ _ => rfl⟩
  refine Code.wp_mono (Q := QN Q) (by intro x a' w' h; cases x <;> first | exact h | exact (show False from h).elim) ?_
  refine wp_region_held (S := fun _ => True) (by kernel_rfl) ?_
  change wpAnyH Try.prog .any _ _ (fun _ => True) 12 (Array.replicate 12 false) _ A.drew
  refine wpAnyH_take (i := 0) (oi := { dst := some 12, op := Op.move (Operand.tmp 0), type := 22, pos := "order.go:34", after := #[], guard := none }) (v := .slice ad len cap) rfl (by kernel_rfl) (by kernel_rfl) (by kernel_rfl) (fun _ _ _ h => (show False from h).elim) (Or.inl ⟨by rfl, ?y0⟩) trivial ?_
  case y0 =>
    intro V hV
    go_simp
  simp only [Act.put, List.setIfInBounds_toArray, List.set_cons_zero, List.set_cons_succ]
  refine wpAnyH_take (i := 3) (oi := { dst := some 15, op := Op.move (Operand.tmp 0), type := 22, pos := "order.go:34", after := #[], guard := none }) (v := .slice ad len cap) rfl (by kernel_rfl) (by kernel_rfl) (by kernel_rfl) (fun _ _ _ h => (show False from h).elim) (Or.inl ⟨by rfl, ?y3⟩) trivial ?_
  case y3 =>
    intro V hV
    go_simp
  simp only [Act.put, List.setIfInBounds_toArray, List.set_cons_zero, List.set_cons_succ]
  refine wpAnyH_take (i := 4) (oi := { dst := some 16, op := Op.call { callee := Callee.builtin Builtin.len, args := #[Operand.tmp 15], argTypes := #[22] }, type := 3, pos := "order.go:34", after := #[{ on := 3, ground := Ground.data }], guard := none }) (v := .int .i64 (len : Int)) rfl (by kernel_rfl) (by kernel_rfl) (by kernel_rfl) (fun _ _ _ h => (show False from h).elim) (Or.inl ⟨by rfl, ?y4⟩) trivial ?_
  case y4 =>
    intro V hV
    go_simp
  simp only [Act.put, List.setIfInBounds_toArray, List.set_cons_zero, List.set_cons_succ]
  refine wpAnyH_take (i := 6) (oi := { dst := some 18, op := Op.move (Operand.tmp 0), type := 22, pos := "order.go:34", after := #[], guard := none }) (v := .slice ad len cap) rfl (by kernel_rfl) (by kernel_rfl) (by kernel_rfl) (fun _ _ _ h => (show False from h).elim) (Or.inl ⟨by rfl, ?y6⟩) trivial ?_
  case y6 =>
    intro V hV
    go_simp
  simp only [Act.put, List.setIfInBounds_toArray, List.set_cons_zero, List.set_cons_succ]
  refine wpAnyH_take (i := 7) (oi := { dst := some 19, op := Op.call { callee := Callee.builtin Builtin.len, args := #[Operand.tmp 18], argTypes := #[22] }, type := 3, pos := "order.go:34", after := #[{ on := 6, ground := Ground.data }], guard := none }) (v := .int .i64 (len : Int)) rfl (by kernel_rfl) (by kernel_rfl) (by kernel_rfl) (fun _ _ _ h => (show False from h).elim) (Or.inl ⟨by rfl, ?y7⟩) trivial ?_
  case y7 =>
    intro V hV
    go_simp
  simp only [Act.put, List.setIfInBounds_toArray, List.set_cons_zero, List.set_cons_succ]
  exact web1_0000 hn h24 h33 hb0 (fun bm an nn cc rs ga gw gs V hV => hQ.out bm an nn cc rs ga gw gs V hV)
#print axioms web_region1
end Go.Proofs.Ytijkpkcopjkhkaa.Oct
