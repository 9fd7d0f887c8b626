/-
  Layer 21 (queue): QueuePlays: what its loop keeps; its drawn regions.
-/
import Derived.Test.YtipipckbcelphaaWdl
namespace Go.Proofs.Ytipipckbcelphaa.Oct
open Go.RowKit Go.Shelf
set_option linter.unusedSimpArgs false
set_option linter.unusedVariables false

/-- the queue and the document's, side by side -/
structure PlI (w W : World) (b b4 : Nat) (M : Qu) (K : Nat) (wv ev : Value) (Wr : List Int) (Er : List (Int × Int × Int)) : Prop where
  q : QAt W b M .nilFunc K
  bel : Below w.heap.size w W
  k4 : Blk W b4 30 [wv, ev]
  rq : RQ W wv ev Wr Er
  old : ∀ k ∈ M.bl b, w.heap.size ≤ k
  o4 : w.heap.size ≤ b4
  s1 : b4 ∉ M.bl b
  s2 : ∀ g, blkOf wv = some g → g ≠ b4 ∧ g ∉ M.bl b
  s3 : ∀ g, blkOf ev = some g → g ≠ b4 ∧ g ∉ M.bl b
section
variable {w W V : World} {b b4 K K' : Nat} {M M' : Qu} {wv ev wv' ev' : Value} {Wr Wr' : List Int} {Er Er' : List (Int × Int × Int)}
theorem PlI.below (h : PlI w W b b4 M K wv ev Wr Er) (hb : Below W.heap.size W V) : PlI w V b b4 M K wv ev Wr Er :=
  ⟨h.q.below hb, below_tr h.bel hb, h.k4.below hb h.k4.lt, h.rq.below hb, h.old, h.o4, h.s1, h.s2, h.s3⟩
theorem PlI.more (h : PlI w W b b4 M K wv ev Wr Er) (hK : K ≤ K') (hf : K' ≤ 3000000000000) : PlI w W b b4 M K' wv ev Wr Er :=
  ⟨h.q.more hK hf, h.bel, h.k4, h.rq, h.old, h.o4, h.s1, h.s2, h.s3⟩
theorem PlI.call (h : PlI w W b b4 M K wv ev Wr Er) (hq : QAt V b M' .nilFunc K') (ha : QAfter W b M M' V) : PlI w V b b4 M' K' wv ev Wr Er := by
  have h1 := ha.below h.bel.size h.old
  refine ⟨hq, h.bel.trans h1.1, ha.2.blk h.k4 h.s1, h.rq.keep ha.2 (fun g hg => (h.s2 g hg).2) (fun g hg => (h.s3 g hg).2), h1.2, h.o4, fun e => ?_, fun g hg => ⟨(h.s2 g hg).1, fun e => ?_⟩, fun g hg => ⟨(h.s3 g hg).1, fun e => ?_⟩⟩
  · rcases ha.1 _ e with e | e
    · exact h.s1 e
    · have := h.k4.lt; omega
  · rcases ha.1 _ e with e | e
    · exact (h.s2 g hg).2 e
    · have := h.rq.wr.lt hg; omega
  · rcases ha.1 _ e with e | e
    · exact (h.s3 g hg).2 e
    · have := h.rq.er.lt hg; omega
/-- the document's queue is another one -/
theorem PlI.rset (h : PlI w W b b4 M K wv ev Wr Er) {V1 : World} (hb : Below W.heap.size W V1) (hr : RQ V1 wv' ev' Wr' Er') (n1 : ∀ g, blkOf wv' = some g → blkOf wv = some g ∨ W.heap.size ≤ g) (n2 : ∀ g, blkOf ev' = some g → blkOf ev = some g ∨ W.heap.size ≤ g) (hg : V1.grownBy V (some b4)) (hk : Blk V b4 30 [wv', ev']) : PlI w V b b4 M K wv' ev' Wr' Er' := by
  have l4 := h.k4.lt
  have f1 : ∀ g, blkOf wv' = some g → g ≠ b4 ∧ g ∉ M.bl b := fun g hg' => by
    rcases n1 g hg' with e | e
    · exact h.s2 g e
    · exact ⟨by omega, fun e' => by have := h.q.lt g e'; omega⟩
  have f2 : ∀ g, blkOf ev' = some g → g ≠ b4 ∧ g ∉ M.bl b := fun g hg' => by
    rcases n2 g hg' with e | e
    · exact h.s3 g e
    · exact ⟨by omega, fun e' => by have := h.q.lt g e'; omega⟩
  have hk1 : Keep (fun j => j = b4) V1 V := Keep.grown hg rfl
  refine ⟨(h.q.below hb).keep hk1 (fun k hk e => h.s1 (by rw [← e]; exact hk)), ?_, hk, hr.keep hk1 (fun g hg' e => (f1 g hg').1 e) (fun g hg' e => (f2 g hg').1 e), h.old, h.o4, h.s1, f1, f2⟩
  exact (below_tr h.bel hb).grown hg (below_tr h.bel hb).size (fun j hj => by cases hj; exact h.o4)
end
theorem wait_at {V : World} {b K m : Nat} {M : Qu} {T : Value} (h : QAt V b M T K) (hm : M.W.length = m) : Calls Try.prog 23 #[.pointer (some ⟨b, 0, none⟩)] V fun e V' => ∃ aw cw, e = .returned (.slice aw m cw) ∧ Nums V' aw m M.W ∧ Below V.heap.size V V' := (waiting_is h).mono (by
  rintro e V' ⟨v, rfl, h1, h2⟩
  rw [hm] at h1
  obtain ⟨a, c, hv, _, _, h3, _⟩ := nums_own h1
  exact ⟨a, c, by rw [hv], h3, h2⟩)
theorem ended_at {V : World} {b K k : Nat} {M : Qu} {T : Value} (h : QAt V b M T K) (hk : M.E.length = k) : Calls Try.prog 24 #[.pointer (some ⟨b, 0, none⟩)] V fun e V' => ∃ ae cv, e = .returned (.slice ae k cv) ∧ RV V' 38 3 (.slice ae k cv) k (qdC M.E) ∧ Below V.heap.size V V' := (ended_is h).mono (by
  rintro e V' ⟨v, rfl, h1, h2⟩
  rw [hk] at h1
  obtain ⟨h3, _⟩ := RV.own h1 (qdC_one _)
  obtain ⟨a, c, hv, _⟩ := h3
  have h3' := (RV.own h1 (qdC_one _)).1
  rw [hv] at h3' ⊢
  exact ⟨a, c, rfl, h3', h2⟩)
theorem same_at {V : World} {v1 v2 : Value} {k : Nat} {l : List (Int × Int × Int)} (h1 : RV V 38 3 v1 k (qdC l)) (h2 : RV V 38 3 v2 k (qdC l)) (hk : l.length = k) (hn : k ≤ 3000000000000) : Calls Try.prog 21 #[v1, v2] V fun e V' => e = .returned (.bool true) ∧ Below V.heap.size V V' := by
  subst hk
  exact same_same h1 h2 hn
theorem place_at {V : World} {b K : Nat} {M : Qu} {T : Value} (h : QAt V b M T K) (x : Int) : Calls Try.prog 25 #[.pointer (some ⟨b, 0, none⟩), iv x] V fun e V' => e = .returned (iv (plc M.W x)) ∧ Below V.heap.size V V' := (place_is h x).mono (by
  rintro e V' ⟨rfl, rfl⟩
  exact ⟨rfl, Below.refl _ _⟩)
theorem rq_nums {V : World} {ra : Option Addr} {m cr : Nat} {ev : Value} {l : List Int} {E : List (Int × Int × Int)} (h : RQ V (.slice ra m cr) ev l E) (hm : l.length = m) : Nums V ra m l := by
  obtain ⟨a, c, e, _, _, h3⟩ := h.wr.nums
  rw [hm] at e h3
  cases e
  exact h3
theorem rq_ers {V : World} {wv ev : Value} {k : Nat} {l : List Int} {E : List (Int × Int × Int)} (h : RQ V wv ev l E) (hk : E.length = k) : RV V 38 3 ev k (qdC E) := by
  rw [← hk]; exact h.er
set_option maxRecDepth 100000 in
set_option maxHeartbeats 2000000 in
theorem rstep_no {w : World} {wv ev : Value} {E : List (Int × Int × Int)} (h : RQ w wv ev [] E) (r : Int) :
    Calls Try.prog 17 #[.agg #[wv, ev], iv r] w fun e w' => e = .returned (.tuple #[.agg #[wv, ev], .agg q0.toArray, iv 111]) ∧ Below w.heap.size w w' := by
  obtain ⟨a, c, a', c', rfl, rfl⟩ := h.shape
  obtain ⟨m, hm⟩ : ∃ m, E.length = m := ⟨_, rfl⟩
  rw [hm]
  simp only [List.length_nil]
  have hz30 := zero30
  have hz38 := zero38
  obtain ⟨b2, hb2⟩ : ∃ b, w.heap.size = b := ⟨_, rfl⟩
  obtain ⟨A, hA⟩ : ∃ A, ((w.alloc (.cells #[.slice a 0 c, .slice a' m c'] 30)).alloc (.cells #[.slice none 0 0, .slice none 0 0] 30)).alloc (.cells #[iv 0, iv 0, iv 0] 38) = A := ⟨_, rfl⟩
  have hB : Below w.heap.size w A := by rw [← hA]; exact (((Below.refl _ w).alloc (Nat.le_refl _) _).alloc (by simp) _).alloc (by simp; omega) _
  have h2 : Blk A b2 30 [.slice a 0 c, .slice a' m c'] := by rw [← hA, ← hb2]; exact ((Blk.new w _ _).alloc _).alloc _
  have h4 : Blk A (b2 + 1) 30 [.slice none 0 0, .slice none 0 0] := by
    rw [← hA, ← hb2]
    have := (Blk.new (w.alloc (.cells #[.slice a 0 c, .slice a' m c'] 30)) #[.slice none 0 0, .slice none 0 0] 30).alloc (.cells #[iv 0, iv 0, iv 0] 38)
    rwa [World.size_alloc] at this
  have h5 : Blk A (b2 + 1 + 1) 38 q0 := by
    rw [← hA, ← hb2]
    have := Blk.new ((w.alloc (.cells #[.slice a 0 c, .slice a' m c'] 30)).alloc (.cells #[.slice none 0 0, .slice none 0 0] 30)) #[iv 0, iv 0, iv 0] 38
    rwa [World.size_alloc, World.size_alloc] at this
  have cb : A.cell? ⟨b2, 0, none⟩ = some (.slice a 0 c) := h2.cell rfl
  have HB : Hid (Below w.heap.size w A ∧ Blk A b2 30 [.slice a 0 c, .slice a' m c'] ∧ Blk A (b2 + 1) 30 [.slice none 0 0, .slice none 0 0] ∧ Blk A (b2 + 1 + 1) 38 q0 ∧ w.heap.size = b2) := ⟨hB, h2, h4, h5, hb2⟩
  clear h hm hB h2 h4 h5
  go_enter Try.func17, Try.ntmps17
  go_wp2_with (with_reducible change wpList _ _ _ ({ dst := some 12, op := _, type := _, pos := _, after := _, guard := _ } :: _) _ _; refine Hid.out ?_)
  show wpList _ _ _ _ _ _
  refine wpList_load_row rfl 30 (.tmp 2) rfl b2 rfl 30 #[.slice a 0 c, .slice a' m c'] (0, 0) _ HB.out.2.1 Try.underlying30 rfl size30 ?_
  simp only [Act.put, List.setIfInBounds_toArray, List.set_cons_zero, List.set_cons_succ]
  go_wp2_with (with_reducible change wpList _ _ _ ({ dst := none, op := Op.store 30 _ _, type := _, pos := _, after := _, guard := _ } :: _) _ _; refine Hid.out ?_)
  show wpList _ _ _ _ _ _
  refine wpList_store_blk rfl 30 (.tmp 4) (.tmp 12) rfl (b2 + 1) 0 30 [.slice none 0 0, .slice none 0 0] [.slice a 0 c, .slice a' m c'] rfl rfl HB.out.2.2.1 (by simp) size30 (by intro u hu; simp at hu; rcases hu with rfl | rfl <;> rfl) ?_
  intro V hb5 hg5
  have HV : Hid (Blk V (b2 + 1) 30 [.slice a 0 c, .slice a' m c'] ∧ Blk V (b2 + 1 + 1) 38 q0 ∧ Below w.heap.size w V) := ⟨hb5.out, HB.out.2.2.2.1.kept hg5.out (by simp), HB.out.1.grown hg5.out HB.out.1.size (fun j hj => by cases hj; have := HB.out.2.2.2.2; omega)⟩
  clear hb5 hg5
  go_wp2_with (with_reducible change wpList _ _ _ ({ dst := none, op := Op.store 38 _ _, type := _, pos := _, after := _, guard := _ } :: _) _ _; refine Hid.out ?_)
  show wpList _ _ _ _ _ _
  refine wpList_store_blk rfl 38 (.tmp 5) (.tmp 13) rfl (b2 + 1 + 1) 0 38 q0 q0 rfl rfl HV.out.2.1 (by simp) size38 (by intro u hu; simp [q0] at hu; subst hu; rfl) ?_
  intro V2 hb6 hg6
  have HV2 : Hid (Blk V2 (b2 + 1) 30 [.slice a 0 c, .slice a' m c'] ∧ Blk V2 (b2 + 1 + 1) 38 q0 ∧ Below w.heap.size w V2) := ⟨HV.out.1.kept hg6.out (by simp), hb6.out, HV.out.2.2.grown hg6.out HV.out.2.2.size (fun j hj => by cases hj; have := HB.out.2.2.2.2; omega)⟩
  clear hb6 hg6
  go_wp2_with fail
  refine ret3 rfl rfl rfl rfl rfl rfl HV2.out.1 HV2.out.2.1 ?_
  exact ⟨rfl, HV2.out.2.2⟩
#print axioms rstep_no
set_option maxRecDepth 100000 in
set_option maxHeartbeats 4000000 in
theorem pl33 {Q : Exit → Act → World → Prop} {x0 x1 x2 x5 x9 x10 x11 x12 x13 x14 x15 x16 x17 x18 x19 x20 x21 x22 x23 x24 x25 x26 x27 x28 x29 x30 x31 x32 x33 x34 x35 x36 x37 x38 x39 x40 x41 x42 x43 x44 x45 x46 x47 x48 x49 x50 x51 x52 x53 x54 x55 x56 x57 x58 x59 x60 x61 x62 x63 x64 x65 x66 x67 x68 x69 x70 x71 x72 x73 x74 x75 x76 x77 x78 x79 x80 x81 x82 x83 x84 x85 x86 x87 x88 x89 x90 x91 x92 x93 x94 x95 x96 x97 x98 x99 x100 x101 x102 x103 x104 x105 x106 x107 x108 x109 x110 x111 x112 x113 x114 x115 x116 x117 x118 x119 x120 x121 x122 x123 x124 x125 x126 x127 x128 x129 x130 : Value} {ds : List Deferred} {A : World} {w : World} {b b4 g6 m k cr ce K : Nat} {ra re : Option Addr} {c : Int} {M : Qu} {y : Av}
    (HPI : Hid (PlI w A b b4 M K (.slice ra m cr) (.slice re k ce) M.W M.E)) (HG : Hid (Blk A g6 32 y.cells)) (HM : Hid (M.W.length = m ∧ M.E.length = k ∧ m ≤ 1000 ∧ k ≤ 3000000000000))
    (hQ : ∀ V1 aw cw ae cv, Below A.heap.size A V1 → Q .normal { tmps := #[x0, x1, x2, .pointer (some ⟨b, 0, none⟩), .pointer (some ⟨b4, 0, none⟩), x5, .pointer (some ⟨g6, 0, none⟩), iv c, iv c, x9, x10, x11, x12, x13, x14, x15, x16, x17, x18, x19, x20, x21, x22, x23, x24, x25, x26, x27, x28, x29, x30, x31, x32, x33, x34, x35, x36, x37, x38, x39, x40, x41, x42, x43, x44, x45, x46, x47, x48, x49, x50, x51, x52, x53, x54, x55, x56, x57, x58, x59, x60, x61, x62, x63, x64, x65, x66, x67, x68, x69, x70, x71, x72, x73, x74, x75, x76, x77, x78, x79, x80, x81, x82, x83, x84, x85, x86, x87, x88, x89, x90, x91, x92, x93, x94, x95, x96, x97, x98, iv c, iv c, .bool false, .bool false, .pointer (some ⟨b, 0, none⟩), .slice aw m cw, .pointer (some ⟨b4, 0, none⟩), .slice ra m cr, .bool true, .bool false, .bool false, .bool false, .pointer (some ⟨b, 0, none⟩), .slice ae k cv, .pointer (some ⟨b4, 1, none⟩), .slice re k ce, .bool true, .bool false, .bool false, .bool false, .pointer (some ⟨b, 0, none⟩), .pointer (some ⟨g6, 1, none⟩), iv y.id, iv (plc M.W y.id), .agg #[.slice ra m cr, .slice re k ce], .pointer (some ⟨g6, 1, none⟩), iv y.id, iv (plc M.W y.id), .bool false, .bool false, x129, x130], defers := ds } V1) :
    (Code.region 33 #[{ dst := some 99, op := Op.move (Operand.tmp 7), type := 33, pos := "law.go:78", after := #[], guard := none }, { dst := some 100, op := Op.move (Operand.tmp 8), type := 3, pos := "law.go:78", after := #[], guard := none }, { dst := some 101, op := Op.binOp BinOp.neq 3 (Operand.tmp 99) (Operand.tmp 100) 3, type := 4, pos := "law.go:78", after := #[{ on := 0, ground := Ground.data }, { on := 1, ground := Ground.data }], guard := none }, { dst := some 102, op := Op.move (Operand.tmp 101), type := 4, pos := "law.go:78", after := #[{ on := 2, ground := Ground.data }], guard := none }, { dst := some 103, op := Op.move (Operand.tmp 3), type := 25, pos := "law.go:78", after := #[{ on := 3, ground := Ground.guard }], guard := some (3, false) }, { dst := some 104, op := Op.call { callee := Callee.value (Operand.func 23), args := #[Operand.tmp 103], argTypes := #[25] }, type := 27, pos := "law.go:78", after := #[{ on := 4, ground := Ground.data }, { on := 3, ground := Ground.chain }, { on := 3, ground := Ground.guard }], guard := some (3, false) }, { dst := some 105, op := Op.fieldAddr 30 (Operand.tmp 4) 0, type := 0, pos := "law.go:78", after := #[{ on := 3, ground := Ground.guard }], guard := some (3, false) }, { dst := some 106, op := Op.load 27 (Operand.tmp 105), type := 27, pos := "law.go:78", after := #[{ on := 6, ground := Ground.data }, { on := 3, ground := Ground.guard }], guard := some (3, false) }, { dst := some 107, op := Op.call { callee := Callee.value (Operand.func 22), args := #[Operand.tmp 104, Operand.tmp 106], argTypes := #[27, 27] }, type := 4, pos := "law.go:78", after := #[{ on := 5, ground := Ground.data }, { on := 7, ground := Ground.data }, { on := 5, ground := Ground.chain }, { on := 3, ground := Ground.guard }], guard := some (3, false) }, { dst := some 108, op := Op.unOp UnOp.not 4 (Operand.tmp 107), type := 4, pos := "law.go:78", after := #[{ on := 8, ground := Ground.data }, { on := 3, ground := Ground.guard }], guard := some (3, false) }, { dst := some 109, op := Op.pick (Operand.tmp 102) (Operand.const (Value.bool true)) (Operand.tmp 108), type := 4, pos := "law.go:78", after := #[{ on := 3, ground := Ground.data }, { on := 9, ground := Ground.data }], guard := none }, { dst := some 110, op := Op.move (Operand.tmp 109), type := 4, pos := "law.go:78", after := #[{ on := 10, ground := Ground.data }, { on := 8, ground := Ground.chain }], guard := none }, { dst := some 111, op := Op.move (Operand.tmp 3), type := 25, pos := "law.go:78", after := #[{ on := 11, ground := Ground.guard }], guard := some (11, false) }, { dst := some 112, op := Op.call { callee := Callee.value (Operand.func 24), args := #[Operand.tmp 111], argTypes := #[25] }, type := 28, pos := "law.go:78", after := #[{ on := 12, ground := Ground.data }, { on := 11, ground := Ground.chain }, { on := 11, ground := Ground.guard }], guard := some (11, false) }, { dst := some 113, op := Op.fieldAddr 30 (Operand.tmp 4) 1, type := 0, pos := "law.go:78", after := #[{ on := 11, ground := Ground.guard }], guard := some (11, false) }, { dst := some 114, op := Op.load 28 (Operand.tmp 113), type := 28, pos := "law.go:78", after := #[{ on := 14, ground := Ground.data }, { on := 11, ground := Ground.guard }], guard := some (11, false) }, { dst := some 115, op := Op.call { callee := Callee.value (Operand.func 21), args := #[Operand.tmp 112, Operand.tmp 114], argTypes := #[28, 28] }, type := 4, pos := "law.go:78", after := #[{ on := 13, ground := Ground.data }, { on := 15, ground := Ground.data }, { on := 13, ground := Ground.chain }, { on := 11, ground := Ground.guard }], guard := some (11, false) }, { dst := some 116, op := Op.unOp UnOp.not 4 (Operand.tmp 115), type := 4, pos := "law.go:78", after := #[{ on := 16, ground := Ground.data }, { on := 11, ground := Ground.guard }], guard := some (11, false) }, { dst := some 117, op := Op.pick (Operand.tmp 110) (Operand.const (Value.bool true)) (Operand.tmp 116), type := 4, pos := "law.go:78", after := #[{ on := 11, ground := Ground.data }, { on := 17, ground := Ground.data }], guard := none }, { dst := some 118, op := Op.move (Operand.tmp 117), type := 4, pos := "law.go:78", after := #[{ on := 18, ground := Ground.data }, { on := 16, ground := Ground.chain }], guard := none }, { dst := some 119, op := Op.move (Operand.tmp 3), type := 25, pos := "law.go:78", after := #[{ on := 19, ground := Ground.guard }], guard := some (19, false) }, { dst := some 120, op := Op.fieldAddr 32 (Operand.tmp 6) 1, type := 0, pos := "law.go:78", after := #[{ on := 19, ground := Ground.guard }], guard := some (19, false) }, { dst := some 121, op := Op.load 3 (Operand.tmp 120), type := 3, pos := "law.go:78", after := #[{ on := 21, ground := Ground.data }, { on := 19, ground := Ground.guard }], guard := some (19, false) }, { dst := some 122, op := Op.call { callee := Callee.value (Operand.func 25), args := #[Operand.tmp 119, Operand.tmp 121], argTypes := #[25, 3] }, type := 3, pos := "law.go:78", after := #[{ on := 20, ground := Ground.data }, { on := 22, ground := Ground.data }, { on := 19, ground := Ground.chain }, { on := 19, ground := Ground.guard }], guard := some (19, false) }, { dst := some 123, op := Op.load 30 (Operand.tmp 4), type := 30, pos := "law.go:78", after := #[{ on := 19, ground := Ground.guard }], guard := some (19, false) }, { dst := some 124, op := Op.fieldAddr 32 (Operand.tmp 6) 1, type := 0, pos := "law.go:78", after := #[{ on := 19, ground := Ground.guard }], guard := some (19, false) }, { dst := some 125, op := Op.load 3 (Operand.tmp 124), type := 3, pos := "law.go:78", after := #[{ on := 25, ground := Ground.data }, { on := 19, ground := Ground.guard }], guard := some (19, false) }, { dst := some 126, op := Op.call { callee := Callee.value (Operand.func 26), args := #[Operand.tmp 123, Operand.tmp 125], argTypes := #[30, 3] }, type := 3, pos := "law.go:78", after := #[{ on := 24, ground := Ground.data }, { on := 26, ground := Ground.data }, { on := 23, ground := Ground.chain }, { on := 19, ground := Ground.guard }], guard := some (19, false) }, { dst := some 127, op := Op.binOp BinOp.neq 3 (Operand.tmp 122) (Operand.tmp 126) 3, type := 4, pos := "law.go:78", after := #[{ on := 23, ground := Ground.data }, { on := 27, ground := Ground.data }, { on := 19, ground := Ground.guard }], guard := some (19, false) }, { dst := some 128, op := Op.pick (Operand.tmp 118) (Operand.const (Value.bool true)) (Operand.tmp 127), type := 4, pos := "law.go:78", after := #[{ on := 19, ground := Ground.data }, { on := 28, ground := Ground.data }], guard := none }] true).wp Try.prog Q { tmps := #[x0, x1, x2, .pointer (some ⟨b, 0, none⟩), .pointer (some ⟨b4, 0, none⟩), x5, .pointer (some ⟨g6, 0, none⟩), iv c, iv c, x9, x10, x11, x12, x13, x14, x15, x16, x17, x18, x19, x20, x21, x22, x23, x24, x25, x26, x27, x28, x29, x30, x31, x32, x33, x34, x35, x36, x37, x38, x39, x40, x41, x42, x43, x44, x45, x46, x47, x48, x49, x50, x51, x52, x53, x54, x55, x56, x57, x58, x59, x60, x61, x62, x63, x64, x65, x66, x67, x68, x69, x70, x71, x72, x73, x74, x75, x76, x77, x78, x79, x80, x81, x82, x83, x84, x85, x86, x87, x88, x89, x90, x91, x92, x93, x94, x95, x96, x97, x98, x99, x100, x101, x102, x103, x104, x105, x106, x107, x108, x109, x110, x111, x112, x113, x114, x115, x116, x117, x118, x119, x120, x121, x122, x123, x124, x125, x126, x127, x128, x129, x130], defers := ds } A := by
  refine Code.wp_mono (Q := fun x a' w' => match x with | .normal => Q .normal a' w' | _ => False) (by intro x a' w' h; cases x <;> first | exact h | exact h.elim) ?_
  refine wp_region_held (S := fun V => Below A.heap.size A V) (by kernel_rfl) ?_
  have hS0 : Hid (Below A.heap.size A A.drew) := below_drew0 A
  change wpAnyH Try.prog .any _ _ (fun V => Below A.heap.size A V) 30 (Array.replicate 30 false) _ A.drew
  obtain ⟨V0, hV0⟩ : ∃ V0, A.drew = V0 := ⟨_, rfl⟩
  rw [hV0]
  rw [hV0] at hS0
  clear hV0
  refine wpAnyH_take (i := 0) (oi := { dst := some 99, op := Op.move (Operand.tmp 7), type := 33, pos := "law.go:78", after := #[], guard := none }) (v := iv c) rfl (by kernel_rfl) (by kernel_rfl) (by kernel_rfl) (fun _ _ _ h => h.elim) (Or.inl ⟨by rfl, ?y1⟩) hS0.out ?_
  case y1 =>
    intro V hV
    go_simp
  simp only [Act.put, List.setIfInBounds_toArray, List.set_cons_zero, List.set_cons_succ]
  refine wpAnyH_take (i := 1) (oi := { dst := some 100, op := Op.move (Operand.tmp 8), type := 3, pos := "law.go:78", after := #[], guard := none }) (v := iv c) rfl (by kernel_rfl) (by kernel_rfl) (by kernel_rfl) (fun _ _ _ h => h.elim) (Or.inl ⟨by rfl, ?y2⟩) hS0.out ?_
  case y2 =>
    intro V hV
    go_simp
  simp only [Act.put, List.setIfInBounds_toArray, List.set_cons_zero, List.set_cons_succ]
  refine wpAnyH_take (i := 2) (oi := { dst := some 101, op := Op.binOp BinOp.neq 3 (Operand.tmp 99) (Operand.tmp 100) 3, type := 4, pos := "law.go:78", after := #[{ on := 0, ground := Ground.data }, { on := 1, ground := Ground.data }], guard := none }) (v := .bool false) rfl (by kernel_rfl) (by kernel_rfl) (by kernel_rfl) (fun _ _ _ h => h.elim) (Or.inl ⟨by rfl, ?y3⟩) hS0.out ?_
  case y3 =>
    intro V hV
    have hcmp : (c != c) = false := by simp
    go_simp
  simp only [Act.put, List.setIfInBounds_toArray, List.set_cons_zero, List.set_cons_succ]
  refine wpAnyH_take (i := 3) (oi := { dst := some 102, op := Op.move (Operand.tmp 101), type := 4, pos := "law.go:78", after := #[{ on := 2, ground := Ground.data }], guard := none }) (v := .bool false) rfl (by kernel_rfl) (by kernel_rfl) (by kernel_rfl) (fun _ _ _ h => h.elim) (Or.inl ⟨by rfl, ?y4⟩) hS0.out ?_
  case y4 =>
    intro V hV
    go_simp
  simp only [Act.put, List.setIfInBounds_toArray, List.set_cons_zero, List.set_cons_succ]
  refine wpAnyH_take (i := 4) (oi := { dst := some 103, op := Op.move (Operand.tmp 3), type := 25, pos := "law.go:78", after := #[{ on := 3, ground := Ground.guard }], guard := some (3, false) }) (v := .pointer (some ⟨b, 0, none⟩)) rfl (by kernel_rfl) (by kernel_rfl) (by kernel_rfl) (fun _ _ _ h => h.elim) (Or.inl ⟨by rfl, ?y5⟩) hS0.out ?_
  case y5 =>
    intro V hV
    go_simp
  simp only [Act.put, List.setIfInBounds_toArray, List.set_cons_zero, List.set_cons_succ]
  refine wpAnyH_take (i := 6) (oi := { dst := some 105, op := Op.fieldAddr 30 (Operand.tmp 4) 0, type := 0, pos := "law.go:78", after := #[{ on := 3, ground := Ground.guard }], guard := some (3, false) }) (v := .pointer (some ⟨b4, 0, none⟩)) rfl (by kernel_rfl) (by kernel_rfl) (by kernel_rfl) (fun _ _ _ h => h.elim) (Or.inl ⟨by rfl, ?y6⟩) hS0.out ?_
  case y6 =>
    intro V hV
    go_simp
  simp only [Act.put, List.setIfInBounds_toArray, List.set_cons_zero, List.set_cons_succ]
  refine wpAnyH_take (i := 7) (oi := { dst := some 106, op := Op.load 27 (Operand.tmp 105), type := 27, pos := "law.go:78", after := #[{ on := 6, ground := Ground.data }, { on := 3, ground := Ground.guard }], guard := some (3, false) }) (v := .slice ra m cr) rfl (by kernel_rfl) (by kernel_rfl) (by kernel_rfl) (fun _ _ _ h => h.elim) (Or.inl ⟨by rfl, ?y7⟩) hS0.out ?_
  case y7 =>
    intro V hV
    have hc : V.cell? ⟨b4, 0, none⟩ = some (.slice ra m cr) := ((show Below A.heap.size A V from hV).cell (p := ⟨b4, 0, none⟩) (HPI.out.k4.lt)).trans (HPI.out.k4.cell rfl)
    go_simp
  simp only [Act.put, List.setIfInBounds_toArray, List.set_cons_zero, List.set_cons_succ]
  refine wpAnyH_ready (rs := [5]) (by kernel_rfl) (by simp) (AllReadyH.cons (i := 5) (o := { dst := some 104, op := Op.call { callee := Callee.value (Operand.func 23), args := #[Operand.tmp 103], argTypes := #[25] }, type := 27, pos := "law.go:78", after := #[{ on := 4, ground := Ground.data }, { on := 3, ground := Ground.chain }, { on := 3, ground := Ground.guard }], guard := some (3, false) }) rfl ?_ AllReadyH.nil)
  · intro K1 hK1
    rw [if_pos (by rfl)]
    have HC1 := wait_at (HPI.out.q.below hS0.out) HM.out.1
    go_wp2_with fail
    refine HC1.mono ?_
    rintro e V1 ⟨aw, cw, rfl, hnum, hb1⟩
    dsimp only
    clear HC1
    have hS1 : Hid (Below A.heap.size A V1) := hS0.out.trans (hb1.mono hS0.out.size)
    have HNUM : Hid (Nums V1 aw m M.W) := hnum
    clear hnum
    clear hb1
    refine hK1.out _ _ hS1.out ?_
    clear hK1
    intro _
    try simp only [Act.put, List.setIfInBounds_toArray, List.set_cons_zero, List.set_cons_succ]
    refine wpAnyH_ready (rs := [8]) (by kernel_rfl) (by simp) (AllReadyH.cons (i := 8) (o := { dst := some 107, op := Op.call { callee := Callee.value (Operand.func 22), args := #[Operand.tmp 104, Operand.tmp 106], argTypes := #[27, 27] }, type := 4, pos := "law.go:78", after := #[{ on := 5, ground := Ground.data }, { on := 7, ground := Ground.data }, { on := 5, ground := Ground.chain }, { on := 3, ground := Ground.guard }], guard := some (3, false) }) rfl ?_ AllReadyH.nil)
    · intro K1 hK1
      rw [if_pos (by rfl)]
      have HC2 := ints_same M.W aw ra m cw cr V1 HNUM.out (rq_nums (HPI.out.rq.below hS1.out) HM.out.1) (by have := HM.out.2.2.1; omega)
      go_wp2_with fail
      refine HC2.mono ?_
      rintro e V2 ⟨rfl, hb2⟩
      dsimp only
      clear HC2
      have hS2 : Hid (Below A.heap.size A V2) := hS1.out.trans (hb2.mono hS1.out.size)
      clear hb2
      refine hK1.out _ _ hS2.out ?_
      clear hK1
      intro _
      try simp only [Act.put, List.setIfInBounds_toArray, List.set_cons_zero, List.set_cons_succ]
      refine wpAnyH_take (i := 9) (oi := { dst := some 108, op := Op.unOp UnOp.not 4 (Operand.tmp 107), type := 4, pos := "law.go:78", after := #[{ on := 8, ground := Ground.data }, { on := 3, ground := Ground.guard }], guard := some (3, false) }) (v := .bool false) rfl (by kernel_rfl) (by kernel_rfl) (by kernel_rfl) (fun _ _ _ h => h.elim) (Or.inl ⟨by rfl, ?y8⟩) hS2.out ?_
      case y8 =>
        intro V hV
        go_simp
      simp only [Act.put, List.setIfInBounds_toArray, List.set_cons_zero, List.set_cons_succ]
      refine wpAnyH_take (i := 10) (oi := { dst := some 109, op := Op.pick (Operand.tmp 102) (Operand.const (Value.bool true)) (Operand.tmp 108), type := 4, pos := "law.go:78", after := #[{ on := 3, ground := Ground.data }, { on := 9, ground := Ground.data }], guard := none }) (v := .bool false) rfl (by kernel_rfl) (by kernel_rfl) (by kernel_rfl) (fun _ _ _ h => h.elim) (Or.inl ⟨by rfl, ?y9⟩) hS2.out ?_
      case y9 =>
        intro V hV
        go_simp
      simp only [Act.put, List.setIfInBounds_toArray, List.set_cons_zero, List.set_cons_succ]
      refine wpAnyH_take (i := 11) (oi := { dst := some 110, op := Op.move (Operand.tmp 109), type := 4, pos := "law.go:78", after := #[{ on := 10, ground := Ground.data }, { on := 8, ground := Ground.chain }], guard := none }) (v := .bool false) rfl (by kernel_rfl) (by kernel_rfl) (by kernel_rfl) (fun _ _ _ h => h.elim) (Or.inl ⟨by rfl, ?y10⟩) hS2.out ?_
      case y10 =>
        intro V hV
        go_simp
      simp only [Act.put, List.setIfInBounds_toArray, List.set_cons_zero, List.set_cons_succ]
      refine wpAnyH_take (i := 12) (oi := { dst := some 111, op := Op.move (Operand.tmp 3), type := 25, pos := "law.go:78", after := #[{ on := 11, ground := Ground.guard }], guard := some (11, false) }) (v := .pointer (some ⟨b, 0, none⟩)) rfl (by kernel_rfl) (by kernel_rfl) (by kernel_rfl) (fun _ _ _ h => h.elim) (Or.inl ⟨by rfl, ?y11⟩) hS2.out ?_
      case y11 =>
        intro V hV
        go_simp
      simp only [Act.put, List.setIfInBounds_toArray, List.set_cons_zero, List.set_cons_succ]
      refine wpAnyH_take (i := 14) (oi := { dst := some 113, op := Op.fieldAddr 30 (Operand.tmp 4) 1, type := 0, pos := "law.go:78", after := #[{ on := 11, ground := Ground.guard }], guard := some (11, false) }) (v := .pointer (some ⟨b4, 1, none⟩)) rfl (by kernel_rfl) (by kernel_rfl) (by kernel_rfl) (fun _ _ _ h => h.elim) (Or.inl ⟨by rfl, ?y12⟩) hS2.out ?_
      case y12 =>
        intro V hV
        go_simp
      simp only [Act.put, List.setIfInBounds_toArray, List.set_cons_zero, List.set_cons_succ]
      refine wpAnyH_take (i := 15) (oi := { dst := some 114, op := Op.load 28 (Operand.tmp 113), type := 28, pos := "law.go:78", after := #[{ on := 14, ground := Ground.data }, { on := 11, ground := Ground.guard }], guard := some (11, false) }) (v := .slice re k ce) rfl (by kernel_rfl) (by kernel_rfl) (by kernel_rfl) (fun _ _ _ h => h.elim) (Or.inl ⟨by rfl, ?y13⟩) hS2.out ?_
      case y13 =>
        intro V hV
        have hc : V.cell? ⟨b4, 1, none⟩ = some (.slice re k ce) := ((show Below A.heap.size A V from hV).cell (p := ⟨b4, 1, none⟩) (HPI.out.k4.lt)).trans (HPI.out.k4.cell rfl)
        go_simp
      simp only [Act.put, List.setIfInBounds_toArray, List.set_cons_zero, List.set_cons_succ]
      refine wpAnyH_ready (rs := [13]) (by kernel_rfl) (by simp) (AllReadyH.cons (i := 13) (o := { dst := some 112, op := Op.call { callee := Callee.value (Operand.func 24), args := #[Operand.tmp 111], argTypes := #[25] }, type := 28, pos := "law.go:78", after := #[{ on := 12, ground := Ground.data }, { on := 11, ground := Ground.chain }, { on := 11, ground := Ground.guard }], guard := some (11, false) }) rfl ?_ AllReadyH.nil)
      · intro K1 hK1
        rw [if_pos (by rfl)]
        have HC3 := ended_at (HPI.out.q.below hS2.out) HM.out.2.1
        go_wp2_with fail
        refine HC3.mono ?_
        rintro e V3 ⟨ae, cv, rfl, hrv, hb3⟩
        dsimp only
        clear HC3
        have hS3 : Hid (Below A.heap.size A V3) := hS2.out.trans (hb3.mono hS2.out.size)
        have HRV : Hid (RV V3 38 3 (.slice ae k cv) k (qdC M.E)) := hrv
        clear hrv
        clear hb3
        refine hK1.out _ _ hS3.out ?_
        clear hK1
        intro _
        try simp only [Act.put, List.setIfInBounds_toArray, List.set_cons_zero, List.set_cons_succ]
        refine wpAnyH_ready (rs := [16]) (by kernel_rfl) (by simp) (AllReadyH.cons (i := 16) (o := { dst := some 115, op := Op.call { callee := Callee.value (Operand.func 21), args := #[Operand.tmp 112, Operand.tmp 114], argTypes := #[28, 28] }, type := 4, pos := "law.go:78", after := #[{ on := 13, ground := Ground.data }, { on := 15, ground := Ground.data }, { on := 13, ground := Ground.chain }, { on := 11, ground := Ground.guard }], guard := some (11, false) }) rfl ?_ AllReadyH.nil)
        · intro K1 hK1
          rw [if_pos (by rfl)]
          have HC4 := same_at HRV.out (rq_ers (HPI.out.rq.below hS3.out) HM.out.2.1) HM.out.2.1 HM.out.2.2.2
          go_wp2_with fail
          refine HC4.mono ?_
          rintro e V4 ⟨rfl, hb4⟩
          dsimp only
          clear HC4
          have hS4 : Hid (Below A.heap.size A V4) := hS3.out.trans (hb4.mono hS3.out.size)
          clear hb4
          refine hK1.out _ _ hS4.out ?_
          clear hK1
          intro _
          try simp only [Act.put, List.setIfInBounds_toArray, List.set_cons_zero, List.set_cons_succ]
          refine wpAnyH_take (i := 17) (oi := { dst := some 116, op := Op.unOp UnOp.not 4 (Operand.tmp 115), type := 4, pos := "law.go:78", after := #[{ on := 16, ground := Ground.data }, { on := 11, ground := Ground.guard }], guard := some (11, false) }) (v := .bool false) rfl (by kernel_rfl) (by kernel_rfl) (by kernel_rfl) (fun _ _ _ h => h.elim) (Or.inl ⟨by rfl, ?y14⟩) hS4.out ?_
          case y14 =>
            intro V hV
            go_simp
          simp only [Act.put, List.setIfInBounds_toArray, List.set_cons_zero, List.set_cons_succ]
          refine wpAnyH_take (i := 18) (oi := { dst := some 117, op := Op.pick (Operand.tmp 110) (Operand.const (Value.bool true)) (Operand.tmp 116), type := 4, pos := "law.go:78", after := #[{ on := 11, ground := Ground.data }, { on := 17, ground := Ground.data }], guard := none }) (v := .bool false) rfl (by kernel_rfl) (by kernel_rfl) (by kernel_rfl) (fun _ _ _ h => h.elim) (Or.inl ⟨by rfl, ?y15⟩) hS4.out ?_
          case y15 =>
            intro V hV
            go_simp
          simp only [Act.put, List.setIfInBounds_toArray, List.set_cons_zero, List.set_cons_succ]
          refine wpAnyH_take (i := 19) (oi := { dst := some 118, op := Op.move (Operand.tmp 117), type := 4, pos := "law.go:78", after := #[{ on := 18, ground := Ground.data }, { on := 16, ground := Ground.chain }], guard := none }) (v := .bool false) rfl (by kernel_rfl) (by kernel_rfl) (by kernel_rfl) (fun _ _ _ h => h.elim) (Or.inl ⟨by rfl, ?y16⟩) hS4.out ?_
          case y16 =>
            intro V hV
            go_simp
          simp only [Act.put, List.setIfInBounds_toArray, List.set_cons_zero, List.set_cons_succ]
          refine wpAnyH_take (i := 20) (oi := { dst := some 119, op := Op.move (Operand.tmp 3), type := 25, pos := "law.go:78", after := #[{ on := 19, ground := Ground.guard }], guard := some (19, false) }) (v := .pointer (some ⟨b, 0, none⟩)) rfl (by kernel_rfl) (by kernel_rfl) (by kernel_rfl) (fun _ _ _ h => h.elim) (Or.inl ⟨by rfl, ?y17⟩) hS4.out ?_
          case y17 =>
            intro V hV
            go_simp
          simp only [Act.put, List.setIfInBounds_toArray, List.set_cons_zero, List.set_cons_succ]
          refine wpAnyH_take (i := 21) (oi := { dst := some 120, op := Op.fieldAddr 32 (Operand.tmp 6) 1, type := 0, pos := "law.go:78", after := #[{ on := 19, ground := Ground.guard }], guard := some (19, false) }) (v := .pointer (some ⟨g6, 1, none⟩)) rfl (by kernel_rfl) (by kernel_rfl) (by kernel_rfl) (fun _ _ _ h => h.elim) (Or.inl ⟨by rfl, ?y18⟩) hS4.out ?_
          case y18 =>
            intro V hV
            go_simp
          simp only [Act.put, List.setIfInBounds_toArray, List.set_cons_zero, List.set_cons_succ]
          refine wpAnyH_take (i := 22) (oi := { dst := some 121, op := Op.load 3 (Operand.tmp 120), type := 3, pos := "law.go:78", after := #[{ on := 21, ground := Ground.data }, { on := 19, ground := Ground.guard }], guard := some (19, false) }) (v := iv y.id) rfl (by kernel_rfl) (by kernel_rfl) (by kernel_rfl) (fun _ _ _ h => h.elim) (Or.inl ⟨by rfl, ?y19⟩) hS4.out ?_
          case y19 =>
            intro V hV
            have hc : V.cell? ⟨g6, 1, none⟩ = some (iv y.id) := ((show Below A.heap.size A V from hV).cell (p := ⟨g6, 1, none⟩) (HG.out.lt)).trans (HG.out.cell rfl)
            go_simp
          simp only [Act.put, List.setIfInBounds_toArray, List.set_cons_zero, List.set_cons_succ]
          refine wpAnyH_take (i := 24) (oi := { dst := some 123, op := Op.load 30 (Operand.tmp 4), type := 30, pos := "law.go:78", after := #[{ on := 19, ground := Ground.guard }], guard := some (19, false) }) (v := .agg #[.slice ra m cr, .slice re k ce]) rfl (by kernel_rfl) (by kernel_rfl) (by kernel_rfl) (fun _ _ _ h => h.elim) (yieldsIf_load_mid (by rfl) _ _ rfl _ _ rfl ([.slice ra m cr, .slice re k ce]) _ (fun V hV => rangeAt_same ((by have := HPI.out.k4.range 0 2; simpa using this)) ((show Below A.heap.size A V from hV).block _ (HPI.out.k4.lt))) Try.underlying30 rfl (size30)) hS4.out ?_
          simp only [Act.put, List.setIfInBounds_toArray, List.set_cons_zero, List.set_cons_succ]
          refine wpAnyH_take (i := 25) (oi := { dst := some 124, op := Op.fieldAddr 32 (Operand.tmp 6) 1, type := 0, pos := "law.go:78", after := #[{ on := 19, ground := Ground.guard }], guard := some (19, false) }) (v := .pointer (some ⟨g6, 1, none⟩)) rfl (by kernel_rfl) (by kernel_rfl) (by kernel_rfl) (fun _ _ _ h => h.elim) (Or.inl ⟨by rfl, ?y20⟩) hS4.out ?_
          case y20 =>
            intro V hV
            go_simp
          simp only [Act.put, List.setIfInBounds_toArray, List.set_cons_zero, List.set_cons_succ]
          refine wpAnyH_take (i := 26) (oi := { dst := some 125, op := Op.load 3 (Operand.tmp 124), type := 3, pos := "law.go:78", after := #[{ on := 25, ground := Ground.data }, { on := 19, ground := Ground.guard }], guard := some (19, false) }) (v := iv y.id) rfl (by kernel_rfl) (by kernel_rfl) (by kernel_rfl) (fun _ _ _ h => h.elim) (Or.inl ⟨by rfl, ?y21⟩) hS4.out ?_
          case y21 =>
            intro V hV
            have hc : V.cell? ⟨g6, 1, none⟩ = some (iv y.id) := ((show Below A.heap.size A V from hV).cell (p := ⟨g6, 1, none⟩) (HG.out.lt)).trans (HG.out.cell rfl)
            go_simp
          simp only [Act.put, List.setIfInBounds_toArray, List.set_cons_zero, List.set_cons_succ]
          refine wpAnyH_ready (rs := [23]) (by kernel_rfl) (by simp) (AllReadyH.cons (i := 23) (o := { dst := some 122, op := Op.call { callee := Callee.value (Operand.func 25), args := #[Operand.tmp 119, Operand.tmp 121], argTypes := #[25, 3] }, type := 3, pos := "law.go:78", after := #[{ on := 20, ground := Ground.data }, { on := 22, ground := Ground.data }, { on := 19, ground := Ground.chain }, { on := 19, ground := Ground.guard }], guard := some (19, false) }) rfl ?_ AllReadyH.nil)
          · intro K1 hK1
            rw [if_pos (by rfl)]
            have HC5 := place_at (HPI.out.q.below hS4.out) y.id
            go_wp2_with fail
            refine HC5.mono ?_
            rintro e V5 ⟨rfl, hb5⟩
            dsimp only
            clear HC5
            have hS5 : Hid (Below A.heap.size A V5) := hS4.out.trans (hb5.mono hS4.out.size)
            clear hb5
            refine hK1.out _ _ hS5.out ?_
            clear hK1
            intro _
            try simp only [Act.put, List.setIfInBounds_toArray, List.set_cons_zero, List.set_cons_succ]
            refine wpAnyH_ready (rs := [27]) (by kernel_rfl) (by simp) (AllReadyH.cons (i := 27) (o := { dst := some 126, op := Op.call { callee := Callee.value (Operand.func 26), args := #[Operand.tmp 123, Operand.tmp 125], argTypes := #[30, 3] }, type := 3, pos := "law.go:78", after := #[{ on := 24, ground := Ground.data }, { on := 26, ground := Ground.data }, { on := 23, ground := Ground.chain }, { on := 19, ground := Ground.guard }], guard := some (19, false) }) rfl ?_ AllReadyH.nil)
            · intro K1 hK1
              rw [if_pos (by rfl)]
              have HC6 := rplace_is (HPI.out.rq.below hS5.out) y.id
              go_wp2_with fail
              refine HC6.mono ?_
              rintro e V6 ⟨rfl, hb6⟩
              dsimp only
              clear HC6
              have hS6 : Hid (Below A.heap.size A V6) := hS5.out.trans (hb6.mono hS5.out.size)
              clear hb6
              refine hK1.out _ _ hS6.out ?_
              clear hK1
              intro _
              try simp only [Act.put, List.setIfInBounds_toArray, List.set_cons_zero, List.set_cons_succ]
              refine wpAnyH_take (i := 28) (oi := { dst := some 127, op := Op.binOp BinOp.neq 3 (Operand.tmp 122) (Operand.tmp 126) 3, type := 4, pos := "law.go:78", after := #[{ on := 23, ground := Ground.data }, { on := 27, ground := Ground.data }, { on := 19, ground := Ground.guard }], guard := some (19, false) }) (v := .bool false) rfl (by kernel_rfl) (by kernel_rfl) (by kernel_rfl) (fun _ _ _ h => h.elim) (Or.inl ⟨by rfl, ?y22⟩) hS6.out ?_
              case y22 =>
                intro V hV
                have hcmp : (plc M.W y.id != plc M.W y.id) = false := by simp
                go_simp
              simp only [Act.put, List.setIfInBounds_toArray, List.set_cons_zero, List.set_cons_succ]
              refine wpAnyH_take (i := 29) (oi := { dst := some 128, op := Op.pick (Operand.tmp 118) (Operand.const (Value.bool true)) (Operand.tmp 127), type := 4, pos := "law.go:78", after := #[{ on := 19, ground := Ground.data }, { on := 28, ground := Ground.data }], guard := none }) (v := .bool false) rfl (by kernel_rfl) (by kernel_rfl) (by kernel_rfl) (fun _ _ _ h => h.elim) (Or.inl ⟨by rfl, ?y23⟩) hS6.out ?_
              case y23 =>
                intro V hV
                go_simp
              simp only [Act.put, List.setIfInBounds_toArray, List.set_cons_zero, List.set_cons_succ]
              refine wpAnyH_done (by kernel_rfl) ?_ _
              exact hQ V6 _ _ _ _ hS6.out
#print axioms pl33
set_option maxRecDepth 100000 in
set_option maxHeartbeats 4000000 in
theorem pl17 {Q : Exit → Act → World → Prop} {x0 x1 x2 x3 x5 x6 x7 x8 x9 x10 x11 x13 x14 x16 x17 x18 x19 x20 x21 x22 x23 x24 x25 x26 x27 x28 x29 x30 x31 x32 x33 x34 x35 x36 x37 x38 x39 x40 x41 x42 x43 x44 x45 x46 x47 x48 x49 x50 x51 x52 x53 x54 x55 x56 x57 x58 x59 x60 x61 x62 x63 x64 x65 x66 x67 x68 x69 x70 x71 x72 x73 x74 x75 x76 x77 x78 x79 x80 x81 x82 x83 x84 x85 x86 x87 x88 x89 x90 x91 x92 x93 x94 x95 x96 x97 x98 x99 x100 x101 x102 x103 x104 x105 x106 x107 x108 x109 x110 x111 x112 x113 x114 x115 x116 x117 x118 x119 x120 x121 x122 x123 x124 x125 x126 x127 x128 x129 x130 : Value} {ds : List Deferred} {A : World} {b4 b11 b12 b15 g6 m k cr ce s : Nat} {ra re : Option Addr} {r : Int} {X : Int × Int × Int} {l' : List Int} {E' : List (Int × Int × Int)}
    (HL : Hid (b12 < A.heap.size ∧ ¬ (b12 = b11 ∨ b12 = b4 ∨ b12 = b15) ∧ b4 ≠ b11 ∧ b15 ≠ b11 ∧ b4 ≠ b15)) (k12 : A.cell? ⟨b12, 0, none⟩ = some (.func (.func 18) #[] #[.pointer (some ⟨b11, 0, none⟩), .pointer (some ⟨g6, 0, none⟩)])) (HX : Hid (Blk A b4 30 [.slice ra m cr, .slice re k ce] ∧ Blk A b15 38 q0))
    (HT0 : Calls Try.prog 18 #[.pointer (some ⟨b11, 0, none⟩), .pointer (some ⟨g6, 0, none⟩)] A.drew fun e V => e = .returned (iv r) ∧ Blk V b11 3 [iv ((s : Int) + 1)] ∧ Keep (fun j => j = b11) A.drew V)
    (HU : Hid (∀ V, Keep (fun j => j = b11) A.drew V → Calls Try.prog 17 #[.agg #[.slice ra m cr, .slice re k ce], iv r] V fun e V' => ∃ wv1 ev1, e = .returned (.tuple #[.agg #[wv1, ev1], .agg (qd X).toArray, iv 0]) ∧ REndP V l' E' wv1 ev1 V'))
    (hQ : ∀ V1 V2 V3 wv1 ev1, Keep (fun j => j = b11) A.drew V1 → Blk V1 b11 3 [iv ((s : Int) + 1)] → REndP V1 l' E' wv1 ev1 V2 → Keep (fun j => j = b4 ∨ j = b15) V2 V3 → (Blk V3 b4 30 [wv1, ev1] ∧ Blk V3 b15 38 (qd X)) → Q .normal { tmps := #[x0, x1, x2, x3, .pointer (some ⟨b4, 0, none⟩), x5, x6, x7, x8, x9, x10, x11, .pointer (some ⟨b12, 0, none⟩), x13, x14, .pointer (some ⟨b15, 0, none⟩), x16, x17, x18, x19, x20, x21, x22, x23, x24, x25, x26, x27, x28, x29, x30, x31, x32, x33, x34, x35, x36, x37, .tuple #[.agg #[wv1, ev1], .agg (qd X).toArray, iv 0], .agg #[.slice ra m cr, .slice re k ce], .func (.func 18) #[] #[.pointer (some ⟨b11, 0, none⟩), .pointer (some ⟨g6, 0, none⟩)], iv r, .tuple #[.agg #[wv1, ev1], .agg (qd X).toArray, iv 0], .agg #[wv1, ev1], .agg (qd X).toArray, iv 0, x46, x47, x48, x49, x50, x51, x52, x53, x54, x55, x56, x57, x58, x59, x60, x61, x62, x63, x64, x65, x66, x67, x68, x69, x70, x71, x72, x73, x74, x75, x76, x77, x78, x79, x80, x81, x82, x83, x84, x85, x86, x87, x88, x89, x90, x91, x92, x93, x94, x95, x96, x97, x98, x99, x100, x101, x102, x103, x104, x105, x106, x107, x108, x109, x110, x111, x112, x113, x114, x115, x116, x117, x118, x119, x120, x121, x122, x123, x124, x125, x126, x127, x128, x129, x130], defers := ds } V3) :
    (Code.region 17 #[{ dst := some 39, op := Op.load 30 (Operand.tmp 4), type := 30, pos := "law.go:71", after := #[], guard := none }, { dst := some 40, op := Op.load 43 (Operand.tmp 12), type := 43, pos := "law.go:71", after := #[], guard := none }, { dst := some 41, op := Op.call { callee := Callee.value (Operand.tmp 40), args := #[], argTypes := #[] }, type := 3, pos := "law.go:71", after := #[{ on := 1, ground := Ground.data }], guard := none }, { dst := some 42, op := Op.call { callee := Callee.value (Operand.func 17), args := #[Operand.tmp 39, Operand.tmp 41], argTypes := #[30, 3] }, type := 41, pos := "law.go:71", after := #[{ on := 0, ground := Ground.data }, { on := 2, ground := Ground.data }, { on := 2, ground := Ground.chain }], guard := none }, { dst := some 38, op := Op.move (Operand.tmp 42), type := 41, pos := "law.go:71", after := #[{ on := 3, ground := Ground.data }], guard := none }, { dst := some 43, op := Op.extract (Operand.tmp 38) 0, type := 30, pos := "law.go:71", after := #[{ on := 4, ground := Ground.data }], guard := none }, { dst := some 44, op := Op.extract (Operand.tmp 38) 1, type := 38, pos := "law.go:71", after := #[{ on := 4, ground := Ground.data }, { on := 8, ground := Ground.gcOnly Departure.lateStores }], guard := none }, { dst := some 45, op := Op.extract (Operand.tmp 38) 2, type := 3, pos := "law.go:71", after := #[{ on := 4, ground := Ground.data }, { on := 9, ground := Ground.gcOnly Departure.lateStores }], guard := none }, { dst := none, op := Op.store 30 (Operand.tmp 4) (Operand.tmp 43), type := 0, pos := "law.go:71", after := #[{ on := 5, ground := Ground.data }, { on := 3, ground := Ground.chain }, { on := 0, ground := Ground.phase }, { on := 1, ground := Ground.phase }, { on := 2, ground := Ground.phase }, { on := 3, ground := Ground.phase }, { on := 4, ground := Ground.phase }, { on := 5, ground := Ground.phase }, { on := 6, ground := Ground.textOnly Departure.lateStores }, { on := 7, ground := Ground.textOnly Departure.lateStores }], guard := none }, { dst := none, op := Op.store 38 (Operand.tmp 15) (Operand.tmp 44), type := 0, pos := "law.go:71", after := #[{ on := 6, ground := Ground.data }, { on := 8, ground := Ground.chain }, { on := 0, ground := Ground.phase }, { on := 1, ground := Ground.phase }, { on := 2, ground := Ground.phase }, { on := 3, ground := Ground.phase }, { on := 4, ground := Ground.phase }, { on := 5, ground := Ground.phase }, { on := 6, ground := Ground.phase }, { on := 7, ground := Ground.textOnly Departure.lateStores }, { on := 8, ground := Ground.phase }], guard := none }] true).wp Try.prog Q { tmps := #[x0, x1, x2, x3, .pointer (some ⟨b4, 0, none⟩), x5, x6, x7, x8, x9, x10, x11, .pointer (some ⟨b12, 0, none⟩), x13, x14, .pointer (some ⟨b15, 0, none⟩), x16, x17, x18, x19, x20, x21, x22, x23, x24, x25, x26, x27, x28, x29, x30, x31, x32, x33, x34, x35, x36, x37, x38, x39, x40, x41, x42, x43, x44, x45, x46, x47, x48, x49, x50, x51, x52, x53, x54, x55, x56, x57, x58, x59, x60, x61, x62, x63, x64, x65, x66, x67, x68, x69, x70, x71, x72, x73, x74, x75, x76, x77, x78, x79, x80, x81, x82, x83, x84, x85, x86, x87, x88, x89, x90, x91, x92, x93, x94, x95, x96, x97, x98, x99, x100, x101, x102, x103, x104, x105, x106, x107, x108, x109, x110, x111, x112, x113, x114, x115, x116, x117, x118, x119, x120, x121, x122, x123, x124, x125, x126, x127, x128, x129, x130], defers := ds } A := by
  refine Code.wp_mono (Q := fun x a' w' => match x with | .normal => Q .normal a' w' | _ => False) (by intro x a' w' h; cases x <;> first | exact h | exact h.elim) ?_
  refine wp_region_held (S := fun V => Keep (fun j => j = b11 ∨ j = b4 ∨ j = b15) A V) (by kernel_rfl) ?_
  have hS0 : Hid (Keep (fun j => j = b11 ∨ j = b4 ∨ j = b15) A A.drew) := (Keep.refl _ A).drew
  change wpAnyH Try.prog .any _ _ (fun V => Keep (fun j => j = b11 ∨ j = b4 ∨ j = b15) A V) 10 (Array.replicate 10 false) _ A.drew
  obtain ⟨V0, hV0⟩ : ∃ V0, A.drew = V0 := ⟨_, rfl⟩
  rw [hV0]
  rw [hV0] at hS0
  have hX0 : Hid (Blk V0 b4 30 [.slice ra m cr, .slice re k ce] ∧ Blk V0 b15 38 q0) := by rw [← hV0]; exact HX.out
  have HT := HT0
  rw [hV0] at HT
  clear HT0
  have HV0 : Hid (A.drew = V0) := hV0
  clear hV0
  refine wpAnyH_take (i := 1) (oi := { dst := some 40, op := Op.load 43 (Operand.tmp 12), type := 43, pos := "law.go:71", after := #[], guard := none }) (v := .func (.func 18) #[] #[.pointer (some ⟨b11, 0, none⟩), .pointer (some ⟨g6, 0, none⟩)]) rfl (by kernel_rfl) (by kernel_rfl) (by kernel_rfl) (fun _ _ _ h => h.elim) (Or.inl ⟨by rfl, ?y1⟩) hS0.out ?_
  case y1 =>
    intro V hV
    have hc : V.cell? ⟨b12, 0, none⟩ = some (.func (.func 18) #[] #[.pointer (some ⟨b11, 0, none⟩), .pointer (some ⟨g6, 0, none⟩)]) := (World.cell?_of_block (a := ⟨b12, 0, none⟩) ((show Keep (fun j => j = b11 ∨ j = b4 ∨ j = b15) A V from hV).block b12 (HL.out.1) (HL.out.2.1))).trans k12
    go_simp
  simp only [Act.put, List.setIfInBounds_toArray, List.set_cons_zero, List.set_cons_succ]
  refine wpAnyH_ready (rs := [0, 2]) (by kernel_rfl) (by simp) (AllReadyH.cons (i := 0) (o := { dst := some 39, op := Op.load 30 (Operand.tmp 4), type := 30, pos := "law.go:71", after := #[], guard := none }) rfl ?_ (AllReadyH.cons (i := 2) (o := { dst := some 41, op := Op.call { callee := Callee.value (Operand.tmp 40), args := #[], argTypes := #[] }, type := 3, pos := "law.go:71", after := #[{ on := 1, ground := Ground.data }], guard := none }) rfl ?_ AllReadyH.nil))
  · intro K1 hK1
    rw [if_pos (by rfl)]
    have hc0 : V0.cell? ⟨b4, 0, none⟩ = some (.slice ra m cr) := hX0.out.1.cell rfl
    have hc1 : V0.cell? ⟨b4, 1, none⟩ = some (.slice re k ce) := hX0.out.1.cell rfl
    go_wp2
    clear hc0 hc1
    refine hK1.out _ _ hS0.out ?_
    clear hK1
    intro _
    try simp only [Act.put, List.setIfInBounds_toArray, List.set_cons_zero, List.set_cons_succ]
    refine wpAnyH_ready (rs := [2]) (by kernel_rfl) (by simp) (AllReadyH.cons (i := 2) (o := { dst := some 41, op := Op.call { callee := Callee.value (Operand.tmp 40), args := #[], argTypes := #[] }, type := 3, pos := "law.go:71", after := #[{ on := 1, ground := Ground.data }], guard := none }) rfl ?_ AllReadyH.nil)
    · intro K1 hK1
      rw [if_pos (by rfl)]
      have HC := HT
      go_wp2_with fail
      refine HC.mono ?_
      rintro e V2 ⟨rfl, hb11, hk11⟩
      dsimp only
      clear HC
      have hS2 : Hid (Keep (fun j => j = b11 ∨ j = b4 ∨ j = b15) A V2) := (hS0.out).trans (hk11.mono (T := fun j => j = b11 ∨ j = b4 ∨ j = b15) (fun j _ hj => .inl hj)) (fun _ hj _ => hj)
      have hX2 : Hid (Blk V2 b4 30 [.slice ra m cr, .slice re k ce] ∧ Blk V2 b15 38 q0) := ⟨hk11.blk hX0.out.1 HL.out.2.2.1, hk11.blk hX0.out.2 HL.out.2.2.2.1⟩
      have H11 : Hid (Blk V2 b11 3 [iv ((s : Int) + 1)] ∧ Keep (fun j => j = b11) V0 V2) := ⟨hb11, hk11⟩
      clear hb11 hk11
      refine hK1.out _ _ hS2.out ?_
      clear hK1
      intro _
      try simp only [Act.put, List.setIfInBounds_toArray, List.set_cons_zero, List.set_cons_succ]
      refine wpAnyH_ready (rs := [3]) (by kernel_rfl) (by simp) (AllReadyH.cons (i := 3) (o := { dst := some 42, op := Op.call { callee := Callee.value (Operand.func 17), args := #[Operand.tmp 39, Operand.tmp 41], argTypes := #[30, 3] }, type := 41, pos := "law.go:71", after := #[{ on := 0, ground := Ground.data }, { on := 2, ground := Ground.data }, { on := 2, ground := Ground.chain }], guard := none }) rfl ?_ AllReadyH.nil)
      · intro K1 hK1
        rw [if_pos (by rfl)]
        have HC := HU.out V2 (by rw [HV0.out]; exact H11.out.2)
        go_wp2_with fail
        refine HC.mono ?_
        rintro e V3 ⟨wv1, ev1, rfl, hre⟩
        dsimp only
        clear HC
        have hS3 : Hid (Keep (fun j => j = b11 ∨ j = b4 ∨ j = b15) A V3) := (hS2.out).trans (Keep.below (S := fun j => j = b11 ∨ j = b4 ∨ j = b15) hre.2.1) (fun _ hj _ => hj)
        have hX3 : Hid (Blk V3 b4 30 [.slice ra m cr, .slice re k ce] ∧ Blk V3 b15 38 q0) := ⟨hX2.out.1.below hre.2.1 hX2.out.1.lt, hX2.out.2.below hre.2.1 hX2.out.2.lt⟩
        have HRE : Hid (REndP V2 l' E' wv1 ev1 V3) := hre
        clear hre
        refine hK1.out _ _ hS3.out ?_
        clear hK1
        intro _
        try simp only [Act.put, List.setIfInBounds_toArray, List.set_cons_zero, List.set_cons_succ]
        refine wpAnyH_take (i := 4) (oi := { dst := some 38, op := Op.move (Operand.tmp 42), type := 41, pos := "law.go:71", after := #[{ on := 3, ground := Ground.data }], guard := none }) (v := .tuple #[.agg #[wv1, ev1], .agg (qd X).toArray, iv 0]) rfl (by kernel_rfl) (by kernel_rfl) (by kernel_rfl) (fun _ _ _ h => h.elim) (Or.inl ⟨by rfl, ?y2⟩) hS3.out ?_
        case y2 =>
          intro V hV
          go_simp
        simp only [Act.put, List.setIfInBounds_toArray, List.set_cons_zero, List.set_cons_succ]
        refine wpAnyH_take (i := 5) (oi := { dst := some 43, op := Op.extract (Operand.tmp 38) 0, type := 30, pos := "law.go:71", after := #[{ on := 4, ground := Ground.data }], guard := none }) (v := .agg #[wv1, ev1]) rfl (by kernel_rfl) (by kernel_rfl) (by kernel_rfl) (fun _ _ _ h => h.elim) (Or.inl ⟨by rfl, ?y3⟩) hS3.out ?_
        case y3 =>
          intro V hV
          go_simp
        simp only [Act.put, List.setIfInBounds_toArray, List.set_cons_zero, List.set_cons_succ]
        refine wpAnyH_take (i := 6) (oi := { dst := some 44, op := Op.extract (Operand.tmp 38) 1, type := 38, pos := "law.go:71", after := #[{ on := 4, ground := Ground.data }, { on := 8, ground := Ground.gcOnly Departure.lateStores }], guard := none }) (v := .agg (qd X).toArray) rfl (by kernel_rfl) (by kernel_rfl) (by kernel_rfl) (fun _ _ _ h => h.elim) (Or.inl ⟨by rfl, ?y4⟩) hS3.out ?_
        case y4 =>
          intro V hV
          go_simp
        simp only [Act.put, List.setIfInBounds_toArray, List.set_cons_zero, List.set_cons_succ]
        refine wpAnyH_take (i := 7) (oi := { dst := some 45, op := Op.extract (Operand.tmp 38) 2, type := 3, pos := "law.go:71", after := #[{ on := 4, ground := Ground.data }, { on := 9, ground := Ground.gcOnly Departure.lateStores }], guard := none }) (v := iv 0) rfl (by kernel_rfl) (by kernel_rfl) (by kernel_rfl) (fun _ _ _ h => h.elim) (Or.inl ⟨by rfl, ?y5⟩) hS3.out ?_
        case y5 =>
          intro V hV
          go_simp
        simp only [Act.put, List.setIfInBounds_toArray, List.set_cons_zero, List.set_cons_succ]
        refine wpAnyH_ready (rs := [8]) (by kernel_rfl) (by simp) (AllReadyH.cons (i := 8) (o := { dst := none, op := Op.store 30 (Operand.tmp 4) (Operand.tmp 43), type := 0, pos := "law.go:71", after := #[{ on := 5, ground := Ground.data }, { on := 3, ground := Ground.chain }, { on := 0, ground := Ground.phase }, { on := 1, ground := Ground.phase }, { on := 2, ground := Ground.phase }, { on := 3, ground := Ground.phase }, { on := 4, ground := Ground.phase }, { on := 5, ground := Ground.phase }, { on := 6, ground := Ground.textOnly Departure.lateStores }, { on := 7, ground := Ground.textOnly Departure.lateStores }], guard := none }) rfl ?_ AllReadyH.nil)
        · intro K1 hK1
          refine step_st2 (by rfl) 30 (.tmp 4) (.tmp 43) rfl b4 [wv1, ev1] 30 _ rfl rfl hX3.out.1 (by simp) (by simpa using size30) (one_rq HRE.out.1) ?_
          intro V4 hb4 hg4
          have hS4 : Hid (Keep (fun j => j = b11 ∨ j = b4 ∨ j = b15) A V4) := (hS3.out).trans (Keep.grown (S := fun j => j = b11 ∨ j = b4 ∨ j = b15) hg4.out (.inr (.inl rfl))) (fun _ hj _ => hj)
          have hX4 : Hid (Blk V4 b4 30 [wv1, ev1] ∧ Blk V4 b15 38 q0) := ⟨hb4.out, hX3.out.2.kept hg4.out (fun e => by injection e with e; exact HL.out.2.2.2.2 e.symm)⟩
          have hK4 : Hid (Keep (fun j => j = b4 ∨ j = b15) V3 V4) := Keep.grown hg4.out (.inl rfl)
          clear hb4 hg4
          refine hK1.out _ _ hS4.out ?_
          clear hK1
          intro _
          try simp only [Act.put, List.setIfInBounds_toArray, List.set_cons_zero, List.set_cons_succ]
          refine wpAnyH_ready (rs := [9]) (by kernel_rfl) (by simp) (AllReadyH.cons (i := 9) (o := { dst := none, op := Op.store 38 (Operand.tmp 15) (Operand.tmp 44), type := 0, pos := "law.go:71", after := #[{ on := 6, ground := Ground.data }, { on := 8, ground := Ground.chain }, { on := 0, ground := Ground.phase }, { on := 1, ground := Ground.phase }, { on := 2, ground := Ground.phase }, { on := 3, ground := Ground.phase }, { on := 4, ground := Ground.phase }, { on := 5, ground := Ground.phase }, { on := 6, ground := Ground.phase }, { on := 7, ground := Ground.textOnly Departure.lateStores }, { on := 8, ground := Ground.phase }], guard := none }) rfl ?_ AllReadyH.nil)
          · intro K1 hK1
            refine step_st2 (by rfl) 38 (.tmp 15) (.tmp 44) rfl b15 (qd X) 38 _ rfl rfl hX4.out.2 (by simp [qd, q0]) (by exact size38) (qd_one X) ?_
            intro V5 hb5 hg5
            have hS5 : Hid (Keep (fun j => j = b11 ∨ j = b4 ∨ j = b15) A V5) := (hS4.out).trans (Keep.grown (S := fun j => j = b11 ∨ j = b4 ∨ j = b15) hg5.out (.inr (.inr rfl))) (fun _ hj _ => hj)
            have hX5 : Hid (Blk V5 b4 30 [wv1, ev1] ∧ Blk V5 b15 38 (qd X)) := ⟨hX4.out.1.kept hg5.out (fun e => by injection e with e; exact HL.out.2.2.2.2 e), hb5.out⟩
            have hK5 : Hid (Keep (fun j => j = b4 ∨ j = b15) V3 V5) := hK4.out.trans (Keep.grown (S := fun j => j = b4 ∨ j = b15) hg5.out (.inr rfl)) (fun _ hj _ => hj)
            clear hb5 hg5
            refine hK1.out _ _ hS5.out ?_
            clear hK1
            intro _
            try simp only [Act.put, List.setIfInBounds_toArray, List.set_cons_zero, List.set_cons_succ]
            refine wpAnyH_done (by kernel_rfl) ?_ _
            exact hQ V2 V3 V5 _ _ (by rw [HV0.out]; exact H11.out.2) H11.out.1 HRE.out hK5.out hX5.out
  · intro K1 hK1
    rw [if_pos (by rfl)]
    have HC := HT
    go_wp2_with fail
    refine HC.mono ?_
    rintro e V1 ⟨rfl, hb11, hk11⟩
    dsimp only
    clear HC
    have hS1 : Hid (Keep (fun j => j = b11 ∨ j = b4 ∨ j = b15) A V1) := (hS0.out).trans (hk11.mono (T := fun j => j = b11 ∨ j = b4 ∨ j = b15) (fun j _ hj => .inl hj)) (fun _ hj _ => hj)
    have hX1 : Hid (Blk V1 b4 30 [.slice ra m cr, .slice re k ce] ∧ Blk V1 b15 38 q0) := ⟨hk11.blk hX0.out.1 HL.out.2.2.1, hk11.blk hX0.out.2 HL.out.2.2.2.1⟩
    have H11 : Hid (Blk V1 b11 3 [iv ((s : Int) + 1)] ∧ Keep (fun j => j = b11) V0 V1) := ⟨hb11, hk11⟩
    clear hb11 hk11
    refine hK1.out _ _ hS1.out ?_
    clear hK1
    intro _
    try simp only [Act.put, List.setIfInBounds_toArray, List.set_cons_zero, List.set_cons_succ]
    refine wpAnyH_ready (rs := [0]) (by kernel_rfl) (by simp) (AllReadyH.cons (i := 0) (o := { dst := some 39, op := Op.load 30 (Operand.tmp 4), type := 30, pos := "law.go:71", after := #[], guard := none }) rfl ?_ AllReadyH.nil)
    · intro K1 hK1
      rw [if_pos (by rfl)]
      have hc0 : V1.cell? ⟨b4, 0, none⟩ = some (.slice ra m cr) := hX1.out.1.cell rfl
      have hc1 : V1.cell? ⟨b4, 1, none⟩ = some (.slice re k ce) := hX1.out.1.cell rfl
      go_wp2
      clear hc0 hc1
      refine hK1.out _ _ hS1.out ?_
      clear hK1
      intro _
      try simp only [Act.put, List.setIfInBounds_toArray, List.set_cons_zero, List.set_cons_succ]
      refine wpAnyH_ready (rs := [3]) (by kernel_rfl) (by simp) (AllReadyH.cons (i := 3) (o := { dst := some 42, op := Op.call { callee := Callee.value (Operand.func 17), args := #[Operand.tmp 39, Operand.tmp 41], argTypes := #[30, 3] }, type := 41, pos := "law.go:71", after := #[{ on := 0, ground := Ground.data }, { on := 2, ground := Ground.data }, { on := 2, ground := Ground.chain }], guard := none }) rfl ?_ AllReadyH.nil)
      · intro K1 hK1
        rw [if_pos (by rfl)]
        have HC := HU.out V1 (by rw [HV0.out]; exact H11.out.2)
        go_wp2_with fail
        refine HC.mono ?_
        rintro e V3 ⟨wv1, ev1, rfl, hre⟩
        dsimp only
        clear HC
        have hS3 : Hid (Keep (fun j => j = b11 ∨ j = b4 ∨ j = b15) A V3) := (hS1.out).trans (Keep.below (S := fun j => j = b11 ∨ j = b4 ∨ j = b15) hre.2.1) (fun _ hj _ => hj)
        have hX3 : Hid (Blk V3 b4 30 [.slice ra m cr, .slice re k ce] ∧ Blk V3 b15 38 q0) := ⟨hX1.out.1.below hre.2.1 hX1.out.1.lt, hX1.out.2.below hre.2.1 hX1.out.2.lt⟩
        have HRE : Hid (REndP V1 l' E' wv1 ev1 V3) := hre
        clear hre
        refine hK1.out _ _ hS3.out ?_
        clear hK1
        intro _
        try simp only [Act.put, List.setIfInBounds_toArray, List.set_cons_zero, List.set_cons_succ]
        refine wpAnyH_take (i := 4) (oi := { dst := some 38, op := Op.move (Operand.tmp 42), type := 41, pos := "law.go:71", after := #[{ on := 3, ground := Ground.data }], guard := none }) (v := .tuple #[.agg #[wv1, ev1], .agg (qd X).toArray, iv 0]) rfl (by kernel_rfl) (by kernel_rfl) (by kernel_rfl) (fun _ _ _ h => h.elim) (Or.inl ⟨by rfl, ?y6⟩) hS3.out ?_
        case y6 =>
          intro V hV
          go_simp
        simp only [Act.put, List.setIfInBounds_toArray, List.set_cons_zero, List.set_cons_succ]
        refine wpAnyH_take (i := 5) (oi := { dst := some 43, op := Op.extract (Operand.tmp 38) 0, type := 30, pos := "law.go:71", after := #[{ on := 4, ground := Ground.data }], guard := none }) (v := .agg #[wv1, ev1]) rfl (by kernel_rfl) (by kernel_rfl) (by kernel_rfl) (fun _ _ _ h => h.elim) (Or.inl ⟨by rfl, ?y7⟩) hS3.out ?_
        case y7 =>
          intro V hV
          go_simp
        simp only [Act.put, List.setIfInBounds_toArray, List.set_cons_zero, List.set_cons_succ]
        refine wpAnyH_take (i := 6) (oi := { dst := some 44, op := Op.extract (Operand.tmp 38) 1, type := 38, pos := "law.go:71", after := #[{ on := 4, ground := Ground.data }, { on := 8, ground := Ground.gcOnly Departure.lateStores }], guard := none }) (v := .agg (qd X).toArray) rfl (by kernel_rfl) (by kernel_rfl) (by kernel_rfl) (fun _ _ _ h => h.elim) (Or.inl ⟨by rfl, ?y8⟩) hS3.out ?_
        case y8 =>
          intro V hV
          go_simp
        simp only [Act.put, List.setIfInBounds_toArray, List.set_cons_zero, List.set_cons_succ]
        refine wpAnyH_take (i := 7) (oi := { dst := some 45, op := Op.extract (Operand.tmp 38) 2, type := 3, pos := "law.go:71", after := #[{ on := 4, ground := Ground.data }, { on := 9, ground := Ground.gcOnly Departure.lateStores }], guard := none }) (v := iv 0) rfl (by kernel_rfl) (by kernel_rfl) (by kernel_rfl) (fun _ _ _ h => h.elim) (Or.inl ⟨by rfl, ?y9⟩) hS3.out ?_
        case y9 =>
          intro V hV
          go_simp
        simp only [Act.put, List.setIfInBounds_toArray, List.set_cons_zero, List.set_cons_succ]
        refine wpAnyH_ready (rs := [8]) (by kernel_rfl) (by simp) (AllReadyH.cons (i := 8) (o := { dst := none, op := Op.store 30 (Operand.tmp 4) (Operand.tmp 43), type := 0, pos := "law.go:71", after := #[{ on := 5, ground := Ground.data }, { on := 3, ground := Ground.chain }, { on := 0, ground := Ground.phase }, { on := 1, ground := Ground.phase }, { on := 2, ground := Ground.phase }, { on := 3, ground := Ground.phase }, { on := 4, ground := Ground.phase }, { on := 5, ground := Ground.phase }, { on := 6, ground := Ground.textOnly Departure.lateStores }, { on := 7, ground := Ground.textOnly Departure.lateStores }], guard := none }) rfl ?_ AllReadyH.nil)
        · intro K1 hK1
          refine step_st2 (by rfl) 30 (.tmp 4) (.tmp 43) rfl b4 [wv1, ev1] 30 _ rfl rfl hX3.out.1 (by simp) (by simpa using size30) (one_rq HRE.out.1) ?_
          intro V4 hb4 hg4
          have hS4 : Hid (Keep (fun j => j = b11 ∨ j = b4 ∨ j = b15) A V4) := (hS3.out).trans (Keep.grown (S := fun j => j = b11 ∨ j = b4 ∨ j = b15) hg4.out (.inr (.inl rfl))) (fun _ hj _ => hj)
          have hX4 : Hid (Blk V4 b4 30 [wv1, ev1] ∧ Blk V4 b15 38 q0) := ⟨hb4.out, hX3.out.2.kept hg4.out (fun e => by injection e with e; exact HL.out.2.2.2.2 e.symm)⟩
          have hK4 : Hid (Keep (fun j => j = b4 ∨ j = b15) V3 V4) := Keep.grown hg4.out (.inl rfl)
          clear hb4 hg4
          refine hK1.out _ _ hS4.out ?_
          clear hK1
          intro _
          try simp only [Act.put, List.setIfInBounds_toArray, List.set_cons_zero, List.set_cons_succ]
          refine wpAnyH_ready (rs := [9]) (by kernel_rfl) (by simp) (AllReadyH.cons (i := 9) (o := { dst := none, op := Op.store 38 (Operand.tmp 15) (Operand.tmp 44), type := 0, pos := "law.go:71", after := #[{ on := 6, ground := Ground.data }, { on := 8, ground := Ground.chain }, { on := 0, ground := Ground.phase }, { on := 1, ground := Ground.phase }, { on := 2, ground := Ground.phase }, { on := 3, ground := Ground.phase }, { on := 4, ground := Ground.phase }, { on := 5, ground := Ground.phase }, { on := 6, ground := Ground.phase }, { on := 7, ground := Ground.textOnly Departure.lateStores }, { on := 8, ground := Ground.phase }], guard := none }) rfl ?_ AllReadyH.nil)
          · intro K1 hK1
            refine step_st2 (by rfl) 38 (.tmp 15) (.tmp 44) rfl b15 (qd X) 38 _ rfl rfl hX4.out.2 (by simp [qd, q0]) (by exact size38) (qd_one X) ?_
            intro V5 hb5 hg5
            have hS5 : Hid (Keep (fun j => j = b11 ∨ j = b4 ∨ j = b15) A V5) := (hS4.out).trans (Keep.grown (S := fun j => j = b11 ∨ j = b4 ∨ j = b15) hg5.out (.inr (.inr rfl))) (fun _ hj _ => hj)
            have hX5 : Hid (Blk V5 b4 30 [wv1, ev1] ∧ Blk V5 b15 38 (qd X)) := ⟨hX4.out.1.kept hg5.out (fun e => by injection e with e; exact HL.out.2.2.2.2 e), hb5.out⟩
            have hK5 : Hid (Keep (fun j => j = b4 ∨ j = b15) V3 V5) := hK4.out.trans (Keep.grown (S := fun j => j = b4 ∨ j = b15) hg5.out (.inr rfl)) (fun _ hj _ => hj)
            clear hb5 hg5
            refine hK1.out _ _ hS5.out ?_
            clear hK1
            intro _
            try simp only [Act.put, List.setIfInBounds_toArray, List.set_cons_zero, List.set_cons_succ]
            refine wpAnyH_done (by kernel_rfl) ?_ _
            exact hQ V1 V3 V5 _ _ (by rw [HV0.out]; exact H11.out.2) H11.out.1 HRE.out hK5.out hX5.out
#print axioms pl17
end Go.Proofs.Ytipipckbcelphaa.Oct
