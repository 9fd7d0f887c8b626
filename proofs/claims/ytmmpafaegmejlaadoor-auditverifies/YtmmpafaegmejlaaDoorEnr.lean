/-
  Layer 19 (audit): the end and the head of a chain.
-/
import Derived.Test.YtmmpafaegmejlaaDoorDge
import Derived.Deep.RegionHeld
import Derived.Deep.RegionHeldLaw
namespace Go.Proofs.YtmmpafaegmejlaaDoor.Oct
open Go.RowKit Sha
set_option linter.unusedSimpArgs false
set_option linter.unusedVariables false

theorem step_stB {ops : Array Oper} {o : Oper} {a : Act} {w : World} {K : Act → World → Prop} {Q : Exit → Act → World → Prop} {E : Prop} (hw : Region.wanted o (yielded ops a.tmps) = true) (t : TypeId) (x y : Operand) (hop : o.op = .store t x y) (b : Nat) (cs : List Value) (T : TypeId) (L : List Value) (hx : a.eval x = .pointer (some ⟨b, 0, none⟩)) (hy : a.eval y = .agg cs.toArray) (hb : Blk w b T L) (hkl : L.length = cs.length)
    (hi : (Tryd.prog.info? t).map (·.size) = some cs.length) (h1 : ∀ v ∈ cs, v.oneCell' = true) (hk : ∀ V, Hid (Blk V b T cs) → Hid (w.grownBy V (some b)) → K (a.put o.dst undef) V) : if Region.wanted o (yielded ops a.tmps) = true then Oper.wp Tryd.prog o a w K Q else E := by
  rw [if_pos hw]
  refine wp_store_mid t x y hop b 0 cs.toArray hx hy (by simpa using hb.there 0 cs.length (by omega)) (by simpa using hi) (all_oneCell_toArray h1) ?_
  have e := Blk.setCells cs 0 w L hb (by omega)
  refine hk _ ?_ e.2
  have h2 := blk_all e.1 hkl
  show Blk _ _ _ _
  simpa using h2
theorem zb_is (n : Nat) : zb n = U (List.replicate n 0) := by unfold zb U; simp
set_option maxRecDepth 100000 in
set_option maxHeartbeats 4000000 in
theorem end3 {Q : Exit → Act → World → Prop} {x1 x3 x4 x5 x6 x7 x8 x9 x10 x11 x12 x13 x14 x15 x16 x17 x18 x19 x20 x21 : Value} {ds : List Deferred} {A : World} {c r b off k cap : Nat} {x : En} {Z : List Value}
    (HL : Hid (c < A.heap.size ∧ some c ≠ some r ∧ b < A.heap.size ∧ some b ≠ some r)) (c0 : A.cell? ⟨c, 0, none⟩ = some (.slice (some ⟨b, off, none⟩) (k + 1) cap)) (HR : Hid (A.rangeAt b (off + k * 36) x.cells)) (HX : Hid x.ok) (HZ : Hid (Blk A r 37 Z ∧ Z.length = x.cells.length)) (HK : Hid ((k : Int) ≤ 1000000))
    (hQ : ∀ V1, Blk V1 r 37 x.cells → A.grownBy V1 (some r) → Q .normal { tmps := #[.pointer (some ⟨c, 0, none⟩), x1, .pointer (some ⟨r, 0, none⟩), x3, x4, x5, x6, x7, x8, x9, .pointer (some ⟨c, 0, none⟩), .pointer (some ⟨c, 0, none⟩), .pointer (some ⟨c, 0, none⟩), .slice (some ⟨b, off, none⟩) (k + 1) cap, .pointer (some ⟨c, 0, none⟩), .pointer (some ⟨c, 0, none⟩), .pointer (some ⟨c, 0, none⟩), .slice (some ⟨b, off, none⟩) (k + 1) cap, iv ((k : Int) + 1), iv (k : Int), .pointer (some ⟨b, off + k * 36, none⟩), .agg x.cells.toArray], defers := ds } V1) :
    (Code.region 3 #[{ dst := some 10, op := Op.move (Operand.tmp 0), type := 51, pos := "chain.go:13", after := #[], guard := none }, { dst := some 11, op := Op.nilCheck (Operand.tmp 10), type := 0, pos := "chain.go:13", after := #[{ on := 0, ground := Ground.data }], guard := none }, { dst := some 12, op := Op.fieldAddr 58 (Operand.tmp 11) 0, type := 0, pos := "chain.go:13", after := #[{ on := 1, ground := Ground.data }], guard := none }, { dst := some 13, op := Op.load 27 (Operand.tmp 12), type := 27, pos := "chain.go:13", after := #[{ on := 2, ground := Ground.data }], guard := none }, { dst := some 14, op := Op.move (Operand.tmp 0), type := 51, pos := "chain.go:13", after := #[], guard := none }, { dst := some 15, op := Op.nilCheck (Operand.tmp 14), type := 0, pos := "chain.go:13", after := #[{ on := 4, ground := Ground.data }], guard := none }, { dst := some 16, op := Op.fieldAddr 58 (Operand.tmp 15) 0, type := 0, pos := "chain.go:13", after := #[{ on := 5, ground := Ground.data }], guard := none }, { dst := some 17, op := Op.load 27 (Operand.tmp 16), type := 27, pos := "chain.go:13", after := #[{ on := 6, ground := Ground.data }], guard := none }, { dst := some 18, op := Op.call { callee := Callee.builtin Builtin.len, args := #[Operand.tmp 17], argTypes := #[27] }, type := 3, pos := "chain.go:13", after := #[{ on := 7, ground := Ground.data }], guard := none }, { dst := some 19, op := Op.binOp BinOp.sub 3 (Operand.tmp 18) (Operand.const (Value.int IntKind.i64 1)) 3, type := 3, pos := "chain.go:13", after := #[{ on := 8, ground := Ground.data }], guard := none }, { dst := some 20, op := Op.indexAddr 27 (Operand.tmp 13) (Operand.tmp 19), type := 0, pos := "chain.go:13", after := #[{ on := 3, ground := Ground.data }, { on := 9, ground := Ground.data }], guard := none }, { dst := some 21, op := Op.load 37 (Operand.tmp 20), type := 37, pos := "chain.go:13", after := #[{ on := 10, ground := Ground.data }], guard := none }, { dst := none, op := Op.store 37 (Operand.tmp 2) (Operand.tmp 21), type := 0, pos := "chain.go:13", after := #[{ on := 11, ground := Ground.data }, { on := 0, ground := Ground.phase }, { on := 1, ground := Ground.phase }, { on := 2, ground := Ground.phase }, { on := 3, ground := Ground.phase }, { on := 4, ground := Ground.phase }, { on := 5, ground := Ground.phase }, { on := 6, ground := Ground.phase }, { on := 7, ground := Ground.phase }, { on := 8, ground := Ground.phase }, { on := 9, ground := Ground.phase }, { on := 10, ground := Ground.phase }, { on := 11, ground := Ground.phase }], guard := none }] true).wp Tryd.prog Q { tmps := #[.pointer (some ⟨c, 0, none⟩), x1, .pointer (some ⟨r, 0, none⟩), x3, x4, x5, x6, x7, x8, x9, x10, x11, x12, x13, x14, x15, x16, x17, x18, x19, x20, x21], defers := ds } A := by
  refine Code.wp_mono (Q := fun x a' w' => match x with | .normal => Q .normal a' w' | _ => False) (by intro x a' w' h; cases x <;> first | exact h | exact h.elim) ?_
  refine wp_region_held (S := fun V => A.grownBy V (some r)) (by kernel_rfl) ?_
  have hS0 : Hid (A.grownBy A.drew (some r)) := grown_drewN A 1 _
  change wpAnyH Tryd.prog .any _ _ (fun V => A.grownBy V (some r)) 13 (Array.replicate 13 false) _ A.drew
  obtain ⟨V0, hV0⟩ : ∃ V0, A.drew = V0 := ⟨_, rfl⟩
  rw [hV0]
  rw [hV0] at hS0
  have hZ0 : Hid (Blk V0 r 37 Z) := by rw [← hV0]; exact HZ.out.1
  clear hV0
  refine wpAnyH_take (i := 0) (oi := { dst := some 10, op := Op.move (Operand.tmp 0), type := 51, pos := "chain.go:13", after := #[], guard := none }) (v := .pointer (some ⟨c, 0, none⟩)) rfl (by kernel_rfl) (by kernel_rfl) (by kernel_rfl) (fun _ _ _ h => h.elim) (Or.inl ⟨by rfl, ?y1⟩) hS0.out ?_
  case y1 =>
    intro V hV
    go_simp
  simp only [Act.put, List.setIfInBounds_toArray, List.set_cons_zero, List.set_cons_succ]
  refine wpAnyH_take (i := 1) (oi := { dst := some 11, op := Op.nilCheck (Operand.tmp 10), type := 0, pos := "chain.go:13", after := #[{ on := 0, ground := Ground.data }], guard := none }) (v := .pointer (some ⟨c, 0, none⟩)) rfl (by kernel_rfl) (by kernel_rfl) (by kernel_rfl) (fun _ _ _ h => h.elim) (Or.inl ⟨by rfl, ?y2⟩) hS0.out ?_
  case y2 =>
    intro V hV
    go_simp
  simp only [Act.put, List.setIfInBounds_toArray, List.set_cons_zero, List.set_cons_succ]
  refine wpAnyH_take (i := 2) (oi := { dst := some 12, op := Op.fieldAddr 58 (Operand.tmp 11) 0, type := 0, pos := "chain.go:13", after := #[{ on := 1, ground := Ground.data }], guard := none }) (v := .pointer (some ⟨c, 0, none⟩)) rfl (by kernel_rfl) (by kernel_rfl) (by kernel_rfl) (fun _ _ _ h => h.elim) (Or.inl ⟨by rfl, ?y3⟩) hS0.out ?_
  case y3 =>
    intro V hV
    go_simp
  simp only [Act.put, List.setIfInBounds_toArray, List.set_cons_zero, List.set_cons_succ]
  refine wpAnyH_take (i := 3) (oi := { dst := some 13, op := Op.load 27 (Operand.tmp 12), type := 27, pos := "chain.go:13", after := #[{ on := 2, ground := Ground.data }], guard := none }) (v := .slice (some ⟨b, off, none⟩) (k + 1) cap) rfl (by kernel_rfl) (by kernel_rfl) (by kernel_rfl) (fun _ _ _ h => h.elim) (Or.inl ⟨by rfl, ?y4⟩) hS0.out ?_
  case y4 =>
    intro V hV
    have hc : V.cell? ⟨c, 0, none⟩ = some (.slice (some ⟨b, off, none⟩) (k + 1) cap) := (World.cell?_of_block (a := ⟨c, 0, none⟩) ((show A.grownBy V (some r) from hV).block c HL.out.1 HL.out.2.1)).trans c0
    go_simp
  simp only [Act.put, List.setIfInBounds_toArray, List.set_cons_zero, List.set_cons_succ]
  refine wpAnyH_take (i := 4) (oi := { dst := some 14, op := Op.move (Operand.tmp 0), type := 51, pos := "chain.go:13", after := #[], guard := none }) (v := .pointer (some ⟨c, 0, none⟩)) rfl (by kernel_rfl) (by kernel_rfl) (by kernel_rfl) (fun _ _ _ h => h.elim) (Or.inl ⟨by rfl, ?y5⟩) hS0.out ?_
  case y5 =>
    intro V hV
    go_simp
  simp only [Act.put, List.setIfInBounds_toArray, List.set_cons_zero, List.set_cons_succ]
  refine wpAnyH_take (i := 5) (oi := { dst := some 15, op := Op.nilCheck (Operand.tmp 14), type := 0, pos := "chain.go:13", after := #[{ on := 4, ground := Ground.data }], guard := none }) (v := .pointer (some ⟨c, 0, none⟩)) rfl (by kernel_rfl) (by kernel_rfl) (by kernel_rfl) (fun _ _ _ h => h.elim) (Or.inl ⟨by rfl, ?y6⟩) hS0.out ?_
  case y6 =>
    intro V hV
    go_simp
  simp only [Act.put, List.setIfInBounds_toArray, List.set_cons_zero, List.set_cons_succ]
  refine wpAnyH_take (i := 6) (oi := { dst := some 16, op := Op.fieldAddr 58 (Operand.tmp 15) 0, type := 0, pos := "chain.go:13", after := #[{ on := 5, ground := Ground.data }], guard := none }) (v := .pointer (some ⟨c, 0, none⟩)) rfl (by kernel_rfl) (by kernel_rfl) (by kernel_rfl) (fun _ _ _ h => h.elim) (Or.inl ⟨by rfl, ?y7⟩) hS0.out ?_
  case y7 =>
    intro V hV
    go_simp
  simp only [Act.put, List.setIfInBounds_toArray, List.set_cons_zero, List.set_cons_succ]
  refine wpAnyH_take (i := 7) (oi := { dst := some 17, op := Op.load 27 (Operand.tmp 16), type := 27, pos := "chain.go:13", after := #[{ on := 6, ground := Ground.data }], guard := none }) (v := .slice (some ⟨b, off, none⟩) (k + 1) cap) rfl (by kernel_rfl) (by kernel_rfl) (by kernel_rfl) (fun _ _ _ h => h.elim) (Or.inl ⟨by rfl, ?y8⟩) hS0.out ?_
  case y8 =>
    intro V hV
    have hc : V.cell? ⟨c, 0, none⟩ = some (.slice (some ⟨b, off, none⟩) (k + 1) cap) := (World.cell?_of_block (a := ⟨c, 0, none⟩) ((show A.grownBy V (some r) from hV).block c HL.out.1 HL.out.2.1)).trans c0
    go_simp
  simp only [Act.put, List.setIfInBounds_toArray, List.set_cons_zero, List.set_cons_succ]
  refine wpAnyH_take (i := 8) (oi := { dst := some 18, op := Op.call { callee := Callee.builtin Builtin.len, args := #[Operand.tmp 17], argTypes := #[27] }, type := 3, pos := "chain.go:13", after := #[{ on := 7, ground := Ground.data }], guard := none }) (v := iv ((k : Int) + 1)) rfl (by kernel_rfl) (by kernel_rfl) (by kernel_rfl) (fun _ _ _ h => h.elim) (Or.inl ⟨by rfl, ?y9⟩) hS0.out ?_
  case y9 =>
    intro V hV
    go_simp
  simp only [Act.put, List.setIfInBounds_toArray, List.set_cons_zero, List.set_cons_succ]
  refine wpAnyH_take (i := 9) (oi := { dst := some 19, op := Op.binOp BinOp.sub 3 (Operand.tmp 18) (Operand.const (Value.int IntKind.i64 1)) 3, type := 3, pos := "chain.go:13", after := #[{ on := 8, ground := Ground.data }], guard := none }) (v := iv (k : Int)) rfl (by kernel_rfl) (by kernel_rfl) (by kernel_rfl) (fun _ _ _ h => h.elim) (Or.inl ⟨by rfl, ?y10⟩) hS0.out ?_
  case y10 =>
    intro V hV
    have q1 := HK.out
    have q2 : IntKind.i64.wrap (k : Int) = (k : Int) := by rw [IntKind.wrap_i64]; omega
    go_simp
  simp only [Act.put, List.setIfInBounds_toArray, List.set_cons_zero, List.set_cons_succ]
  refine wpAnyH_take (i := 10) (oi := { dst := some 20, op := Op.indexAddr 27 (Operand.tmp 13) (Operand.tmp 19), type := 0, pos := "chain.go:13", after := #[{ on := 3, ground := Ground.data }, { on := 9, ground := Ground.data }], guard := none }) (v := .pointer (some ⟨b, off + k * 36, none⟩)) rfl (by kernel_rfl) (by kernel_rfl) (by kernel_rfl) (fun _ _ _ h => h.elim) (Or.inl ⟨by rfl, ?y11⟩) hS0.out ?_
  case y11 =>
    intro V hV
    have q1 := HK.out
    have q2 : (k : Int) < (k : Int) + 1 := by omega
    go_simp
  simp only [Act.put, List.setIfInBounds_toArray, List.set_cons_zero, List.set_cons_succ]
  refine wpAnyH_take (i := 11) (oi := { dst := some 21, op := Op.load 37 (Operand.tmp 20), type := 37, pos := "chain.go:13", after := #[{ on := 10, ground := Ground.data }], guard := none }) (v := .agg x.cells.toArray) rfl (by kernel_rfl) (by kernel_rfl) (by kernel_rfl) (fun _ _ _ h => h.elim) (yieldsIf_load_mid (by rfl) _ _ rfl _ _ rfl (x.cells) _ (fun V hV => rangeAt_same (HR.out) ((show A.grownBy V (some r) from hV).block _ (HL.out.2.2.1) (HL.out.2.2.2))) Tryd.underlying37 rfl (info37 HX.out)) hS0.out ?_
  simp only [Act.put, List.setIfInBounds_toArray, List.set_cons_zero, List.set_cons_succ]
  refine wpAnyH_ready (rs := [12]) (by kernel_rfl) (by simp) (AllReadyH.cons (i := 12) (o := { dst := none, op := Op.store 37 (Operand.tmp 2) (Operand.tmp 21), type := 0, pos := "chain.go:13", after := #[{ on := 11, ground := Ground.data }, { on := 0, ground := Ground.phase }, { on := 1, ground := Ground.phase }, { on := 2, ground := Ground.phase }, { on := 3, ground := Ground.phase }, { on := 4, ground := Ground.phase }, { on := 5, ground := Ground.phase }, { on := 6, ground := Ground.phase }, { on := 7, ground := Ground.phase }, { on := 8, ground := Ground.phase }, { on := 9, ground := Ground.phase }, { on := 10, ground := Ground.phase }, { on := 11, ground := Ground.phase }], guard := none }) rfl ?_ AllReadyH.nil)
  · intro K1 hK1
    refine step_stB (by rfl) 37 (.tmp 2) (.tmp 21) rfl r x.cells 37 Z rfl rfl hZ0.out HZ.out.2 (info37 HX.out) (En.one x) ?_
    intro V1 hX1 hg1
    have hS1 : Hid (A.grownBy V1 (some r)) := grown_tr hS0.out hg1.out
    clear hg1
    refine hK1.out _ _ hS1.out ?_
    clear hK1
    intro _
    try simp only [Act.put, List.setIfInBounds_toArray, List.set_cons_zero, List.set_cons_succ]
    refine wpAnyH_done (by kernel_rfl) ?_ _
    exact hQ V1 hX1.out hS1.out
#print axioms end3
theorem last_get {l : List En} {k : Nat} (h : l.length = k + 1) : l[k]? = some (lastE l) := by
  unfold lastE
  rw [List.getLast?_eq_getElem?, h, Nat.add_sub_cancel]
  have hk : k < l.length := by omega
  rw [List.getElem?_eq_getElem hk]
  rfl
theorem last_mem {l : List En} (h : l ≠ []) : lastE l ∈ l := by
  cases hl : l.length with
  | zero => exact absurd (List.eq_nil_of_length_eq_zero hl) h
  | succ k => exact List.mem_of_getElem? (last_get hl)
set_option maxRecDepth 100000 in
set_option maxHeartbeats 1000000 in
theorem end_is {w : World} {c : Nat} {l : List En} (h : Ch w c l) : Calls Tryd.prog 38 #[.pointer (some ⟨c, 0, none⟩)] w fun e w' => e = .returned (.agg (lastE l).cells.toArray) ∧ Below w.heap.size w w' := by
  obtain ⟨v, hc, ⟨hok, a, cap, rfl, hle, hcap, hr⟩, hn, hsz⟩ := h
  obtain ⟨Z, hZ, HZ⟩ := zero37
  obtain ⟨r, hr0⟩ : ∃ b, w.heap.size = b := ⟨_, rfl⟩
  obtain ⟨A, hA⟩ : ∃ A, w.alloc (.cells Z.toArray 37) = A := ⟨_, rfl⟩
  have hB : Below w.heap.size w A := by rw [← hA]; exact below_al _ _
  have hZA : Blk A r 37 Z := by rw [← hA, ← hr0]; exact Blk.new w _ _
  have hcA := hc.below hB hc.lt
  have c0 := hcA.cell (i := 0) rfl
  have HA : Hid (Below w.heap.size w A ∧ Blk A r 37 Z ∧ w.heap.size ≤ r ∧ c < w.heap.size ∧ Z = zE.cells) := ⟨hB, hZA, by omega, hc.lt, HZ.out⟩
  clear hB hZA hcA hc hsz HZ
  cases hl : l.length with
  | zero =>
    obtain rfl := List.eq_nil_of_length_eq_zero hl
    have HBL := built37
    clear hok hle hcap hr hn hl
    go_enter Tryd.func38, Tryd.ntmps38
    go_wp2_with (with_reducible change wpList _ _ _ ({ dst := some 9, op := _, type := _, pos := _, after := _, guard := _ } :: _) _ _; refine Hid.out ?_)
    show wpList _ _ _ _ _ _
    refine wpList_built rfl 37 _ rfl zE.cells.toArray (by rw [← HBL]; simp) ?_
    go_wp2_with (with_reducible change wpList _ _ _ ({ dst := none, op := Op.store 37 _ _, type := _, pos := _, after := _, guard := _ } :: _) _ _; refine Hid.out ?_)
    show wpList _ _ _ _ _ _
    refine wpList_store_blk rfl 37 (.tmp 2) (.tmp 9) rfl r 0 37 Z zE.cells rfl rfl HA.out.2.1 (by rw [HA.out.2.2.2.2]; omega) (info37 zE_ok) (En.one _) ?_
    intro W1 hx hg
    have H1 : Hid (Blk W1 r 37 zE.cells ∧ Below w.heap.size w W1) := ⟨blk_all hx.out (by rw [HA.out.2.2.2.2]), below_gr HA.out.1 hg.out HA.out.2.2.1⟩
    clear hx hg hA hr0
    go_wp2
    exact ret_c rfl rfl rfl H1.out.1 Tryd.underlying37 rfl (info37 zE_ok) ⟨rfl, H1.out.2⟩
  | succ k =>
    obtain ⟨b, off, rfl, hb, he⟩ := hr (by omega)
    obtain ⟨x, hx⟩ : ∃ x, lastE l = x := ⟨_, rfl⟩
    have hgk := last_get hl
    rw [hx] at hgk
    have HX : Hid (x.ok ∧ A.rangeAt b (off + k * 36) x.cells ∧ b < A.heap.size ∧ b < w.heap.size ∧ (k : Int) ≤ 1000000 ∧ lastE l = x) := ⟨hok x (List.mem_of_getElem? hgk), rangeAt_same (he k x hgk) (HA.out.1.block b hb), Nat.lt_of_lt_of_le hb HA.out.1.size, hb, by omega, hx⟩
    have qk : (k : Int) ≤ 1000000 := by omega
    rw [hl] at c0
    rw [hx]
    clear hok hle hcap hr hn hl hb he hgk hx
    go_enter Tryd.func38, Tryd.ntmps38
    go_wp2_with fail
    refine end3 (x := x) (k := k) (b := b) (off := off) (cap := cap) ⟨Nat.lt_of_lt_of_le HA.out.2.2.2.1 HA.out.1.size, by simp; have := HA.out.2.2.1; have := HA.out.2.2.2.1; omega, HX.out.2.2.1, by simp; have := HA.out.2.2.1; have := HX.out.2.2.2.1; omega⟩ c0 HX.out.2.1 HX.out.1 ⟨HA.out.2.1, by rw [HA.out.2.2.2.2, En.len zE_ok, En.len HX.out.1]⟩ HX.out.2.2.2.2.1 ?_
    intro W1 hx hg
    have H1 : Hid (Blk W1 r 37 x.cells ∧ Below w.heap.size w W1) := ⟨hx, below_gr HA.out.1 hg HA.out.2.2.1⟩
    clear hx hg hA hr0 c0
    go_wp2
    exact ret_c rfl rfl rfl H1.out.1 Tryd.underlying37 rfl (info37 HX.out.1) ⟨rfl, H1.out.2⟩
#print axioms end_is
set_option maxRecDepth 100000 in
set_option maxHeartbeats 1000000 in
theorem head_is {w : World} {c : Nat} {l : List En} (h : Ch w c l) (hk : KT w) (hs : ST w) (D : List UInt8) (hD : hdE l = D) : Calls Tryd.prog 37 #[.pointer (some ⟨c, 0, none⟩)] w fun e w' => e = .returned (.agg (U D).toArray) ∧ Below w.heap.size w w' := by
  have HCh : Hid (Ch w c l) := h
  obtain ⟨v, hc, ⟨hok, a, cap, rfl, hle, hcap, hr⟩, hn, hsz⟩ := h
  obtain ⟨Z, hZ, HZ⟩ := zero35
  obtain ⟨r, hr0⟩ : ∃ b, w.heap.size = b := ⟨_, rfl⟩
  obtain ⟨A, hA⟩ : ∃ A, w.alloc (.cells Z.toArray 35) = A := ⟨_, rfl⟩
  have hB : Below w.heap.size w A := by rw [← hA]; exact below_al _ _
  have hZA : Blk A r 35 Z := by rw [← hA, ← hr0]; exact Blk.new w _ _
  have hcA := hc.below hB hc.lt
  have c0 := hcA.cell (i := 0) rfl
  have hDl : D.length = 32 := by rw [← hD]; exact hdE_len l
  have HA : Hid (Below w.heap.size w A ∧ Blk A r 35 Z ∧ w.heap.size ≤ r ∧ Z = zb 32 ∧ KT A ∧ ST A ∧ Ch A c l ∧ D.length = 32) := ⟨hB, hZA, by omega, HZ.out, hk.below hB, hs.below hB, HCh.out.below hB, hDl⟩
  clear hB hZA hcA hc HZ hk hs HCh hDl
  cases hl : l.length with
  | zero =>
    obtain rfl := List.eq_nil_of_length_eq_zero hl
    have HBL : Hid (Tryd.prog.built 35 [] = some (U D).toArray) := by show _ = _; rw [← hD]; exact built35.trans (congrArg (fun z : List Value => some z.toArray) (zb_is 32))
    clear hok hle hcap hr hn hl hD
    go_enter Tryd.func37, Tryd.ntmps37
    go_wp2_with (with_reducible change wpList _ _ _ ({ dst := some 9, op := _, type := _, pos := _, after := _, guard := _ } :: _) _ _; refine Hid.out ?_)
    show wpList _ _ _ _ _ _
    refine wpList_built rfl 35 _ rfl (U D).toArray (by rw [← HBL.out]; simp) ?_
    go_wp2_with (with_reducible change wpList _ _ _ ({ dst := none, op := Op.store 35 _ _, type := _, pos := _, after := _, guard := _ } :: _) _ _; refine Hid.out ?_)
    show wpList _ _ _ _ _ _
    refine wpList_store_blk rfl 35 (.tmp 2) (.tmp 9) rfl r 0 35 Z (U D) rfl rfl HA.out.2.1 (by rw [HA.out.2.2.2.1, U_length, HA.out.2.2.2.2.2.2.2, zb_length]; exact Nat.le_refl _) (by rw [U_length, HA.out.2.2.2.2.2.2.2]; exact size35) (U_one _) ?_
    intro W1 hx hg
    have H1 : Hid (Blk W1 r 35 (U D) ∧ Below w.heap.size w W1) := ⟨blk_all hx.out (by rw [HA.out.2.2.2.1, U_length, HA.out.2.2.2.2.2.2.2, zb_length]), below_gr HA.out.1 hg.out HA.out.2.2.1⟩
    clear hx hg hA hr0
    go_wp2
    exact ret_c rfl rfl rfl H1.out.1 Tryd.underlying35 rfl (by rw [U_length, HA.out.2.2.2.2.2.2.2]; exact size35) ⟨rfl, H1.out.2⟩
  | succ k =>
    have hne : l ≠ [] := by intro e; rw [e] at hl; cases hl
    have HX : Hid ((lastE l).ok ∧ (lastE l).sz ∧ dgE (lastE l) = D) := ⟨hok _ (last_mem hne), hsz _ (last_mem hne), by rw [← hD]; unfold hdE; rw [if_neg hne]⟩
    have qk : (k : Int) ≤ 1000000 := by omega
    rw [hl] at c0
    clear hok hle hcap hr hn hl hsz hne hD
    go_enter Tryd.func37, Tryd.ntmps37
    go_wp2_with fail
    refine (end_is HA.out.2.2.2.2.2.2.1).mono ?_
    rintro e W1 ⟨rfl, hb⟩
    have H1 : Hid (Below w.heap.size w W1 ∧ Blk W1 r 35 Z ∧ KT W1 ∧ ST W1) := ⟨below_tr HA.out.1 hb, HA.out.2.1.below hb HA.out.2.1.lt, HA.out.2.2.2.2.1.below hb, HA.out.2.2.2.2.2.1.below hb⟩
    obtain ⟨x, hx⟩ : ∃ x, lastE l = x := ⟨_, rfl⟩
    rw [hx] at HX ⊢
    clear hb hA hr0 hx c0
    go_wp2_with fail
    refine (digest_is x HX.out.1 HX.out.2.1 D HX.out.2.2 W1 H1.out.2.2.1 H1.out.2.2.2).mono ?_
    rintro e W2 ⟨rfl, hb⟩
    have H2 : Hid (Below w.heap.size w W2 ∧ Blk W2 r 35 Z) := ⟨below_tr H1.out.1 hb, H1.out.2.1.below hb H1.out.2.1.lt⟩
    clear hb
    go_wp2_with (with_reducible change wpList _ _ _ ({ dst := none, op := Op.store 35 _ _, type := _, pos := _, after := _, guard := _ } :: _) _ _; refine Hid.out ?_)
    show wpList _ _ _ _ _ _
    refine wpList_store_blk rfl 35 (.tmp 2) (.tmp 12) rfl r 0 35 Z (U D) rfl rfl H2.out.2 (by rw [HA.out.2.2.2.1, U_length, HA.out.2.2.2.2.2.2.2, zb_length]; exact Nat.le_refl _) (by rw [U_length, HA.out.2.2.2.2.2.2.2]; exact size35) (U_one _) ?_
    intro W3 hx hg
    have H3 : Hid (Blk W3 r 35 (U D) ∧ Below w.heap.size w W3) := ⟨blk_all hx.out (by rw [HA.out.2.2.2.1, U_length, HA.out.2.2.2.2.2.2.2, zb_length]), below_gr H2.out.1 hg.out HA.out.2.2.1⟩
    clear hx hg
    go_wp2
    exact ret_c rfl rfl rfl H3.out.1 Tryd.underlying35 rfl (by rw [U_length, HA.out.2.2.2.2.2.2.2]; exact size35) ⟨rfl, H3.out.2⟩
#print axioms head_is
end Go.Proofs.YtmmpafaegmejlaaDoor.Oct
