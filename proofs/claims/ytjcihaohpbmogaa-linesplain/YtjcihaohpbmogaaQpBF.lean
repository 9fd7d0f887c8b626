/-
  Layer 11 (lines): sheet: a graph by numbers.
-/
import Derived.Test.YtjcihaohpbmogaaQpAI
/- Layer 11 (lines): sheet: a graph by numbers. -/
namespace Go.Proofs.Ytjcihaohpbmogaa.Oct
open Go.RowKit
set_option maxRecDepth 100000
set_option linter.unusedSimpArgs false
set_option linter.unusedVariables false
set_option linter.unusedSectionVars false

def shc (a b c : Value) : List Value := [a, b, c]
theorem zero80 (W : World) : (zeroValue 80).run Try.prog W = .ok (.agg (shc (.slice none 0 0) (.slice none 0 0) (.slice none 0 0)).toArray) W := by kernel_rfl
theorem info80 (a b c : Value) : (Try.prog.info? 80).map (·.size) = some (shc a b c).length := by show _ = some 3; kernel_rfl
theorem built80 (a : Option Addr) (n c : Nat) : Try.prog.built 80 [(0, .slice a n c)] = some (shc (.slice a n c) (.slice none 0 0) (.slice none 0 0)).toArray := by kernel_rfl
/-- a slice of numbers that can be read -/
def IsV (w : World) (v : Value) (ns : List Nat) : Prop := ∃ a c, v = .slice a ns.length c ∧ CR w 3 a ns.length (ivs ns)
theorem IsV.below {w w' : World} {v : Value} {ns : List Nat} (h : IsV w v ns) (hb : Below w.heap.size w w') : IsV w' v ns := by
  obtain ⟨a, c, h1, h2⟩ := h
  exact ⟨a, c, h1, h2.below hb⟩
theorem IsV.grown {w w' : World} {v : Value} {ns : List Nat} {row : Option Nat} (h : IsV w v ns) (hg : w.grownBy w' row) (hne : ∀ g C f, row = some g → w.heap[g]? ≠ some (.cells C 3 f)) : IsV w' v ns := by
  obtain ⟨a, c, h1, h2⟩ := h
  exact ⟨a, c, h1, h2.grown hg hne⟩
/-- the lines' blocks, by number -/
def Gm.ptrs (G : Gm) (vs : List Vx) : List Value := vs.map fun v => ptrOf (G.get v)
/-- all numbers' slices -/
def Frs (w : World) (G : Gm) (vs : List Vx) (n : Nat) (Fs : List Value) : Prop := Fs.length = n ∧ ∀ (j : Nat) (v : Vx) (f : Value), vs[j]? = some v → Fs[j]? = some f → IsV w f (fln vs (G.frs v))
/-- a sheet -/
def ShR (w : World) (G : Gm) (va la fa : Option Addr) (n : Nat) (vs : List Vx) : Prop :=
  VsR w va n vs ∧ G.rise vs ∧ CR w 71 la n (G.ptrs vs) ∧ ∃ Fs, CR w 82 fa n Fs ∧ Frs w G vs n Fs
theorem ShR.below {w w' : World} {G : Gm} {va la fa : Option Addr} {n : Nat} {vs : List Vx} (h : ShR w G va la fa n vs) (hb : Below w.heap.size w w') : ShR w' G va la fa n vs := by
  obtain ⟨h1, h2, h3, Fs, h4, h5, h6⟩ := h
  exact ⟨h1.below hb, h2, h3.below hb, Fs, h4.below hb, h5, fun j v f hv hf => (h6 j v f hv hf).below hb⟩
set_option maxRecDepth 100000 in
set_option maxHeartbeats 4000000 in
theorem sh11 {Q : Exit → Act → World → Prop} {x1 x2 x3 x4 x5 x6 x7 x9 x10 x11 x12 x13 x14 x15 x16 x17 x18 x19 x20 x21 x22 x23 x24 x25 x26 x27 x28 x29 x30 x31 x32 x33 x34 x35 x36 x37 x38 x39 x40 x41 x42 x43 x44 x45 x46 x47 x48 x49 x50 x51 x52 x53 x54 x55 x56 x57 x58 x59 x60 x61 x62 x63 x64 x65 x66 x67 x68 x69 x70 x71 x72 x73 x74 x75 x76 x77 x78 x79 x80 x81 : Value} {ds : List Deferred} {A : World} {d p m : Nat} {y : Vx} {q : Value}
    (HL : Hid (d < A.heap.size)) (HP : Hid (p < A.heap.size)) (HR : Hid (A.rangeAt d 0 y.cells)) (HV : Hid y.ok) (c0 : A.cell? ⟨p, 0, none⟩ = some (.map (some m))) (HK : Hid (∀ V, Below A.heap.size A V → (Instr.lookup 65 (.map (some m)) (.agg y.cells.toArray) false).run Try.prog V = .ok q V))
    (hQ : ∀ V1, Below A.heap.size A V1 → Q .normal { tmps := #[.pointer (some ⟨p, 0, none⟩), x1, x2, x3, x4, x5, x6, x7, .pointer (some ⟨d, 0, none⟩), q, x10, x11, x12, x13, x14, x15, x16, x17, x18, x19, x20, x21, x22, x23, x24, x25, x26, x27, x28, x29, x30, x31, x32, x33, x34, x35, x36, x37, x38, x39, x40, .pointer (some ⟨p, 0, none⟩), .pointer (some ⟨p, 0, none⟩), .pointer (some ⟨p, 0, none⟩), .map (some m), .agg y.cells.toArray, q, x47, x48, x49, x50, x51, x52, x53, x54, x55, x56, x57, x58, x59, x60, x61, x62, x63, x64, x65, x66, x67, x68, x69, x70, x71, x72, x73, x74, x75, x76, x77, x78, x79, x80, x81], defers := ds } V1) :
    (Code.region 11 #[{ dst := some 41, op := Op.move (Operand.tmp 0), type := 25, pos := "tell.go:26", after := #[], guard := none }, { dst := some 42, op := Op.nilCheck (Operand.tmp 41), type := 0, pos := "tell.go:26", after := #[{ on := 0, ground := Ground.data }], guard := none }, { dst := some 43, op := Op.fieldAddr 67 (Operand.tmp 42) 0, type := 0, pos := "tell.go:26", after := #[{ on := 1, ground := Ground.data }], guard := none }, { dst := some 44, op := Op.load 65 (Operand.tmp 43), type := 65, pos := "tell.go:26", after := #[{ on := 2, ground := Ground.data }], guard := none }, { dst := some 45, op := Op.load 34 (Operand.tmp 8), type := 34, pos := "tell.go:26", after := #[], guard := none }, { dst := some 46, op := Op.lookup 65 (Operand.tmp 44) (Operand.tmp 45) false, type := 71, pos := "tell.go:26", after := #[{ on := 3, ground := Ground.data }, { on := 4, ground := Ground.data }], guard := none }, { dst := some 9, op := Op.assign (Operand.tmp 46), type := 71, pos := "tell.go:26", after := #[{ on := 5, ground := Ground.data }, { on := 0, ground := Ground.phase }, { on := 1, ground := Ground.phase }, { on := 2, ground := Ground.phase }, { on := 3, ground := Ground.phase }, { on := 4, ground := Ground.phase }, { on := 5, ground := Ground.phase }], guard := none }] true).wp Try.prog Q { tmps := #[.pointer (some ⟨p, 0, none⟩), x1, x2, x3, x4, x5, x6, x7, .pointer (some ⟨d, 0, none⟩), x9, x10, x11, x12, x13, x14, x15, x16, x17, x18, x19, x20, x21, x22, x23, x24, x25, x26, x27, x28, x29, x30, x31, x32, x33, x34, x35, x36, x37, x38, x39, x40, x41, x42, x43, x44, x45, x46, x47, x48, x49, x50, x51, x52, x53, x54, x55, x56, x57, x58, x59, x60, x61, x62, x63, x64, x65, x66, x67, x68, x69, x70, x71, x72, x73, x74, x75, x76, x77, x78, x79, x80, x81], defers := ds } A := by
  refine Code.wp_mono (Q := fun x a' w' => match x with | .normal => Q .normal a' w' | _ => False) (by intro x a' w' h; cases x <;> first | exact h | exact h.elim) ?_
  refine wp_region_held (S := fun V => Below A.heap.size A V) (by kernel_rfl) ?_
  have hS0 : Hid (Below A.heap.size A A.drew) := below_drew0 A
  change wpAnyH Try.prog .any _ _ (fun V => Below A.heap.size A V) 7 (Array.replicate 7 false) _ A.drew
  obtain ⟨V0, hV0⟩ : ∃ V0, A.drew = V0 := ⟨_, rfl⟩
  rw [hV0]
  rw [hV0] at hS0
  clear hV0
  refine wpAnyH_take (i := 0) (oi := { dst := some 41, op := Op.move (Operand.tmp 0), type := 25, pos := "tell.go:26", after := #[], guard := none }) (v := .pointer (some ⟨p, 0, none⟩)) rfl (by kernel_rfl) (by kernel_rfl) (by kernel_rfl) (fun _ _ _ h => h.elim) (Or.inl ⟨by rfl, ?y1⟩) hS0.out ?_
  case y1 =>
    intro V hV
    go_simp
  simp only [Act.put, List.setIfInBounds_toArray, List.set_cons_zero, List.set_cons_succ]
  refine wpAnyH_take (i := 1) (oi := { dst := some 42, op := Op.nilCheck (Operand.tmp 41), type := 0, pos := "tell.go:26", after := #[{ on := 0, ground := Ground.data }], guard := none }) (v := .pointer (some ⟨p, 0, none⟩)) rfl (by kernel_rfl) (by kernel_rfl) (by kernel_rfl) (fun _ _ _ h => h.elim) (Or.inl ⟨by rfl, ?y2⟩) hS0.out ?_
  case y2 =>
    intro V hV
    go_simp
  simp only [Act.put, List.setIfInBounds_toArray, List.set_cons_zero, List.set_cons_succ]
  refine wpAnyH_take (i := 2) (oi := { dst := some 43, op := Op.fieldAddr 67 (Operand.tmp 42) 0, type := 0, pos := "tell.go:26", after := #[{ on := 1, ground := Ground.data }], guard := none }) (v := .pointer (some ⟨p, 0, none⟩)) rfl (by kernel_rfl) (by kernel_rfl) (by kernel_rfl) (fun _ _ _ h => h.elim) (Or.inl ⟨by rfl, ?y3⟩) hS0.out ?_
  case y3 =>
    intro V hV
    go_simp
  simp only [Act.put, List.setIfInBounds_toArray, List.set_cons_zero, List.set_cons_succ]
  refine wpAnyH_take (i := 3) (oi := { dst := some 44, op := Op.load 65 (Operand.tmp 43), type := 65, pos := "tell.go:26", after := #[{ on := 2, ground := Ground.data }], guard := none }) (v := .map (some m)) rfl (by kernel_rfl) (by kernel_rfl) (by kernel_rfl) (fun _ _ _ h => h.elim) (Or.inl ⟨by rfl, ?y4⟩) hS0.out ?_
  case y4 =>
    intro V hV
    have hc : V.cell? ⟨p, 0, none⟩ = some (.map (some m)) := (hV.cell (p := ⟨p, 0, none⟩) HP.out).trans c0
    go_simp
  simp only [Act.put, List.setIfInBounds_toArray, List.set_cons_zero, List.set_cons_succ]
  refine wpAnyH_take (i := 4) (oi := { dst := some 45, op := Op.load 34 (Operand.tmp 8), type := 34, pos := "tell.go:26", after := #[], guard := none }) (v := .agg y.cells.toArray) rfl (by kernel_rfl) (by kernel_rfl) (by kernel_rfl) (fun _ _ _ h => h.elim) (yieldsIf_load_mid (by rfl) _ _ rfl _ _ rfl (y.cells) _ (fun V hV => rangeAt_same (HR.out) ((show Below A.heap.size A V from hV).block _ (HL.out))) Try.underlying34 rfl (info34 HV.out)) hS0.out ?_
  simp only [Act.put, List.setIfInBounds_toArray, List.set_cons_zero, List.set_cons_succ]
  refine wpAnyH_take (i := 5) (oi := { dst := some 46, op := Op.lookup 65 (Operand.tmp 44) (Operand.tmp 45) false, type := 71, pos := "tell.go:26", after := #[{ on := 3, ground := Ground.data }, { on := 4, ground := Ground.data }], guard := none }) (v := q) rfl (by kernel_rfl) (by kernel_rfl) (by kernel_rfl) (fun _ _ _ h => h.elim) (Or.inl ⟨by rfl, ?y5⟩) hS0.out ?_
  case y5 =>
    intro V hV
    exact yl_lookup V 65 _ _ false _ _ _ rfl rfl rfl (HK.out V hV)
  simp only [Act.put, List.setIfInBounds_toArray, List.set_cons_zero, List.set_cons_succ]
  refine wpAnyH_take (i := 6) (oi := { dst := some 9, op := Op.assign (Operand.tmp 46), type := 71, pos := "tell.go:26", after := #[{ on := 5, ground := Ground.data }, { on := 0, ground := Ground.phase }, { on := 1, ground := Ground.phase }, { on := 2, ground := Ground.phase }, { on := 3, ground := Ground.phase }, { on := 4, ground := Ground.phase }, { on := 5, ground := Ground.phase }], guard := none }) (v := q) rfl (by kernel_rfl) (by kernel_rfl) (by kernel_rfl) (fun _ _ _ h => h.elim) (Or.inl ⟨by rfl, ?y6⟩) hS0.out ?_
  case y6 =>
    intro V hV
    go_simp
  simp only [Act.put, List.setIfInBounds_toArray, List.set_cons_zero, List.set_cons_succ]
  refine wpAnyH_done (by kernel_rfl) ?_ _
  exact hQ V0 hS0.out
theorem wpList_stc {ops : Array Oper} {rest : List Oper} {op : Oper} {a : Act} {w : World} {Q : Exit → Act → World → Prop} (hg : op.guard = none) (ty : TypeId) (x y : Operand) (ho : op.op = .store ty x y) (hi : (Try.prog.info? ty).map (·.size) = some 1)
    {b i : Nat} {t : TypeId} {L : List Value} {v u : Value} (h1 : v.oneCell' = true) (hvc : v.cells = #[v]) (hx : a.eval x = .pointer (some ⟨b, i, none⟩)) (hy : a.eval y = v) (hb : Blk w b t L) (hc : L[i]? = some u)
    (h : ∀ w', Blk w' b t (L.set i v) → w.grownBy w' (some b) → wpList Try.prog ops Q rest (a.put op.dst undef) w') : wpList Try.prog ops Q (op :: rest) a w := by
  refine wpList_plain hg fun K' hK' => ?_
  obtain ⟨t, hi, hs⟩ := Option.map_eq_some_iff.1 hi
  have h2 : (store ((⟨b, i, none⟩ : Addr).add 0) v).run Try.prog w = .ok () (w.setCell ⟨b, i, none⟩ v) := store_fn h1 (hb.cell hc) (hb.free i)
  have h3 : (storeVar ty ⟨b, i, none⟩ v).run Try.prog w = .ok () (w.setCell ⟨b, i, none⟩ v) := by simp [storeVar, sizeOf, typeInfo, hi, hs, hvc, storeCells, h2]
  unfold Oper.wp execOp
  simp only [ho, hx, hy, Instr.storeAt, Instr.sureAddr, Sem.run_bind, Sem.run_pure, Result.andThen_ok, h3]
  exact hK' _ _ (h _ (hb.set i v) (grown_setCell w b i v))
theorem shc_one {a b c : Value} (ha : a.oneCell' = true) (hb : b.oneCell' = true) (hc : c.oneCell' = true) : ∀ v ∈ shc a b c, v.oneCell' = true := by
  intro v hv
  unfold shc at hv
  simp only [List.mem_cons, List.not_mem_nil, or_false] at hv
  rcases hv with rfl | rfl | rfl <;> assumption
def addrOf : Value → Option Addr
  | .slice a _ _ => a
  | _ => none
def capOf : Value → Nat
  | .slice _ _ c => c
  | _ => 0
theorem OC.slice {B n : Nat} {w : World} {t : TypeId} {v : Value} {cs : List Value} (h : OC B w t v n cs) : v.oneCell' = true ∧ v.cells = #[v] := by
  obtain ⟨a, c, rfl, _⟩ := h.read
  exact ⟨rfl, rfl⟩
set_option maxHeartbeats 8000000 in
theorem sheet_is {w : World} {p : Nat} {G : Gm} (h : GAt w p G) : Calls Try.prog 41 #[.pointer (some ⟨p, 0, none⟩)] w fun e w' => ∃ va vc la lc fa fc n vs, e = .returned (.agg (shc (.slice va n vc) (.slice la n lc) (.slice fa n fc)).toArray) ∧ Hid (ShR w' G va la fa n vs ∧ GAt w' p G) ∧ Hid (Below w.heap.size w w') := by
  have HG : Hid (GAt w p G) := h
  have hz := zero80
  obtain ⟨Z, hZ, HZ⟩ := zval34
  clear h
  go_enter Try.func41, Try.ntmps41
  go_wp2_with fail
  obtain ⟨d2, hd2⟩ : ∃ d, w.heap.size = d := ⟨_, rfl⟩
  obtain ⟨W1, hW1⟩ : ∃ W, w.alloc (.cells (shc (.slice none 0 0) (.slice none 0 0) (.slice none 0 0)).toArray 80) = W := ⟨_, rfl⟩
  have S1 : Hid (Below w.heap.size w W1 ∧ Blk W1 d2 80 (shc (.slice none 0 0) (.slice none 0 0) (.slice none 0 0)) ∧ w.heap.size ≤ d2) := by
    refine ⟨by rw [← hW1]; exact below_al _ _, by rw [← hW1, ← hd2]; exact Blk.new w _ _, Nat.le_of_eq hd2⟩
  rw [hW1, hd2]
  clear hW1 hd2
  refine (rising_is (HG.out.below S1.out.1)).mono ?_
  rintro e W2 ⟨a0, n, c0, vs, rfl, HV, HB⟩
  have S2 : Hid (Below w.heap.size w W2 ∧ Blk W2 d2 80 (shc (.slice none 0 0) (.slice none 0 0) (.slice none 0 0)) ∧ w.heap.size ≤ d2 ∧ GAt W2 p G ∧ VsR W2 a0 n vs ∧ G.rise vs ∧ n ≤ 512 ∧ vs.Nodup) := by
    have hb := below_tr S1.out.1 HB.out
    refine ⟨hb, S1.out.2.1.below HB.out S1.out.2.1.lt, S1.out.2.2, HG.out.below hb, HV.out.1, HV.out.2, ?_, HV.out.2.1.nodup_iff.2 HG.out.nodup⟩
    have h1 := HV.out.2.1.length_eq
    have h2 := HV.out.1.1
    have h3 := HG.out.few
    simp [Gm.keys] at h1
    omega
  have q0 : (n : Int) ≤ 512 := by have := S2.out.2.2.2.2.2.2.1; omega
  clear HV HB S1
  go_wp2_with (first
    | (with_reducible change wpList _ _ _ ({ dst := some 17, op := _, type := _, pos := _, after := _, guard := _ } :: _) _ _
       refine wpList_built rfl 80 _ rfl (shc (.slice a0 n c0) (.slice none 0 0) (.slice none 0 0)).toArray (by rw [← built80 a0 n c0]; first | (simp; done) | (simp; rfl)) ?_)
    | (with_reducible change wpList _ _ _ ({ dst := none, op := Op.store 80 _ _, type := _, pos := _, after := _, guard := _ } :: _) _ _
       refine Hid.out ?_)
    | fail)
  show wpList _ _ _ _ _ _
  refine wpList_store_fresh rfl 80 (.tmp 3) (.tmp 17) rfl (shc (.slice none 0 0) (.slice none 0 0) (.slice none 0 0)) (shc (.slice a0 n c0) (.slice none 0 0) (.slice none 0 0)) 80 rfl rfl rfl (info80 _ _ _) (shc_one rfl rfl rfl) ?_
  obtain ⟨W3, hW3⟩ : ∃ W, W2.alloc (.cells (shc (.slice a0 n c0) (.slice none 0 0) (.slice none 0 0)).toArray 80) = W := ⟨_, rfl⟩
  obtain ⟨d3, hd3⟩ : ∃ g, W2.heap.size = g := ⟨_, rfl⟩
  have S3 : Hid (Below W2.heap.size W2 W3 ∧ Blk W3 d3 80 (shc (.slice a0 n c0) (.slice none 0 0) (.slice none 0 0)) ∧ W2.heap.size = d3) := ⟨by rw [← hW3]; exact below_al _ _, by rw [← hW3, ← hd3]; exact Blk.new W2 _ _, hd3⟩
  rw [hW3, hd3]
  clear hW3 hd3 hz
  have c30 : W3.cell? ⟨d3, 0, none⟩ = some (.slice a0 n c0) := S3.out.2.1.cell rfl
  go_wp2_with (with_reducible change wpList _ _ _ ({ dst := some 21, op := _, type := _, pos := _, after := _, guard := _ } :: _) _ _; refine Hid.out ?_)
  show wpList _ _ _ _ _ _
  obtain ⟨W4, hW4⟩ : ∃ W, W3.alloc (.map #[] 0) = W := ⟨_, rfl⟩
  obtain ⟨m, hm⟩ : ∃ g, W3.heap.size = g := ⟨_, rfl⟩
  have S4 : Hid (Below W2.heap.size W2 W4 ∧ Blk W4 d3 80 (shc (.slice a0 n c0) (.slice none 0 0) (.slice none 0 0)) ∧ W2.heap.size = d3 ∧ MP W4 m ([] : Kv Vx) ∧ d3 < m) := by
    have hbl : Below W3.heap.size W3 W4 := by rw [← hW4]; exact below_al _ _
    exact ⟨below_tr S3.out.1 hbl, S3.out.2.1.below hbl S3.out.2.1.lt, S3.out.2.2, by rw [← hW4, ← hm]; exact MP.made W3, by rw [← hm]; exact S3.out.2.1.lt⟩
  have c40 : W4.cell? ⟨d3, 0, none⟩ = some (.slice a0 n c0) := S4.out.2.1.cell rfl
  refine wpList_makeMapN rfl 117 (.tmp 20) rfl Try.underlying117 n rfl ?_
  rw [hW4, hm]
  clear hW4 hm c30 S3
  go_wp2
  clear c40
  go_loopw [25] (fun u wr => ∃ i : Nat, u = iv (i : Int) ∧ Hid (i ≤ n ∧ Below W2.heap.size W2 wr ∧ Blk wr d3 80 (shc (.slice a0 n c0) (.slice none 0 0) (.slice none 0 0)) ∧ MP wr m (numKv (vs.take i)))) (fun u _ => n - (intOf u).toNat)
  case atStart => exact ⟨0, rfl, Nat.zero_le _, S4.out.1, S4.out.2.1, S4.out.2.2.2.1⟩
  case round =>
    obtain ⟨U, hU⟩ : ∃ U, U = wr := ⟨_, rfl⟩
    subst hU
    obtain ⟨i, rfl, HI⟩ := hrel
    by_cases hi : i < n
    · obtain ⟨y, hy⟩ : ∃ y, vs[i]? = some y := ⟨_, List.getElem?_eq_getElem (by rw [S2.out.2.2.2.2.1.1]; exact hi)⟩
      have HY : Hid (i < n ∧ vs[i]? = some y ∧ y.ok ∧ Vk y) := ⟨hi, hy, (S2.out.2.2.2.2.1.2.1 y (List.mem_of_getElem? hy)).1, S2.out.2.2.2.2.1.2.1 y (List.mem_of_getElem? hy)⟩
      obtain ⟨gb, off, rfl, hg, hel⟩ := S2.out.2.2.2.2.1.2.2 (by omega)
      have HR : Hid (U.rangeAt gb (off + i * 33) y.cells) := rangeAt_same (hel i y hy) (HI.out.2.1.block gb hg)
      have q1 : (i : Int) < (n : Int) := by omega
      clear hel hy hi hg
      go_wp2_with (first
        | (with_reducible change wpList _ _ _ ({ dst := some 29, op := _, type := _, pos := _, after := _, guard := _ } :: _) _ _
           refine wpList_load_want rfl 34 (.tmp 28) rfl gb (off + i * 33) rfl y.cells _ HR.out Try.underlying34 rfl (info34 HY.out.2.2.1) ?_)
        | (with_reducible change wpList _ _ _ ({ dst := none, op := Op.store 34 _ _, type := _, pos := _, after := _, guard := _ } :: _) _ _
           refine Hid.out ?_)
        | fail)
      show wpList _ _ _ _ _ _
      refine wpList_store_fresh rfl 34 (.tmp 6) (.tmp 29) rfl Z y.cells 34 rfl rfl (by rw [Vx.len HY.out.2.2.1, HZ.out]) (info34 HY.out.2.2.1) (Vx.one y) ?_
      obtain ⟨U2, hU2⟩ : ∃ W, U.alloc (.cells y.cells.toArray 34) = W := ⟨_, rfl⟩
      obtain ⟨d6, hd6⟩ : ∃ g, U.heap.size = g := ⟨_, rfl⟩
      have hbld6 : Below U.heap.size U U2 := by rw [← hU2]; exact below_al _ _
      have hkd6 : Blk U2 d6 34 y.cells := by rw [← hU2, ← hd6]; exact Blk.new _ _ _
      rw [hU2, hd6]
      clear hU2 hd6
      have S5 : Hid (Below W2.heap.size W2 U2 ∧ Blk U2 d3 80 (shc (.slice (some ⟨gb, off, none⟩) n c0) (.slice none 0 0) (.slice none 0 0)) ∧ MP U2 m (numKv (vs.take i)) ∧ Blk U2 d6 34 y.cells) := ⟨HI.out.2.1.trans (hbld6.mono HI.out.2.1.size), HI.out.2.2.1.below hbld6 HI.out.2.2.1.lt, HI.out.2.2.2.same (hbld6.block m HI.out.2.2.2.lt), hkd6⟩
      clear hbld6 hkd6 HR
      go_wp2_with (first
        | (with_reducible change wpList _ _ _ ({ dst := some 31, op := _, type := _, pos := _, after := _, guard := _ } :: _) _ _
           refine wpList_load_want rfl 34 (.tmp 6) rfl d6 0 rfl y.cells _ S5.out.2.2.2.range0 Try.underlying34 rfl (info34 HY.out.2.2.1) ?_)
        | (with_reducible change wpList _ _ _ ({ dst := none, op := Op.mapUpdate 117 _ _ _, type := _, pos := _, after := _, guard := _ } :: _) _ _
           refine Hid.out ?_)
        | fail)
      show wpList _ _ _ _ _ _
      refine wpList_mapUp rfl 117 (.tmp 30) (.tmp 31) (.tmp 32) (.inl rfl) _ _ _ rfl rfl rfl (fun w' => MP w' m (numKv (vs.take (i + 1))) ∧ U2.grownBy w' (some m)) (by
        obtain ⟨w', r1, r2, r3, r4⟩ := S5.out.2.2.1.put (t := 117) (E := 3) (h := y) Try.underlying117 HY.out.2.2.2 (iv (i : Int))
        exact ⟨w', r1, by rw [← numKv_take S2.out.2.2.2.2.2.2.2 HY.out.2.1]; exact r2, r3⟩) ?_
      intro U3 ⟨r1, r2⟩
      have S6 : Hid (Below W2.heap.size W2 U3 ∧ Blk U3 d3 80 (shc (.slice (some ⟨gb, off, none⟩) n c0) (.slice none 0 0) (.slice none 0 0)) ∧ MP U3 m (numKv (vs.take (i + 1)))) := by
        refine ⟨S5.out.1.grown r2 S5.out.1.size (fun k hk => by cases hk; have := S4.out.2.2; omega), ?_, r1⟩
        exact (r2.block d3 S5.out.2.1.lt (fun e => by cases e; have := S4.out.2.2; omega)).trans S5.out.2.1
      clear r1 r2 S5
      go_wp2
      refine ⟨⟨i + 1, by simp, ⟨HY.out.1, S6.out⟩⟩, ?_⟩
      have := HY.out.1; simp [intOf]; omega
    · have q1 : ¬ (i : Int) < (n : Int) := by omega
      have HN : Hid (Below W2.heap.size W2 U ∧ Blk U d3 80 (shc (.slice a0 n c0) (.slice none 0 0) (.slice none 0 0)) ∧ MP U m (numKv vs)) := by
        have h0 := HI.out.2.2.2
        rw [List.take_of_length_le (by rw [S2.out.2.2.2.2.1.1]; omega)] at h0
        exact ⟨HI.out.2.1, HI.out.2.2.1, h0⟩
      clear HI hi
      have c50 : U.cell? ⟨d3, 0, none⟩ = some (.slice a0 n c0) := HN.out.2.1.cell rfl
      go_wp2
      clear c50
      go_loopw [37] (fun u wr => ∃ (i : Nat) (L F : Value) (Fs : List Value), u = iv (i : Int) ∧ Hid (i ≤ n) ∧ Hid (Below W2.heap.size W2 wr ∧ Blk wr d3 80 (shc (.slice a0 n c0) L F) ∧ MP wr m (numKv vs) ∧ OC (m + 1) wr 71 L i (G.ptrs (vs.take i)) ∧ OC (m + 1) wr 82 F i Fs ∧ (∀ (j : Nat) (v : Vx) (f : Value), j < i → vs[j]? = some v → Fs[j]? = some f → IsV wr f (fln vs (G.frs v))))) (fun u _ => n - (intOf u).toNat)
      case atStart => exact ⟨0, .slice none 0 0, .slice none 0 0, [], rfl, Nat.zero_le _, HN.out.1, HN.out.2.1, HN.out.2.2, OC.nil _ _ _, OC.nil _ _ _, fun j v f hj => absurd hj (Nat.not_lt_zero _)⟩
      case round =>
        obtain ⟨U1, hU1⟩ : ∃ U1, U1 = wr := ⟨_, rfl⟩
        subst hU1
        clear HN
        obtain ⟨i, L, F, Fs, rfl, HIN, HI⟩ := hrel
        by_cases hi : i < n
        · obtain ⟨y, hy⟩ : ∃ y, vs[i]? = some y := ⟨_, List.getElem?_eq_getElem (by rw [S2.out.2.2.2.2.1.1]; exact hi)⟩
          have HY : Hid (i < n ∧ vs[i]? = some y ∧ y.ok ∧ Vk y) := ⟨hi, hy, (S2.out.2.2.2.2.1.2.1 y (List.mem_of_getElem? hy)).1, S2.out.2.2.2.2.1.2.1 y (List.mem_of_getElem? hy)⟩
          obtain ⟨gb, off, rfl, hg, hel⟩ := S2.out.2.2.2.2.1.2.2 (by omega)
          have HR : Hid (U1.rangeAt gb (off + i * 33) y.cells) := rangeAt_same (hel i y hy) (HI.out.1.block gb hg)
          have q1 : (i : Int) < (n : Int) := by omega
          clear hel hy hi hg
          go_wp2_with (first
            | (with_reducible change wpList _ _ _ ({ dst := some 40, op := _, type := _, pos := _, after := _, guard := _ } :: _) _ _
               refine wpList_load_want rfl 34 (.tmp 39) rfl gb (off + i * 33) rfl y.cells _ HR.out Try.underlying34 rfl (info34 HY.out.2.2.1) ?_)
            | (with_reducible change wpList _ _ _ ({ dst := none, op := Op.store 34 _ _, type := _, pos := _, after := _, guard := _ } :: _) _ _
               refine Hid.out ?_)
            | fail)
          show wpList _ _ _ _ _ _
          refine wpList_store_fresh rfl 34 (.tmp 8) (.tmp 40) rfl Z y.cells 34 rfl rfl (by rw [Vx.len HY.out.2.2.1, HZ.out]) (info34 HY.out.2.2.1) (Vx.one y) ?_
          obtain ⟨U2, hU2⟩ : ∃ W, U1.alloc (.cells y.cells.toArray 34) = W := ⟨_, rfl⟩
          obtain ⟨d8, hd8⟩ : ∃ g, U1.heap.size = g := ⟨_, rfl⟩
          have hbld8 : Below U1.heap.size U1 U2 := by rw [← hU2]; exact below_al _ _
          have hkd8 : Blk U2 d8 34 y.cells := by rw [← hU2, ← hd8]; exact Blk.new _ _ _
          rw [hU2, hd8]
          clear hU2 hd8
          have S5 : Hid (Below W2.heap.size W2 U2 ∧ Blk U2 d3 80 (shc (.slice (some ⟨gb, off, none⟩) n c0) L F) ∧ MP U2 m (numKv vs) ∧ OC (m + 1) U2 71 L i (G.ptrs (vs.take i)) ∧ OC (m + 1) U2 82 F i Fs ∧ (∀ (j : Nat) (v : Vx) (f : Value), j < i → vs[j]? = some v → Fs[j]? = some f → IsV U2 f (fln vs (G.frs v)))) := ⟨HI.out.1.trans (hbld8.mono HI.out.1.size), HI.out.2.1.below hbld8 HI.out.2.1.lt, HI.out.2.2.1.same (hbld8.block m HI.out.2.2.1.lt), HI.out.2.2.2.1.below hbld8, HI.out.2.2.2.2.1.below hbld8, fun j v f hj hv hf => (HI.out.2.2.2.2.2 j v f hj hv hf).below hbld8⟩
          have HD8 : Hid (Blk U2 d8 34 y.cells) := hkd8
          clear hbld8 hkd8 HR HI
          obtain ⟨l, hl, hlv⟩ : ∃ l ∈ G.ls, l.p.v = y := List.mem_map.1 (S2.out.2.2.2.2.2.1.1.mem_iff.1 (List.mem_of_getElem? HY.out.2.1))
          have hgy : G.get y = some l := by rw [← hlv]; exact get_is HG.out hl
          have HLN : Hid (l ∈ G.ls ∧ G.frs y = l.p.fr ∧ LnOk l ∧ G.get y = some l) := ⟨hl, by rw [← hlv]; exact frs_get HG.out hl, HG.out.ok l hl, hgy⟩
          have HGU : Hid (GAt U2 p G) := S2.out.2.2.2.1.below S5.out.1
          have cg0 : U2.cell? ⟨p, 0, none⟩ = some (.map (some G.mb)) := HGU.out.blk.cell rfl
          have HLK : Hid (∀ V2, Below U2.heap.size U2 V2 → (Instr.lookup 65 (.map (some G.mb)) (.agg y.cells.toArray) false).run Try.prog V2 = .ok (.pointer (some ⟨l.blk, 0, none⟩)) V2) := by
            intro V2 hV2
            have h0 := HGU.out.look2 HY.out.2.2.2 V2 (hV2.block _ HGU.out.mp.lt)
            rw [hgy] at h0
            exact h0
          clear hl hlv hgy
          generalize hmb : G.mb = mb at cg0 HLK
          go_wp2_with fail
          refine sh11 HD8.out.lt HGU.out.blk.lt HD8.out.range0 HY.out.2.2.1 cg0 HLK ?_
          intro U3 hb
          have S6 : Hid (Below W2.heap.size W2 U3 ∧ Blk U3 d3 80 (shc (.slice (some ⟨gb, off, none⟩) n c0) L F) ∧ MP U3 m (numKv vs) ∧ OC (m + 1) U3 71 L i (G.ptrs (vs.take i)) ∧ OC (m + 1) U3 82 F i Fs ∧ (∀ (j : Nat) (v : Vx) (f : Value), j < i → vs[j]? = some v → Fs[j]? = some f → IsV U3 f (fln vs (G.frs v)))) := ⟨S5.out.1.trans (hb.mono S5.out.1.size), S5.out.2.1.below hb S5.out.2.1.lt, S5.out.2.2.1.same (hb.block m S5.out.2.2.1.lt), S5.out.2.2.2.1.below hb, S5.out.2.2.2.2.1.below hb, fun j v f hj hv hf => (S5.out.2.2.2.2.2 j v f hj hv hf).below hb⟩
          have c1 : U3.cell? ⟨l.blk, 1, none⟩ = some (.slice (some ⟨l.rb, 0, none⟩) l.p.fr.length l.cap) := ((HGU.out.below hb).ln HLN.out.1).cell rfl
          have HVS : Hid (VsR w (some ⟨l.rb, 0, none⟩) l.p.fr.length l.p.fr ∧ l.p.fr.length ≤ 100000) := ⟨(HG.out.row HLN.out.1).vs HLN.out.2.2.1.fr, HLN.out.2.2.1.len⟩
          have HBW : Hid (Below w.heap.size w U3) := below_tr S2.out.1 S6.out.1
          clear hb cg0 HLK S5 HD8 HGU hmb
          obtain ⟨R, hR⟩ : ∃ R, l.p.fr = R := ⟨_, rfl⟩
          have HRR : Hid (G.frs y = R) := by rw [← hR]; exact HLN.out.2.1
          rw [hR] at c1 HVS
          obtain ⟨lb, hlb⟩ : ∃ b, l.blk = b := ⟨_, rfl⟩
          have HLB : Hid (l.blk = lb) := hlb
          rw [hlb] at c1 ⊢
          generalize l.rb = rb at c1 HVS
          generalize l.cap = lc at c1
          obtain ⟨nn, hnn⟩ : ∃ nn, R.length = nn := ⟨_, rfl⟩
          rw [hnn] at c1 HVS
          have HNN : Hid (R.length = nn) := hnn
          have q4 : (nn : Int) ≤ 100000 := by have := HVS.out.2; omega
          clear hnn hR hlb
          go_wp2
          clear c1
          go_loopw [52, 10] (fun u v wr => ∃ (j : Nat), u = iv (j : Int) ∧ Hid (j ≤ nn ∧ Below U3.heap.size U3 wr ∧ OC U3.heap.size wr 3 v (fln vs (R.take j)).length (ivs (fln vs (R.take j))))) (fun u _ _ => nn - (intOf u).toNat)
          case atStart => exact ⟨0, rfl, Nat.zero_le _, Below.refl _ _, OC.nil _ _ _⟩
          case round =>
            obtain ⟨V, hV⟩ : ∃ V, V = wr := ⟨_, rfl⟩
            subst hV
            obtain ⟨j, rfl, HJ⟩ := hrel
            have HFL : Hid ((fln vs (R.take j)).length ≤ 100000) := by
              have h1 : (fln vs (R.take j)).length ≤ (R.take j).length := List.length_filterMap_le _ _
              have h2 := HNN.out
              have h3 := HVS.out.2
              rw [List.length_take] at h1
              show _ ≤ _
              omega
            by_cases hj : j < nn
            · obtain ⟨x, hx⟩ : ∃ x, R[j]? = some x := ⟨_, List.getElem?_eq_getElem (by rw [HNN.out]; exact hj)⟩
              have HX : Hid (j < nn ∧ R[j]? = some x ∧ x.ok ∧ Vk x) := ⟨hj, hx, (HVS.out.1.2.1 x (List.mem_of_getElem? hx)).1, HVS.out.1.2.1 x (List.mem_of_getElem? hx)⟩
              have HRD : Hid (V.rangeAt rb (j * 33) x.cells) := by
                obtain ⟨go, oo, hoa, hgo, hel⟩ := HVS.out.1.2.2 (by omega)
                cases hoa
                have h0 := rangeAt_same (hel j x hx) ((HBW.out.trans (HJ.out.2.1.mono HBW.out.size)).block rb hgo)
                rwa [Nat.zero_add] at h0
              have q5 : (j : Int) < (nn : Int) := by omega
              clear hj hx
              go_wp2_with (first
                | (with_reducible change wpList _ _ _ ({ dst := some 55, op := _, type := _, pos := _, after := _, guard := _ } :: _) _ _
                   refine wpList_load_want rfl 34 (.tmp 54) rfl rb (j * 33) rfl x.cells _ HRD.out Try.underlying34 rfl (info34 HX.out.2.2.1) ?_)
                | (with_reducible change wpList _ _ _ ({ dst := none, op := Op.store 34 _ _, type := _, pos := _, after := _, guard := _ } :: _) _ _
                   refine Hid.out ?_)
                | fail)
              show wpList _ _ _ _ _ _
              refine wpList_store_fresh rfl 34 (.tmp 12) (.tmp 55) rfl Z x.cells 34 rfl rfl (by rw [Vx.len HX.out.2.2.1, HZ.out]) (info34 HX.out.2.2.1) (Vx.one x) ?_
              obtain ⟨V2, hV2⟩ : ∃ W, V.alloc (.cells x.cells.toArray 34) = W := ⟨_, rfl⟩
              obtain ⟨d12, hd12⟩ : ∃ g, V.heap.size = g := ⟨_, rfl⟩
              have hbld12 : Below V.heap.size V V2 := by rw [← hV2]; exact below_al _ _
              have hkd12 : Blk V2 d12 34 x.cells := by rw [← hV2, ← hd12]; exact Blk.new _ _ _
              rw [hV2, hd12]
              clear hV2 hd12
              have S7 : Hid (Below U3.heap.size U3 V2 ∧ OC U3.heap.size V2 3 u10 (fln vs (R.take j)).length (ivs (fln vs (R.take j))) ∧ Blk V2 d12 34 x.cells) := ⟨HJ.out.2.1.trans (hbld12.mono HJ.out.2.1.size), HJ.out.2.2.below hbld12, hkd12⟩
              clear hbld12 hkd12 HRD
              have HMV : Hid (MP V2 m (numKv vs)) := S6.out.2.2.1.same (S7.out.1.block m S6.out.2.2.1.lt)
              by_cases hxv : x ∈ vs
              · have HXV : Hid (x ∈ vs) := hxv
                have HLK : Hid ((Instr.lookup 117 (.map (some m)) (.agg x.cells.toArray) true).run Try.prog V2 = .ok (.tuple #[iv (vs.idxOf x : Int), .bool true]) V2) := by
                  have h0 := HMV.out.look2 (t := 117) (E := 3) (h := x) Try.underlying117 HX.out.2.2.2 (zero3 V2)
                  rw [kget_num vs x hxv, khas_num, decide_eq_true hxv] at h0
                  exact h0
                obtain ⟨k, hk⟩ : ∃ k, vs.idxOf x = k := ⟨_, rfl⟩
                have HK : Hid (fln vs (R.take (j + 1)) = fln vs (R.take j) ++ [k]) := by
                  show _ = _
                  rw [fln_take vs R j x HX.out.2.1, if_pos hxv, hk]
                rw [hk] at HLK
                clear hxv hk
                go_wp2_with (first
                  | (with_reducible change wpList _ _ _ ({ dst := some 58, op := _, type := _, pos := _, after := _, guard := _ } :: _) _ _
                     refine wpList_load_want rfl 34 (.tmp 12) rfl d12 0 rfl x.cells _ S7.out.2.2.range0 Try.underlying34 rfl (info34 HX.out.2.2.1) ?_)
                  | (with_reducible change wpList _ _ _ ({ dst := some 59, op := _, type := _, pos := _, after := _, guard := _ } :: _) _ _
                     refine wpList_lookup rfl 117 (.tmp 57) (.tmp 58) true rfl _ _ _ rfl rfl HLK.out ?_)
                  | (with_reducible change wpList _ _ _ ({ dst := some 65, op := _, type := _, pos := _, after := _, guard := _ } :: _) _ _
                     refine Hid.out ?_)
                  | fail)
                show wpList _ _ _ _ _ _
                obtain ⟨V3, hV3⟩ : ∃ W, V2.alloc (.cells [iv (k : Int)].toArray 3) = W := ⟨_, rfl⟩
                obtain ⟨z3, hz3⟩ : ∃ g, V2.heap.size = g := ⟨_, rfl⟩
                have S8 : Hid (Below U3.heap.size U3 V3 ∧ OC U3.heap.size V3 3 u10 (fln vs (R.take j)).length (ivs (fln vs (R.take j))) ∧ Blk V3 z3 3 [iv (k : Int)]) := by
                  have hbl : Below V2.heap.size V2 V3 := by rw [← hV3]; exact below_al _ _
                  exact ⟨S7.out.1.trans (hbl.mono S7.out.1.size), S7.out.2.1.below hbl, by rw [← hV3, ← hz3]; exact Blk.new V2 _ _⟩
                refine wpList_bs rfl 82 (.tmp 64) rfl (iv (k : Int)) (.slice (some ⟨V2.heap.size, 0, none⟩) 1 1) rfl (V2.alloc (.cells [iv (k : Int)].toArray 3)) (bs3 _ _) ?_
                rw [hV3, hz3]
                clear hV3 hz3 HLK HMV
                go_wp2_with (first
                  | (with_reducible change wpList _ _ _ ({ dst := some 66, op := _, type := _, pos := _, after := _, guard := _ } :: _) _ _
                     refine Hid.out ?_)
                  | fail)
                show wpList _ _ _ _ _ _
                refine wpList_appc rfl one82 (.tmp 63) (.tmp 65) rfl U3.heap.size u10 _ _ z3 (iv (k : Int)) rfl rfl S8.out.2.1 S8.out.2.2 rfl HFL.out S8.out.1.size ?_
                intro v' V4 r1 r2 r3
                have S9 : Hid (Below U3.heap.size U3 V4 ∧ OC U3.heap.size V4 3 v' (fln vs (R.take (j + 1))).length (ivs (fln vs (R.take (j + 1))))) := by
                  refine ⟨S8.out.1.grown r2 S8.out.1.size (fun g hg => (r3 g hg).1), ?_⟩
                  rw [HK.out, List.length_append]
                  unfold ivs
                  rw [List.map_append]
                  exact r1
                clear r1 r2 r3 S8 S7
                go_wp2
                refine ⟨⟨j + 1, by simp, ⟨HX.out.1, S9.out⟩⟩, ?_⟩
                have := HX.out.1; simp [intOf]; omega
              · have HLK : Hid (∃ q : Int, (Instr.lookup 117 (.map (some m)) (.agg x.cells.toArray) true).run Try.prog V2 = .ok (.tuple #[iv q, .bool false]) V2) := by
                  have h0 := HMV.out.look2 (t := 117) (E := 3) (h := x) Try.underlying117 HX.out.2.2.2 (zero3 V2)
                  rw [khas_num, decide_eq_false hxv] at h0
                  refine ⟨0, ?_⟩
                  have h1 : (kget (numKv vs) x).getD (iv 0) = iv 0 := by
                    unfold kget numKv
                    rw [find_num, if_neg hxv]
                    rfl
                  rw [h1] at h0
                  exact h0
                have HK : Hid (fln vs (R.take (j + 1)) = fln vs (R.take j)) := by
                  show _ = _
                  rw [fln_take vs R j x HX.out.2.1, if_neg hxv, List.append_nil]
                clear hxv
                obtain ⟨q, HLQ⟩ := HLK.out
                have HLQ : Hid _ := hid_of HLQ
                clear HLK
                go_wp2_with (first
                  | (with_reducible change wpList _ _ _ ({ dst := some 58, op := _, type := _, pos := _, after := _, guard := _ } :: _) _ _
                     refine wpList_load_want rfl 34 (.tmp 12) rfl d12 0 rfl x.cells _ S7.out.2.2.range0 Try.underlying34 rfl (info34 HX.out.2.2.1) ?_)
                  | (with_reducible change wpList _ _ _ ({ dst := some 59, op := _, type := _, pos := _, after := _, guard := _ } :: _) _ _
                     refine wpList_lookup rfl 117 (.tmp 57) (.tmp 58) true rfl _ _ _ rfl rfl HLQ.out ?_)
                  | fail)
                refine ⟨⟨j + 1, by simp, ⟨HX.out.1, S7.out.1, ?_⟩⟩, ?_⟩
                · rw [HK.out]
                  exact S7.out.2.1
                · have := HX.out.1; simp [intOf]; omega
            · have q5 : ¬ (j : Int) < (nn : Int) := by omega
              have HJE : Hid (Below U3.heap.size U3 V ∧ IsV V u10 (fln vs (G.frs y))) := by
                have h0 := HJ.out.2.2
                rw [List.take_of_length_le (by rw [HNN.out]; omega), ← HRR.out] at h0
                obtain ⟨a9, c9, e9, h9, _⟩ := h0.read
                exact ⟨HJ.out.2.1, a9, c9, e9, h9⟩
              obtain ⟨fa9, fn9, fc9, hf9⟩ : ∃ a n c, u10 = .slice a n c := by
                obtain ⟨a9, c9, e9, _⟩ := HJE.out.2
                exact ⟨a9, _, c9, e9⟩
              subst hf9
              have S7 : Hid (Below W2.heap.size W2 V ∧ Blk V d3 80 (shc (.slice (some ⟨gb, off, none⟩) n c0) L F) ∧ MP V m (numKv vs) ∧ OC (m + 1) V 71 L i (G.ptrs (vs.take i)) ∧ OC (m + 1) V 82 F i Fs ∧ (∀ (j : Nat) (v : Vx) (f : Value), j < i → vs[j]? = some v → Fs[j]? = some f → IsV V f (fln vs (G.frs v)))) := ⟨S6.out.1.trans (HJE.out.1.mono S6.out.1.size), S6.out.2.1.below HJE.out.1 S6.out.2.1.lt, S6.out.2.2.1.same (HJE.out.1.block m S6.out.2.2.1.lt), S6.out.2.2.2.1.below HJE.out.1, S6.out.2.2.2.2.1.below HJE.out.1, fun j v f hj hv hf => (S6.out.2.2.2.2.2 j v f hj hv hf).below HJE.out.1⟩
              have HMD : Hid (d3 < m ∧ m < V.heap.size) := ⟨S4.out.2.2.2.2, S7.out.2.2.1.lt⟩
              obtain ⟨la, ln, lcc, hL⟩ : ∃ a n c, L = .slice a n c := by obtain ⟨a, c, e, _⟩ := S7.out.2.2.2.1.read; exact ⟨a, _, c, e⟩
              obtain ⟨fa, fn, fcc, hF⟩ : ∃ a n c, F = .slice a n c := by obtain ⟨a, c, e, _⟩ := S7.out.2.2.2.2.1.read; exact ⟨a, _, c, e⟩
              have HLF : Hid (L = .slice la ln lcc ∧ F = .slice fa fn fcc) := ⟨hL, hF⟩
              have cL : V.cell? ⟨d3, 1, none⟩ = some (.slice la ln lcc) := by rw [← hL]; exact S7.out.2.1.cell rfl
              have qi : (i : Int) ≤ 512 := by have := HIN.out; omega
              clear hL hF
              go_wp2_with (first
                | (with_reducible change wpList _ _ _ ({ dst := some 71, op := _, type := _, pos := _, after := _, guard := _ } :: _) _ _
                   refine Hid.out ?_)
                | fail)
              show wpList _ _ _ _ _ _
              obtain ⟨V2, hV2⟩ : ∃ W, V.alloc (.cells [Value.pointer (some ⟨lb, 0, none⟩)].toArray 71) = W := ⟨_, rfl⟩
              obtain ⟨z2, hz2⟩ : ∃ g, V.heap.size = g := ⟨_, rfl⟩
              have S8 : Hid (Below W2.heap.size W2 V2 ∧ Blk V2 d3 80 (shc (.slice (some ⟨gb, off, none⟩) n c0) L F) ∧ MP V2 m (numKv vs) ∧ OC (m + 1) V2 71 L i (G.ptrs (vs.take i)) ∧ OC (m + 1) V2 82 F i Fs ∧ (∀ (j : Nat) (v : Vx) (f : Value), j < i → vs[j]? = some v → Fs[j]? = some f → IsV V2 f (fln vs (G.frs v)))) := by
                have hbl : Below V.heap.size V V2 := by rw [← hV2]; exact below_al _ _
                exact ⟨S7.out.1.trans (hbl.mono S7.out.1.size), S7.out.2.1.below hbl S7.out.2.1.lt, S7.out.2.2.1.same (hbl.block m S7.out.2.2.1.lt), S7.out.2.2.2.1.below hbl, S7.out.2.2.2.2.1.below hbl, fun j v f hj hv hf => (S7.out.2.2.2.2.2 j v f hj hv hf).below hbl⟩
              have H8 : Hid (Blk V2 z2 71 [.pointer (some ⟨lb, 0, none⟩)] ∧ IsV V2 (.slice fa9 fn9 fc9) (fln vs (G.frs y))) := by
                have hbl : Below V.heap.size V V2 := by rw [← hV2]; exact below_al _ _
                exact ⟨by rw [← hV2, ← hz2]; exact Blk.new V _ _, HJE.out.2.below hbl⟩
              refine wpList_bs rfl 77 (.tmp 70) rfl (.pointer (some ⟨lb, 0, none⟩)) (.slice (some ⟨V.heap.size, 0, none⟩) 1 1) rfl (V.alloc (.cells [Value.pointer (some ⟨lb, 0, none⟩)].toArray 71)) (bs71 _ _) ?_
              rw [hV2, hz2]
              clear hV2 hz2 cL
              go_wp2_with (first
                | (with_reducible change wpList _ _ _ ({ dst := some 72, op := _, type := _, pos := _, after := _, guard := _ } :: _) _ _
                   refine Hid.out ?_)
                | fail)
              show wpList _ _ _ _ _ _
              refine wpList_appc rfl one77 (.tmp 69) (.tmp 71) rfl (m + 1) L i (G.ptrs (vs.take i)) z2 (.pointer (some ⟨lb, 0, none⟩)) HLF.out.1.symm rfl S8.out.2.2.2.1 H8.out.1 rfl (by have := HIN.out; have := S2.out.2.2.2.2.2.2.1; omega) S8.out.2.2.1.lt ?_
              intro L2 V3 r1 r2 r3
              have hpt : G.ptrs (vs.take (i + 1)) = G.ptrs (vs.take i) ++ [.pointer (some ⟨lb, 0, none⟩)] := by
                unfold Gm.ptrs
                rw [List.take_add_one, HY.out.2.1, List.map_append]
                show _ ++ [ptrOf (G.get y)] = _
                rw [HLN.out.2.2.2]
                show _ ++ [Value.pointer (some ⟨l.blk, 0, none⟩)] = _
                rw [HLB.out]
              have S9 : Hid (Below W2.heap.size W2 V3 ∧ Blk V3 d3 80 (shc (.slice (some ⟨gb, off, none⟩) n c0) L F) ∧ MP V3 m (numKv vs) ∧ OC (m + 1) V3 71 L2 (i + 1) (G.ptrs (vs.take (i + 1))) ∧ OC (m + 1) V3 82 F i Fs ∧ (∀ (j : Nat) (v : Vx) (f : Value), j < i → vs[j]? = some v → Fs[j]? = some f → IsV V3 f (fln vs (G.frs v))) ∧ IsV V3 (.slice fa9 fn9 fc9) (fln vs (G.frs y))) := by
                have hno : ∀ g C t f, L.ownBlock = some g → t ≠ 71 → V2.heap[g]? ≠ some (.cells C t f) := fun g C t f hg ht he => by
                  obtain ⟨_, C2, h2⟩ := r3 g hg
                  rw [he] at h2
                  cases h2
                  exact ht rfl
                rw [hpt]
                refine ⟨S8.out.1.grown r2 S8.out.1.size (fun g hg => by have := (r3 g hg).1; have := HMD.out; have := S4.out.2.2.1; omega), ?_, S8.out.2.2.1.same (r2.block m S8.out.2.2.1.lt (fun e => ?_)), r1, S8.out.2.2.2.2.1.grown r2 (fun g C f hg => hno g C 82 f hg (by decide)), fun j v f hj hv hf => (S8.out.2.2.2.2.2 j v f hj hv hf).grown r2 (fun g C f' hg => hno g C 3 f' hg (by decide)), H8.out.2.grown r2 (fun g C f' hg => hno g C 3 f' hg (by decide))⟩
                · exact (r2.block d3 S8.out.2.1.lt (fun e => by have := (r3 d3 e.symm).1; have := HMD.out; omega)).trans S8.out.2.1
                · have := (r3 m e.symm).1
                  omega
              have HL2 : Hid (L2.oneCell' = true ∧ L2.cells = #[L2]) := r1.slice
              clear r1 r2 r3 hpt S8 H8 S7
              go_wp2_with (first
                | (with_reducible change wpList _ _ _ ({ dst := none, op := Op.store 77 _ _, type := _, pos := _, after := _, guard := _ } :: _) _ _
                   refine Hid.out ?_)
                | fail)
              show wpList _ _ _ _ _ _
              refine wpList_stc rfl 77 (.tmp 73) (.tmp 72) rfl (by kernel_rfl) (v := L2) HL2.out.1 HL2.out.2 rfl rfl S9.out.2.1 (i := 1) rfl ?_
              intro V4 k1 k2
              have S10 : Hid (Below W2.heap.size W2 V4 ∧ Blk V4 d3 80 (shc (.slice (some ⟨gb, off, none⟩) n c0) L2 F) ∧ MP V4 m (numKv vs) ∧ OC (m + 1) V4 71 L2 (i + 1) (G.ptrs (vs.take (i + 1))) ∧ OC (m + 1) V4 82 F i Fs ∧ (∀ (j : Nat) (v : Vx) (f : Value), j < i → vs[j]? = some v → Fs[j]? = some f → IsV V4 f (fln vs (G.frs v))) ∧ IsV V4 (.slice fa9 fn9 fc9) (fln vs (G.frs y))) := by
                have hno : ∀ g C t f, some d3 = some g → t ≠ 80 → V3.heap[g]? ≠ some (.cells C t f) := fun g C t f hg ht he => by
                  cases hg
                  have h2 := S9.out.2.1
                  unfold Blk at h2
                  rw [he] at h2
                  cases h2
                  exact ht rfl
                exact ⟨S9.out.1.grown k2 S9.out.1.size (fun g hg => by cases hg; have := S4.out.2.2.1; omega), k1, S9.out.2.2.1.same (k2.block m S9.out.2.2.1.lt (fun e => by cases e; have := HMD.out; omega)), S9.out.2.2.2.1.grown k2 (fun g C f hg => hno g C 71 f hg (by decide)), S9.out.2.2.2.2.1.grown k2 (fun g C f hg => hno g C 82 f hg (by decide)), fun j v f hj hv hf => (S9.out.2.2.2.2.2.1 j v f hj hv hf).grown k2 (fun g C f' hg => hno g C 3 f' hg (by decide)), S9.out.2.2.2.2.2.2.grown k2 (fun g C f' hg => hno g C 3 f' hg (by decide))⟩
              clear k1 k2 S9
              have cF : V4.cell? ⟨d3, 2, none⟩ = some (.slice fa fn fcc) := by rw [← HLF.out.2]; exact S10.out.2.1.cell rfl
              go_wp2_with (first
                | (with_reducible change wpList _ _ _ ({ dst := some 77, op := _, type := _, pos := _, after := _, guard := _ } :: _) _ _
                   refine Hid.out ?_)
                | fail)
              show wpList _ _ _ _ _ _
              obtain ⟨V5, hV5⟩ : ∃ W, V4.alloc (.cells [Value.slice fa9 fn9 fc9].toArray 82) = W := ⟨_, rfl⟩
              obtain ⟨z5, hz5⟩ : ∃ g, V4.heap.size = g := ⟨_, rfl⟩
              have S11 : Hid (Below W2.heap.size W2 V5 ∧ Blk V5 d3 80 (shc (.slice (some ⟨gb, off, none⟩) n c0) L2 F) ∧ MP V5 m (numKv vs) ∧ OC (m + 1) V5 71 L2 (i + 1) (G.ptrs (vs.take (i + 1))) ∧ OC (m + 1) V5 82 F i Fs ∧ (∀ (j : Nat) (v : Vx) (f : Value), j < i → vs[j]? = some v → Fs[j]? = some f → IsV V5 f (fln vs (G.frs v))) ∧ IsV V5 (.slice fa9 fn9 fc9) (fln vs (G.frs y)) ∧ Blk V5 z5 82 [.slice fa9 fn9 fc9]) := by
                have hbl : Below V4.heap.size V4 V5 := by rw [← hV5]; exact below_al _ _
                exact ⟨S10.out.1.trans (hbl.mono S10.out.1.size), S10.out.2.1.below hbl S10.out.2.1.lt, S10.out.2.2.1.same (hbl.block m S10.out.2.2.1.lt), S10.out.2.2.2.1.below hbl, S10.out.2.2.2.2.1.below hbl, fun j v f hj hv hf => (S10.out.2.2.2.2.2.1 j v f hj hv hf).below hbl, S10.out.2.2.2.2.2.2.below hbl, by rw [← hV5, ← hz5]; exact Blk.new V4 _ _⟩
              refine wpList_bs rfl 78 (.tmp 76) rfl (.slice fa9 fn9 fc9) (.slice (some ⟨V4.heap.size, 0, none⟩) 1 1) rfl (V4.alloc (.cells [Value.slice fa9 fn9 fc9].toArray 82)) (bs82s _ _ _ _) ?_
              rw [hV5, hz5]
              clear hV5 hz5 cF S10
              go_wp2_with (first
                | (with_reducible change wpList _ _ _ ({ dst := some 78, op := _, type := _, pos := _, after := _, guard := _ } :: _) _ _
                   refine Hid.out ?_)
                | fail)
              show wpList _ _ _ _ _ _
              refine wpList_appc rfl one78 (.tmp 75) (.tmp 77) rfl (m + 1) F i Fs z5 (.slice fa9 fn9 fc9) HLF.out.2.symm rfl S11.out.2.2.2.2.1 S11.out.2.2.2.2.2.2.2 rfl (by have := HIN.out; have := S2.out.2.2.2.2.2.2.1; omega) S11.out.2.2.1.lt ?_
              intro F2 V6 r1 r2 r3
              have S12 : Hid (Below W2.heap.size W2 V6 ∧ Blk V6 d3 80 (shc (.slice (some ⟨gb, off, none⟩) n c0) L2 F) ∧ MP V6 m (numKv vs) ∧ OC (m + 1) V6 71 L2 (i + 1) (G.ptrs (vs.take (i + 1))) ∧ OC (m + 1) V6 82 F2 (i + 1) (Fs ++ [.slice fa9 fn9 fc9]) ∧ (∀ (j : Nat) (v : Vx) (f : Value), j < i + 1 → vs[j]? = some v → (Fs ++ [.slice fa9 fn9 fc9])[j]? = some f → IsV V6 f (fln vs (G.frs v)))) := by
                have hno : ∀ g C t f, F.ownBlock = some g → t ≠ 82 → V5.heap[g]? ≠ some (.cells C t f) := fun g C t f hg ht he => by
                  obtain ⟨_, C2, h2⟩ := r3 g hg
                  rw [he] at h2
                  cases h2
                  exact ht rfl
                have hFl : Fs.length = i := S11.out.2.2.2.2.1.len
                refine ⟨S11.out.1.grown r2 S11.out.1.size (fun g hg => by have := (r3 g hg).1; have := HMD.out; have := S4.out.2.2.1; omega), ?_, S11.out.2.2.1.same (r2.block m S11.out.2.2.1.lt (fun e => ?_)), S11.out.2.2.2.1.grown r2 (fun g C f hg => hno g C 71 f hg (by decide)), r1, fun j v f hj hv hf => ?_⟩
                · exact (r2.block d3 S11.out.2.1.lt (fun e => by have := (r3 d3 e.symm).1; have := HMD.out; omega)).trans S11.out.2.1
                · have := (r3 m e.symm).1
                  omega
                · by_cases hji : j < i
                  · rw [List.getElem?_append_left (by omega)] at hf
                    exact (S11.out.2.2.2.2.2.1 j v f hji hv hf).grown r2 (fun g C f' hg => hno g C 3 f' hg (by decide))
                  · have hje : j = i := by omega
                    subst hje
                    rw [List.getElem?_append_right (by omega), hFl, Nat.sub_self] at hf
                    cases hf
                    rw [HY.out.2.1] at hv
                    cases hv
                    exact S11.out.2.2.2.2.2.2.1.grown r2 (fun g C f' hg => hno g C 3 f' hg (by decide))
              have HF2 : Hid (F2.oneCell' = true ∧ F2.cells = #[F2]) := r1.slice
              clear r1 r2 r3 S11
              go_wp2_with (first
                | (with_reducible change wpList _ _ _ ({ dst := none, op := Op.store 78 _ _, type := _, pos := _, after := _, guard := _ } :: _) _ _
                   refine Hid.out ?_)
                | fail)
              show wpList _ _ _ _ _ _
              refine wpList_stc rfl 78 (.tmp 79) (.tmp 78) rfl (by kernel_rfl) (v := F2) HF2.out.1 HF2.out.2 rfl rfl S12.out.2.1 (i := 2) rfl ?_
              intro V7 k1 k2
              have S13 : Hid (Below W2.heap.size W2 V7 ∧ Blk V7 d3 80 (shc (.slice (some ⟨gb, off, none⟩) n c0) L2 F2) ∧ MP V7 m (numKv vs) ∧ OC (m + 1) V7 71 L2 (i + 1) (G.ptrs (vs.take (i + 1))) ∧ OC (m + 1) V7 82 F2 (i + 1) (Fs ++ [.slice fa9 fn9 fc9]) ∧ (∀ (j : Nat) (v : Vx) (f : Value), j < i + 1 → vs[j]? = some v → (Fs ++ [.slice fa9 fn9 fc9])[j]? = some f → IsV V7 f (fln vs (G.frs v)))) := by
                have hno : ∀ g C t f, some d3 = some g → t ≠ 80 → V6.heap[g]? ≠ some (.cells C t f) := fun g C t f hg ht he => by
                  cases hg
                  have h2 := S12.out.2.1
                  unfold Blk at h2
                  rw [he] at h2
                  cases h2
                  exact ht rfl
                exact ⟨S12.out.1.grown k2 S12.out.1.size (fun g hg => by cases hg; have := S4.out.2.2.1; omega), k1, S12.out.2.2.1.same (k2.block m S12.out.2.2.1.lt (fun e => by cases e; have := HMD.out; omega)), S12.out.2.2.2.1.grown k2 (fun g C f hg => hno g C 71 f hg (by decide)), S12.out.2.2.2.2.1.grown k2 (fun g C f hg => hno g C 82 f hg (by decide)), fun j v f hj hv hf => (S12.out.2.2.2.2.2 j v f hj hv hf).grown k2 (fun g C f' hg => hno g C 3 f' hg (by decide))⟩
              clear k1 k2 S12
              go_wp2
              refine ⟨⟨i + 1, L2, F2, _, by simp, HY.out.1, S13.out⟩, ?_⟩
              have := HY.out.1; simp [intOf]; omega
        · have q1 : ¬ (i : Int) < (n : Int) := by omega
          obtain rfl : i = n := by have := HIN.out; omega
          have HE := HI
          rw [List.take_of_length_le (by rw [S2.out.2.2.2.2.1.1]; exact Nat.le_refl _)] at HE
          have HE : Hid (Below W2.heap.size W2 U1 ∧ Blk U1 d3 80 (shc (.slice a0 i c0) L F) ∧ ShR U1 G a0 (addrOf L) (addrOf F) i vs ∧ L = .slice (addrOf L) i (capOf L) ∧ F = .slice (addrOf F) i (capOf F)) := by
            obtain ⟨la, lc, e1, h1, _⟩ := HE.out.2.2.2.1.read
            obtain ⟨fa, fc, e2, h2, _⟩ := HE.out.2.2.2.2.1.read
            have hFl : Fs.length = i := HE.out.2.2.2.2.1.len
            have hb := HE.out.1
            refine ⟨hb, HE.out.2.1, ⟨S2.out.2.2.2.2.1.below hb, S2.out.2.2.2.2.2.1, ?_, Fs, ?_, hFl, fun j v f hv hf => HE.out.2.2.2.2.2 j v f ?_ hv hf⟩, ?_, ?_⟩
            · rw [e1]; exact h1
            · rw [e2]; exact h2
            · have := (List.getElem?_eq_some_iff.1 hf).1; omega
            · rw [e1]; rfl
            · rw [e2]; rfl
          have HEE := hid_of HE.out
          obtain ⟨la, hla⟩ : ∃ x, addrOf L = x := ⟨_, rfl⟩
          obtain ⟨lc, hlc⟩ : ∃ x, capOf L = x := ⟨_, rfl⟩
          obtain ⟨fa, hfa⟩ : ∃ x, addrOf F = x := ⟨_, rfl⟩
          obtain ⟨fc, hfc⟩ : ∃ x, capOf F = x := ⟨_, rfl⟩
          have HF : Hid (Below W2.heap.size W2 U1 ∧ Blk U1 d3 80 (shc (.slice a0 i c0) (.slice la i lc) (.slice fa i fc)) ∧ ShR U1 G a0 la fa i vs) := by
            obtain ⟨x1, x2, x3, x4, x5⟩ := HEE.out
            rw [hla] at x3 x4
            rw [hlc] at x4
            rw [hfa] at x3 x5
            rw [hfc] at x5
            rw [x4, x5] at x2
            exact ⟨x1, x2, x3⟩
          clear HI HE HEE hla hlc hfa hfc hi
          go_wp2_with (first
            | (with_reducible change wpList _ _ _ ({ dst := some 81, op := _, type := _, pos := _, after := _, guard := _ } :: _) _ _
               refine wpList_load_want rfl 80 (.tmp 3) rfl d3 0 rfl (shc (.slice a0 i c0) (.slice la i lc) (.slice fa i fc)) _ HF.out.2.1.range0 Try.underlying80 rfl (info80 _ _ _) ?_)
            | (with_reducible change wpList _ _ _ ({ dst := none, op := Op.store 80 _ _, type := _, pos := _, after := _, guard := _ } :: _) _ _
               refine Hid.out ?_)
            | fail)
          show wpList _ _ _ _ _ _
          have kd2 := S2.out.2.1.below HF.out.1 S2.out.2.1.lt
          refine wpList_store_blk rfl 80 (.tmp 2) (.tmp 81) rfl d2 0 80 (shc (.slice none 0 0) (.slice none 0 0) (.slice none 0 0)) (shc (.slice a0 i c0) (.slice la i lc) (.slice fa i fc)) rfl rfl kd2 (by simp [shc]) (info80 _ _ _) (shc_one rfl rfl rfl) ?_
          intro U2 hx hg
          have HZ2 : Hid (Blk U2 d2 80 (shc (.slice a0 i c0) (.slice la i lc) (.slice fa i fc)) ∧ Below w.heap.size w U2 ∧ ShR U2 G a0 la fa i vs ∧ GAt U2 p G) := by
            have hne : ∀ g C t f, some d2 = some g → t ≠ 80 → U1.heap[g]? ≠ some (.cells C t f) := fun g C t f hg ht he => by
              cases hg
              have h2 := kd2
              unfold Blk at h2
              rw [he] at h2
              cases h2
              exact ht rfl
            have hB : Below w.heap.size w U2 := (below_tr S2.out.1 HF.out.1).grown hg.out (below_tr S2.out.1 HF.out.1).size (fun j hj => by cases hj; exact S2.out.2.2.1)
            obtain ⟨h1, h2, h3, Fs, h4, h5, h6⟩ := HF.out.2.2
            refine ⟨blk_all hx.out rfl, hB, ⟨⟨h1.1, h1.2.1, fun hp => ?_⟩, h2, h3.grown hg.out (fun g C f hg => hne g C 71 f hg (by decide)), Fs, h4.grown hg.out (fun g C f hg => hne g C 82 f hg (by decide)), h5, fun j v f hv hf => (h6 j v f hv hf).grown hg.out (fun g C f' hg => hne g C 3 f' hg (by decide))⟩, HG.out.below hB⟩
            obtain ⟨gb, off, e, e1, e2⟩ := h1.2.2 hp
            refine ⟨gb, off, e, Nat.lt_of_lt_of_le e1 hg.out.size, fun k x hx => rangeAt_same (e2 k x hx) (hg.out.block gb e1 (fun e9 => ?_))⟩
            cases e9
            obtain ⟨x0, hx0⟩ : ∃ x, vs[0]? = some x := ⟨_, List.getElem?_eq_getElem (by rw [h1.1]; exact hp)⟩
            have hc := e2 0 x0 hx0 32 (iv x0.n) (Vx.line (h1.2.1 x0 (List.mem_of_getElem? hx0)).1)
            unfold Blk at kd2
            simp only [World.cell?, kd2] at hc
            rw [List.getElem?_toArray, List.getElem?_eq_none (by simp [shc])] at hc
            cases hc
          clear hx hg kd2 HF
          go_wp2
          exact ret_c rfl rfl rfl HZ2.out.1 Try.underlying80 rfl (info80 _ _ _) ⟨a0, c0, la, lc, fa, fc, i, vs, rfl, ⟨HZ2.out.2.2.1, HZ2.out.2.2.2⟩, HZ2.out.2.1⟩
end Go.Proofs.Ytjcihaohpbmogaa.Oct
