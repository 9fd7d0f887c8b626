/-
  Layer 10 (patch): Encode.
-/
import Derived.Test.YtgdecjacbkicmaaWro
import Derived.Deep.MidRow
namespace Go.Proofs.Ytgdecjacbkicmaa.Oct
open Go.RowKit
set_option maxRecDepth 100000
set_option linter.unusedSimpArgs false
set_option linter.unusedVariables false

set_option maxRecDepth 100000 in
set_option maxHeartbeats 4000000 in
theorem pw9 {Q : Exit → Act → World → Prop} {x1 x2 x3 x4 x6 x7 x8 x9 x10 x11 x12 x13 x14 x15 x16 x17 x18 x19 x20 x21 x22 x23 x24 x25 x26 x27 x28 x29 x30 x31 x32 x33 x34 x35 x36 x37 x38 x39 x40 x41 x42 x43 x44 x45 x46 x47 x48 x49 x50 x51 x52 x53 x54 x55 x56 x57 x58 x59 : Value} {ds : List Deferred} {A : World} {B g n c d5 : Nat} {va : Option Addr} {dv : Value} {M T : List UInt8} {i0 : TypeInfo}
    (HI5 : Hid (Try.prog.info? 5 = some i0 ∧ i0.zero = some (.int .u8 0) ∧ i0.size = 1 ∧ i0.bytes = 1)) (HX : Hid (B ≤ g ∧ B ≤ A.heap.size ∧ M.length + 32 ≤ 140737488355328)) (HG : Hid (Blk A g 71 [.slice va n c, dv] ∧ Own 5 B A (.slice va n c) M)) (HT : Hid (In A (some ⟨d5, 0, none⟩) 32 32 T))
    (hQ : ∀ V1 va2 n2 c2, Wr B V1 g dv (M ++ T) → Fr B A V1 → Q .normal { tmps := #[.pointer (some ⟨g, 0, none⟩), x1, x2, x3, x4, .pointer (some ⟨d5, 0, none⟩), x6, x7, x8, x9, x10, x11, x12, x13, x14, x15, x16, x17, x18, x19, x20, x21, x22, x23, x24, x25, x26, x27, x28, x29, x30, x31, x32, x33, .pointer (some ⟨g, 0, none⟩), .pointer (some ⟨g, 0, none⟩), .pointer (some ⟨g, 0, none⟩), .pointer (some ⟨g, 0, none⟩), .slice va n c, .slice (some ⟨d5, 0, none⟩) 32 32, .slice va2 n2 c2, .pointer (some ⟨g, 0, none⟩), .pointer (some ⟨g, 0, none⟩), x43, x44, x45, x46, x47, x48, x49, x50, x51, x52, x53, x54, x55, x56, x57, x58, x59], defers := ds } V1) :
    (Code.region 9 #[{ dst := some 34, op := Op.move (Operand.tmp 0), type := 95, pos := "code.go:38", after := #[], guard := none }, { dst := some 35, op := Op.move (Operand.tmp 0), type := 95, pos := "code.go:38", after := #[], guard := none }, { dst := some 36, op := Op.nilCheck (Operand.tmp 35), type := 0, pos := "code.go:38", after := #[{ on := 1, ground := Ground.data }], guard := none }, { dst := some 37, op := Op.fieldAddr 71 (Operand.tmp 36) 0, type := 0, pos := "code.go:38", after := #[{ on := 2, ground := Ground.data }], guard := none }, { dst := some 38, op := Op.load 36 (Operand.tmp 37), type := 36, pos := "code.go:38", after := #[{ on := 3, ground := Ground.data }], guard := none }, { dst := some 39, op := Op.slice 47 (Operand.tmp 5) none none none, type := 36, pos := "code.go:38", after := #[], guard := none }, { dst := some 40, op := Op.call { callee := Callee.builtin Builtin.append, args := #[Operand.tmp 38, Operand.tmp 39], argTypes := #[36, 36] }, type := 36, pos := "code.go:38", after := #[{ on := 4, ground := Ground.data }, { on := 5, ground := Ground.data }], guard := none }, { dst := some 41, op := Op.nilCheck (Operand.tmp 34), type := 0, pos := "code.go:38", after := #[{ on := 0, ground := Ground.data }, { on := 0, ground := Ground.phase }, { on := 1, ground := Ground.phase }, { on := 2, ground := Ground.phase }, { on := 3, ground := Ground.phase }, { on := 4, ground := Ground.phase }, { on := 5, ground := Ground.phase }, { on := 6, ground := Ground.phase }], guard := none }, { dst := some 42, op := Op.fieldAddr 71 (Operand.tmp 41) 0, type := 0, pos := "code.go:38", after := #[{ on := 7, ground := Ground.data }, { on := 0, ground := Ground.phase }, { on := 1, ground := Ground.phase }, { on := 2, ground := Ground.phase }, { on := 3, ground := Ground.phase }, { on := 4, ground := Ground.phase }, { on := 5, ground := Ground.phase }, { on := 6, ground := Ground.phase }], guard := none }, { dst := none, op := Op.store 36 (Operand.tmp 42) (Operand.tmp 40), type := 0, pos := "code.go:38", after := #[{ on := 8, ground := Ground.data }, { on := 6, ground := Ground.data }, { on := 6, ground := Ground.chain }, { on := 0, ground := Ground.phase }, { on := 1, ground := Ground.phase }, { on := 2, ground := Ground.phase }, { on := 3, ground := Ground.phase }, { on := 4, ground := Ground.phase }, { on := 5, ground := Ground.phase }, { on := 6, ground := Ground.phase }], guard := none }] true).wp Try.prog Q { tmps := #[.pointer (some ⟨g, 0, none⟩), x1, x2, x3, x4, .pointer (some ⟨d5, 0, none⟩), x6, x7, x8, x9, x10, x11, x12, x13, x14, x15, x16, x17, x18, x19, x20, x21, x22, x23, x24, x25, x26, x27, x28, x29, x30, x31, x32, x33, x34, x35, x36, x37, x38, x39, x40, x41, x42, x43, x44, x45, x46, x47, x48, x49, x50, x51, x52, x53, x54, x55, x56, x57, x58, x59], defers := ds } A := by
  refine Code.wp_mono (Q := fun x a' w' => match x with | .normal => Q .normal a' w' | _ => False) (by intro x a' w' h; cases x <;> first | exact h | exact h.elim) ?_
  refine wp_region_held (S := fun V => Fr B A V) (by kernel_rfl) ?_
  have hS0 : Hid (Fr B A A.drew) := Fr.of_below (below_drew0 A) HX.out.2.1
  change wpAnyH Try.prog .any _ _ (fun V => Fr B A V) 10 (Array.replicate 10 false) _ A.drew
  obtain ⟨V0, hV0⟩ : ∃ V0, A.drew = V0 := ⟨_, rfl⟩
  rw [hV0]
  rw [hV0] at hS0
  have hG0 : Hid (Blk V0 g 71 [.slice va n c, dv] ∧ Own 5 B V0 (.slice va n c) M) := by rw [← hV0]; exact HG.out
  have hT0 : Hid (In V0 (some ⟨d5, 0, none⟩) 32 32 T) := by rw [← hV0]; exact HT.out
  clear hV0
  refine wpAnyH_take (i := 0) (oi := { dst := some 34, op := Op.move (Operand.tmp 0), type := 95, pos := "code.go:38", after := #[], guard := none }) (v := .pointer (some ⟨g, 0, none⟩)) rfl (by kernel_rfl) (by kernel_rfl) (by kernel_rfl) (fun _ _ _ h => h.elim) (Or.inl ⟨by rfl, ?y1⟩) hS0.out ?_
  case y1 =>
    intro V hV
    go_simp
  simp only [Act.put, List.setIfInBounds_toArray, List.set_cons_zero, List.set_cons_succ]
  refine wpAnyH_take (i := 1) (oi := { dst := some 35, op := Op.move (Operand.tmp 0), type := 95, pos := "code.go:38", after := #[], guard := none }) (v := .pointer (some ⟨g, 0, none⟩)) rfl (by kernel_rfl) (by kernel_rfl) (by kernel_rfl) (fun _ _ _ h => h.elim) (Or.inl ⟨by rfl, ?y2⟩) hS0.out ?_
  case y2 =>
    intro V hV
    go_simp
  simp only [Act.put, List.setIfInBounds_toArray, List.set_cons_zero, List.set_cons_succ]
  refine wpAnyH_take (i := 2) (oi := { dst := some 36, op := Op.nilCheck (Operand.tmp 35), type := 0, pos := "code.go:38", after := #[{ on := 1, ground := Ground.data }], guard := none }) (v := .pointer (some ⟨g, 0, none⟩)) rfl (by kernel_rfl) (by kernel_rfl) (by kernel_rfl) (fun _ _ _ h => h.elim) (Or.inl ⟨by rfl, ?y3⟩) hS0.out ?_
  case y3 =>
    intro V hV
    go_simp
  simp only [Act.put, List.setIfInBounds_toArray, List.set_cons_zero, List.set_cons_succ]
  refine wpAnyH_take (i := 3) (oi := { dst := some 37, op := Op.fieldAddr 71 (Operand.tmp 36) 0, type := 0, pos := "code.go:38", after := #[{ on := 2, ground := Ground.data }], guard := none }) (v := .pointer (some ⟨g, 0, none⟩)) rfl (by kernel_rfl) (by kernel_rfl) (by kernel_rfl) (fun _ _ _ h => h.elim) (Or.inl ⟨by rfl, ?y4⟩) hS0.out ?_
  case y4 =>
    intro V hV
    go_simp
  simp only [Act.put, List.setIfInBounds_toArray, List.set_cons_zero, List.set_cons_succ]
  refine wpAnyH_take (i := 5) (oi := { dst := some 39, op := Op.slice 47 (Operand.tmp 5) none none none, type := 36, pos := "code.go:38", after := #[], guard := none }) (v := .slice (some ⟨d5, 0, none⟩) 32 32) rfl (by kernel_rfl) (by kernel_rfl) (by kernel_rfl) (fun _ _ _ h => h.elim) (Or.inl ⟨by rfl, ?y5⟩) hS0.out ?_
  case y5 =>
    intro V hV
    go_simp
  simp only [Act.put, List.setIfInBounds_toArray, List.set_cons_zero, List.set_cons_succ]
  refine wpAnyH_ready (rs := [4]) (by kernel_rfl) (by simp) (AllReadyH.cons (i := 4) (o := { dst := some 38, op := Op.load 36 (Operand.tmp 37), type := 36, pos := "code.go:38", after := #[{ on := 3, ground := Ground.data }], guard := none }) rfl ?_ AllReadyH.nil)
  · intro K1 hK1
    rw [if_pos (by rfl)]
    have hc1 : V0.cell? ⟨g, 0, none⟩ = some (.slice va n c) := hG0.out.1.cell rfl
    go_wp2
    clear hc1
    refine hK1.out _ _ hS0.out ?_
    clear hK1
    intro _
    try simp only [Act.put, List.setIfInBounds_toArray, List.set_cons_zero, List.set_cons_succ]
    refine wpAnyH_ready (rs := [6]) (by kernel_rfl) (by simp) (AllReadyH.cons (i := 6) (o := { dst := some 40, op := Op.call { callee := Callee.builtin Builtin.append, args := #[Operand.tmp 38, Operand.tmp 39], argTypes := #[36, 36] }, type := 36, pos := "code.go:38", after := #[{ on := 4, ground := Ground.data }, { on := 5, ground := Ground.data }], guard := none }) rfl ?_ AllReadyH.nil)
    · intro K1 hK1
      refine step_append_in V0 (by rfl) (.tmp 38) (.tmp 39) 36 rfl B 5 i0 Try.underlying36 HI5.out.1 HI5.out.2.1 HI5.out.2.2.1 HI5.out.2.2.2 (.slice va n c) M M.length rfl rfl hG0.out.2 (some ⟨d5, 0, none⟩) 32 32 T rfl hT0.out (by have := HX.out.2.2; omega) (Nat.le_trans HX.out.2.1 hS0.out.size) ?_
      intro v5 V2 ho5 hg5
      obtain ⟨va2, n2, c2, rfl, -⟩ := sl_of5 ho5
      have hS2 : Hid (Fr B A V2) := hS0.out.trans (fr_own hG0.out.2 hg5 (Nat.le_trans HX.out.2.1 hS0.out.size))
      have hP2 : Hid (Blk V2 g 71 [.slice va n c, dv] ∧ Wr B (V2.setCell ⟨g, 0, none⟩ (.slice va2 n2 c2)) g dv (M ++ T) ∧ Fr B A (V2.setCell ⟨g, 0, none⟩ (.slice va2 n2 c2))) := ⟨(Wr.put hG0.out.1 hG0.out.2 HX.out.1 hg5 ho5).1, (Wr.put hG0.out.1 hG0.out.2 HX.out.1 hg5 ho5).2.1, hS0.out.trans (Wr.put hG0.out.1 hG0.out.2 HX.out.1 hg5 ho5).2.2⟩
      clear ho5 hg5
      refine hK1.out _ _ hS2.out ?_
      clear hK1
      intro _
      try simp only [Act.put, List.setIfInBounds_toArray, List.set_cons_zero, List.set_cons_succ]
      refine wpAnyH_take (i := 7) (oi := { dst := some 41, op := Op.nilCheck (Operand.tmp 34), type := 0, pos := "code.go:38", after := #[{ on := 0, ground := Ground.data }, { on := 0, ground := Ground.phase }, { on := 1, ground := Ground.phase }, { on := 2, ground := Ground.phase }, { on := 3, ground := Ground.phase }, { on := 4, ground := Ground.phase }, { on := 5, ground := Ground.phase }, { on := 6, ground := Ground.phase }], guard := none }) (v := .pointer (some ⟨g, 0, none⟩)) rfl (by kernel_rfl) (by kernel_rfl) (by kernel_rfl) (fun _ _ _ h => h.elim) (Or.inl ⟨by rfl, ?y6⟩) hS2.out ?_
      case y6 =>
        intro V hV
        go_simp
      simp only [Act.put, List.setIfInBounds_toArray, List.set_cons_zero, List.set_cons_succ]
      refine wpAnyH_take (i := 8) (oi := { dst := some 42, op := Op.fieldAddr 71 (Operand.tmp 41) 0, type := 0, pos := "code.go:38", after := #[{ on := 7, ground := Ground.data }, { on := 0, ground := Ground.phase }, { on := 1, ground := Ground.phase }, { on := 2, ground := Ground.phase }, { on := 3, ground := Ground.phase }, { on := 4, ground := Ground.phase }, { on := 5, ground := Ground.phase }, { on := 6, ground := Ground.phase }], guard := none }) (v := .pointer (some ⟨g, 0, none⟩)) rfl (by kernel_rfl) (by kernel_rfl) (by kernel_rfl) (fun _ _ _ h => h.elim) (Or.inl ⟨by rfl, ?y7⟩) hS2.out ?_
      case y7 =>
        intro V hV
        go_simp
      simp only [Act.put, List.setIfInBounds_toArray, List.set_cons_zero, List.set_cons_succ]
      refine wpAnyH_ready (rs := [9]) (by kernel_rfl) (by simp) (AllReadyH.cons (i := 9) (o := { dst := none, op := Op.store 36 (Operand.tmp 42) (Operand.tmp 40), type := 0, pos := "code.go:38", after := #[{ on := 8, ground := Ground.data }, { on := 6, ground := Ground.data }, { on := 6, ground := Ground.chain }, { on := 0, ground := Ground.phase }, { on := 1, ground := Ground.phase }, { on := 2, ground := Ground.phase }, { on := 3, ground := Ground.phase }, { on := 4, ground := Ground.phase }, { on := 5, ground := Ground.phase }, { on := 6, ground := Ground.phase }], guard := none }) rfl ?_ AllReadyH.nil)
      · intro K1 hK1
        refine step_st36 (by rfl) (.tmp 42) (.tmp 40) rfl g n2 c2 va2 (.slice va n c) dv rfl rfl hP2.out.1 ?_
        obtain ⟨V3, hv3⟩ : ∃ V, V2.setCell ⟨g, 0, none⟩ (.slice va2 n2 c2) = V := ⟨_, rfl⟩
        have hF3 : Hid (Wr B V3 g dv (M ++ T) ∧ Fr B A V3) := by have h := hP2.out.2; rw [hv3] at h; exact h
        rw [hv3]
        refine hK1.out _ _ hF3.out.2 ?_
        clear hK1
        intro _
        try simp only [Act.put, List.setIfInBounds_toArray, List.set_cons_zero, List.set_cons_succ]
        refine wpAnyH_done (by kernel_rfl) ?_ _
        exact hQ V3 va2 n2 c2 hF3.out.1 hF3.out.2
#print axioms pw9
def ptB (p : PV) : List UInt8 := 80 :: (encT p.au ++ (enc p.tm.toNat ++ (encT p.nt ++ (enc p.dn ++ (p.D.flatMap id ++ (enc p.on ++ p.O.flatMap (encO p.D)))))))
/-- what a patch that may be is like -/
theorem chk_of {p : PV} (h : chk p = 0) : headB p = true ∧ depsB p.D = true ∧ opsB p.D p.O = true := by
  unfold chk at h
  cases h1 : headB p with
  | false => rw [h1, if_pos rfl] at h; omega
  | true =>
    rw [h1, if_neg (by decide)] at h
    cases h2 : depsB p.D with
    | false => rw [h2, if_pos rfl] at h; omega
    | true =>
      rw [h2, if_neg (by decide)] at h
      cases h3 : opsB p.D p.O with
      | false => rw [h3, if_pos rfl] at h; omega
      | true => exact ⟨rfl, rfl, rfl⟩
theorem head_of {p : PV} (h : headB p = true) : p.au.size ≤ 16 ∧ 0 ≤ p.tm ∧ p.tm ≤ 1099511627776 ∧ p.nt.size ≤ 200 ∧ isName p.au.data.toList = true := by
  unfold headB at h
  simp only [Bool.and_eq_true, decide_eq_true_eq] at h
  obtain ⟨h1, h2, h3, h4⟩ := h
  refine ⟨?_, h2, h3, by omega, h1⟩
  have e : p.au.data.toList.length = p.au.size := rfl
  unfold isName at h1
  rw [Bool.and_eq_true] at h1
  have := (word_pos h1.1).2
  omega
theorem deps_of {D : List Hs} (h : depsB D = true) : D.length ≤ 16 ∧ rises z32 D = true := by
  unfold depsB at h
  simpa using h
theorem ops_of {D : List Hs} {O : List OpV} (h : opsB D O = true) : 1 ≤ O.length ∧ O.length ≤ 16 ∧ many O ≤ 64 ∧ ∀ o ∈ O, opB D o = true := by
  unfold opsB at h
  simpa using h
theorem many_mem : ∀ {O : List OpV} {o : OpV}, o ∈ O → o.ln ≤ many O
  | [], o, h => by cases h
  | x :: O, o, h => by
    have e : many (x :: O) = x.ln + many O := by unfold many; rw [List.map_cons, List.sum_cons]
    rcases List.mem_cons.1 h with rfl | h
    · omega
    · have := many_mem h
      omega
theorem in47 {w : World} {d : Nat} {x : Hs} (h : Blk w d 47 (U x)) (hx : x.length = 32) : In w (some ⟨d, 0, none⟩) 32 32 x := by
  refine ⟨hx, Nat.le_refl _, by omega, (fun e => by cases e), fun _ => ⟨d, 0, rfl, h.lt, fun i c hc => ?_⟩⟩
  rw [Nat.zero_add]
  refine h.cell ?_
  have hlt := (List.getElem?_eq_some_iff.1 hc).1
  rw [U_get x i hlt]
  rw [List.getElem?_eq_getElem hlt] at hc
  cases hc
  rfl
set_option maxHeartbeats 4000000 in
theorem patchW_is {B : Nat} {w : World} {g : Nat} (p : PV) (h : Wr B w g (.slice p.da p.dn p.dc) []) (hp : ∀ V, Below B w V → PR V p) (hc : chk p = 0) (R : List UInt8) (hR : ptB p = R) :
    Calls Try.prog 38 #[.pointer (some ⟨g, 0, none⟩), .agg p.cells.toArray] w (WrP B g (.slice p.da p.dn p.dc) R w) := by
  obtain ⟨hh, hdd, hoo⟩ := chk_of hc
  obtain ⟨s1, s2, s3, s4, _⟩ := head_of hh
  obtain ⟨s5, _⟩ := deps_of hdd
  obtain ⟨s6, s7, s8, s9⟩ := ops_of hoo
  have hpr := hp w (Below.refl _ _)
  obtain ⟨tm, htm⟩ : ∃ t : Nat, p.tm = (t : Int) := ⟨p.tm.toNat, by omega⟩
  obtain ⟨dv, hdv⟩ : ∃ v, Value.slice p.da p.dn p.dc = v := ⟨_, rfl⟩
  obtain ⟨E1, hE1⟩ : ∃ E, encT p.au = E := ⟨_, rfl⟩
  obtain ⟨E2, hE2⟩ : ∃ E, enc tm = E := ⟨_, rfl⟩
  obtain ⟨E3, hE3⟩ : ∃ E, encT p.nt = E := ⟨_, rfl⟩
  obtain ⟨E4, hE4⟩ : ∃ E, enc p.dn = E := ⟨_, rfl⟩
  obtain ⟨E5, hE5⟩ : ∃ E, enc p.on = E := ⟨_, rfl⟩
  have HP : Hid ((∀ V, Below B w V → PR V p) ∧ p.dn ≤ 16 ∧ p.on ≤ 16 ∧ (∀ o ∈ p.O, opB p.D o = true ∧ o.ln ≤ 64) ∧ p.au.size ≤ 16 ∧ tm ≤ 1099511627776 ∧ p.nt.size ≤ 200) := ⟨hp, by rw [← hpr.deps.1]; exact s5, by rw [← hpr.ops.1]; exact s7, fun o ho => ⟨s9 o ho, by have := many_mem ho; omega⟩, s1, by omega, s4⟩
  have HE : Hid (encT p.au = E1 ∧ enc tm = E2 ∧ encT p.nt = E3 ∧ enc p.dn = E4 ∧ enc p.on = E5) := ⟨hE1, hE2, hE3, hE4, hE5⟩
  have HL : Hid (E1.length ≤ 30 ∧ E2.length ≤ 10 ∧ E3.length ≤ 210 ∧ E4.length ≤ 10 ∧ E5.length ≤ 10) := ⟨by rw [← hE1]; have := encT_len p.au (by omega); omega, by rw [← hE2]; exact enc_ten _ (by omega), by rw [← hE3]; have := encT_len p.nt (by omega); omega, by rw [← hE4]; exact enc_ten _ (by have := hpr.zd; omega), by rw [← hE5]; exact enc_ten _ (by have := hpr.zo; omega)⟩
  have HR : Hid (80 :: (E1 ++ (E2 ++ (E3 ++ (E4 ++ (p.D.flatMap id ++ (E5 ++ p.O.flatMap (encO p.D))))))) = R) := by
    show _ = R
    rw [← hR]
    unfold ptB
    rw [htm, Int.toNat_natCast, hE1, hE2, hE3, hE4, hE5]
  have qdn : (p.dn : Int) ≤ 16 := by have := HP.out.2.1; omega
  have qon : (p.on : Int) ≤ 16 := by have := HP.out.2.2.1; omega
  obtain ⟨d, hd⟩ : ∃ d, w.heap.size = d := ⟨_, rfl⟩
  obtain ⟨W, hW⟩ : ∃ W, w.alloc (.cells p.cells.toArray 25) = W := ⟨_, rfl⟩
  have hbw : Below w.heap.size w W := by rw [← hW]; exact below_al _ _
  have hk : Blk W d 25 p.cells := by rw [← hW, ← hd]; exact Blk.new w _ _
  rw [hdv] at h ⊢
  have HDV : Hid (Value.slice p.da p.dn p.dc = dv) := hdv
  have H0 : Hid (Fr B w W ∧ Blk W d 25 p.cells ∧ Wr B W g dv []) := ⟨Fr.of_below hbw h.lt.2, hk, h.below hbw⟩
  obtain ⟨Z, hZ, HZ⟩ := zero47
  obtain ⟨Z5, hZ5, HZ5⟩ := zero51
  have HZL : Hid (Z.length = 32 ∧ Z5.length = 69) := ⟨by rw [HZ.out]; rfl, by rw [HZ5.out]; exact OpV.len o00_ok⟩
  obtain ⟨i0, hi⟩ := i5
  have HI5 : Hid (Try.prog.info? 5 = some i0 ∧ i0.zero = some (.int .u8 0) ∧ i0.size = 1 ∧ i0.bytes = 1) := hi
  clear hE1 hE2 hE3 hE4 hE5 hh hdd hoo s1 s2 s3 s4 s5 s6 s7 s8 s9 hpr h hp hc hR hbw hk hdv HZ HZ5 hi
  go_enter Try.func38, Try.ntmps38
  go_wp2_with fail
  refine (mark_is H0.out.2.2 80 (by simp)).mono ?_
  rintro e W1 ⟨⟨rv1, rfl⟩, hw1, hf1⟩
  have H1 : Hid (Fr B w W1 ∧ Blk W1 d 25 p.cells ∧ Wr B W1 g dv ([] ++ [80])) := ⟨H0.out.1.trans hf1, H0.out.2.1.fr hf1 (by decide) (by decide), hw1⟩
  have c0 : W1.cell? ⟨d, 0, none⟩ = some (.string p.au) := H1.out.2.1.cell rfl
  clear hw1 hf1 hW hd H0
  go_wp2_with fail
  refine (text_is H1.out.2.2 p.au (by simp) (by have := HP.out.2.2.2.2.1; omega)).mono ?_
  rintro e W2 ⟨⟨rv2, rfl⟩, hw2, hf2⟩
  rw [HE.out.1] at hw2
  have H2 : Hid (Fr B w W2 ∧ Blk W2 d 25 p.cells ∧ Wr B W2 g dv ([] ++ [80] ++ E1)) := ⟨H1.out.1.trans hf2, H1.out.2.1.fr hf2 (by decide) (by decide), hw2⟩
  have c1 : W2.cell? ⟨d, 1, none⟩ = some (iv (tm : Int)) := by rw [← htm]; exact H2.out.2.1.cell rfl
  clear hw2 hf2 c0 H1
  go_wp2_with fail
  refine (number_w H2.out.2.2 tm (by simp only [List.length_append]; have := HL.out; simp; omega) (by have := HP.out.2.2.2.2.2.1; omega)).mono ?_
  rintro e W3 ⟨⟨rv3, rfl⟩, hw3, hf3⟩
  rw [HE.out.2.1] at hw3
  have H3 : Hid (Fr B w W3 ∧ Blk W3 d 25 p.cells ∧ Wr B W3 g dv ([] ++ [80] ++ E1 ++ E2)) := ⟨H2.out.1.trans hf3, H2.out.2.1.fr hf3 (by decide) (by decide), hw3⟩
  have c2 : W3.cell? ⟨d, 2, none⟩ = some (.string p.nt) := H3.out.2.1.cell rfl
  clear hw3 hf3 c1 H2
  go_wp2_with fail
  refine (text_is H3.out.2.2 p.nt (by simp only [List.length_append]; have := HL.out; simp; omega) (by have := HP.out.2.2.2.2.2.2; omega)).mono ?_
  rintro e W4 ⟨⟨rv4, rfl⟩, hw4, hf4⟩
  rw [HE.out.2.2.1] at hw4
  have H4 : Hid (Fr B w W4 ∧ Blk W4 d 25 p.cells ∧ Wr B W4 g dv ([] ++ [80] ++ E1 ++ E2 ++ E3)) := ⟨H3.out.1.trans hf4, H3.out.2.1.fr hf4 (by decide) (by decide), hw4⟩
  have c3 : W4.cell? ⟨d, 3, none⟩ = some (.slice p.da p.dn p.dc) := H4.out.2.1.cell rfl
  clear hw4 hf4 c2 H3
  go_wp2_with fail
  refine (number_w H4.out.2.2 p.dn (by simp only [List.length_append]; have := HL.out; simp; omega) (by have := HP.out.2.1; omega)).mono ?_
  rintro e W5 ⟨⟨rv5, rfl⟩, hw5, hf5⟩
  rw [HE.out.2.2.2.1] at hw5
  obtain ⟨M5, hM5⟩ : ∃ M, [] ++ [80] ++ E1 ++ E2 ++ E3 ++ E4 = M := ⟨_, rfl⟩
  rw [hM5] at hw5
  have H5 : Hid (Fr B w W5 ∧ Blk W5 d 25 p.cells ∧ Wr B W5 g dv M5) := ⟨H4.out.1.trans hf5, H4.out.2.1.fr hf5 (by decide) (by decide), hw5⟩
  have HM5 : Hid ([] ++ [80] ++ E1 ++ E2 ++ E3 ++ E4 = M5 ∧ M5.length ≤ 300) := ⟨hM5, by rw [← hM5]; simp only [List.length_append]; have := HL.out; simp; omega⟩
  clear hw5 hf5 c3 H4 hM5
  have c3 : W5.cell? ⟨d, 3, none⟩ = some (.slice p.da p.dn p.dc) := H5.out.2.1.cell rfl
  go_wp2_with fail
  go_loopw [30] (fun u wr => ∃ i : Nat, u = iv (i : Int) ∧ (i : Int) ≤ (p.dn : Int) ∧ Hid (Wr B wr g dv (M5 ++ (p.D.take i).flatMap id) ∧ Fr B w wr ∧ Blk wr d 25 p.cells)) (fun u _ => p.dn - (intOf u).toNat)
  case atStart => exact ⟨0, rfl, by omega, by simpa using H5.out.2.2, H5.out.1, H5.out.2.1⟩
  case round =>
    obtain ⟨V, hV⟩ : ∃ V, V = wr := ⟨_, rfl⟩
    subst hV
    obtain ⟨i, rfl, qi, HI⟩ := hrel
    clear c3 H5
    by_cases hi : i < p.dn
    · have hds := (HP.out.1 V HI.out.2.1.below).deps
      obtain ⟨x, hx⟩ : ∃ x, p.D[i]? = some x := ⟨_, List.getElem?_eq_getElem (by rw [hds.1]; exact hi)⟩
      obtain ⟨gg, off, hda, hg, hel⟩ := hds.2.2 (by omega)
      have hxl := hds.2.1 x (List.mem_of_getElem? hx)
      have hfl := flat_take id p.D i x hx
      have hfb := flat_len id 32 (p.D.take i) (fun t ht => by have := hds.2.1 t (List.mem_of_mem_take ht); simp only [id]; omega)
      have htl : (p.D.take i).length ≤ 16 := by rw [List.length_take]; have := HP.out.2.1; omega
      have HX : Hid (i < p.dn ∧ x.length = 32 ∧ (p.D.take (i + 1)).flatMap id = (p.D.take i).flatMap id ++ x ∧ ((p.D.take i).flatMap id).length ≤ 512 ∧ V.rangeAt gg (off + i * 32) (U x)) := ⟨hi, hxl, hfl, by have : 32 * (p.D.take i).length ≤ 32 * 16 := Nat.mul_le_mul_left _ htl; omega, hel i x hx⟩
      have q1 : (i : Int) < (p.dn : Int) := by omega
      obtain ⟨d5, hd5⟩ : ∃ d, V.heap.size = d := ⟨_, rfl⟩
      have HD5 : Hid (V.heap.size = d5) := hd5
      clear hds hg hel hx hxl hfl hfb htl hi qi
      rw [hda]
      go_wp2_with (with_reducible change wpList _ _ _ ({ dst := some 33, op := _, type := _, pos := _, after := _, guard := _ } :: _) _ _; refine Hid.out ?_)
      show wpList _ _ _ _ _ _
      refine wpList_load_mid rfl 47 (.tmp 32) rfl gg (off + i * 32) rfl (U x) _ HX.out.2.2.2.2 Try.underlying47 rfl (info47 x HX.out.2.1) ?_
      go_wp2_with (with_reducible change wpList _ _ _ ({ dst := none, op := Op.store 47 _ _, type := _, pos := _, after := _, guard := _ } :: _) _ _; refine Hid.out ?_)
      show wpList _ _ _ _ _ _
      refine wpList_store_blk rfl 47 (.tmp 5) (.tmp 33) rfl d5 0 47 Z (U x) rfl rfl (by rw [← HD5.out]; exact Blk.new V _ _) (by rw [HZL.out.1, U_length, HX.out.2.1]; omega) (info47 x HX.out.2.1) (U_one x) ?_
      intro V1 hx1 hg1
      have hbV : Below V.heap.size V V1 := below_gr (below_al V _) hg1.out (by rw [HD5.out]; exact Nat.le_refl _)
      have hwV := HI.out.1.below hbV
      obtain ⟨va, n, cp, hb, ho⟩ := hwV.own
      have hk5 : Blk V1 d5 47 (U x) := blk_all hx1.out (by rw [HZL.out.1, U_length, HX.out.2.1])
      have H6 : Hid (Fr B w V1 ∧ Blk V1 d 25 p.cells) := ⟨HI.out.2.1.trans (Fr.of_below hbV HI.out.1.lt.2), HI.out.2.2.below hbV HI.out.2.2.lt⟩
      have HX5 : Hid (B ≤ g ∧ B ≤ V1.heap.size ∧ (M5 ++ (p.D.take i).flatMap id).length + 32 ≤ 140737488355328) := ⟨hwV.lo, hwV.lt.2, by rw [List.length_append]; have := HM5.out.2; have := HX.out.2.2.2.1; omega⟩
      have HG5 : Hid (Blk V1 g 71 [.slice va n cp, dv] ∧ Own 5 B V1 (.slice va n cp) (M5 ++ (p.D.take i).flatMap id)) := ⟨hb, ho⟩
      have HT5 : Hid (In V1 (some ⟨d5, 0, none⟩) 32 32 x) := in47 hk5 HX.out.2.1
      clear hx1 hg1 hbV hwV hb ho hk5 hd5
      go_wp2_with fail
      refine pw9 HI5 HX5 HG5 HT5 ?_
      intro V2 va2 n2 c2 hw7 hf7
      have H7 : Hid (Wr B V2 g dv (M5 ++ (p.D.take (i + 1)).flatMap id) ∧ Fr B w V2 ∧ Blk V2 d 25 p.cells ∧ i < p.dn) := ⟨by rw [HX.out.2.2.1, ← List.append_assoc]; exact hw7, H6.out.1.trans hf7, H6.out.2.fr hf7 (by decide) (by decide), HX.out.1⟩
      clear hw7 hf7 HX5 HG5 HT5 H6
      go_wp2
      go_roundw
      case rel => exact ⟨i + 1, by simp, by have := H7.out.2.2.2; omega, H7.out.1, H7.out.2.1, H7.out.2.2.1⟩
      case measure => have := H7.out.2.2.2; simp only [intOf]; omega
    · have q1 : (p.dn : Int) ≤ (i : Int) := by omega
      have hDl := (HP.out.1 w (Below.refl _ _)).deps.1
      have hw8 := HI.out.1
      rw [List.take_of_length_le (by omega)] at hw8
      have hfb := flat_len id 32 p.D (fun t ht => by have := (HP.out.1 w (Below.refl _ _)).deps.2.1 t ht; simp only [id]; omega)
      obtain ⟨M6, hM6⟩ : ∃ M, M5 ++ p.D.flatMap id = M := ⟨_, rfl⟩
      rw [hM6] at hw8
      have H8 : Hid (Wr B V g dv M6 ∧ Fr B w V ∧ Blk V d 25 p.cells) := ⟨hw8, HI.out.2⟩
      have HM6 : Hid (M5 ++ p.D.flatMap id = M6 ∧ M6.length ≤ 900) := ⟨hM6, by rw [← hM6, List.length_append]; have := HM5.out.2; have := HP.out.2.1; omega⟩
      have c4 : V.cell? ⟨d, 4, none⟩ = some (.slice p.oa p.on p.oc) := H8.out.2.2.cell rfl
      clear hDl hw8 hfb hM6 HI hi
      go_wp2_with fail
      refine (number_w H8.out.1 p.on (by have := HM6.out.2; omega) (by have := HP.out.2.2.1; omega)).mono ?_
      rintro e W9 ⟨⟨rv9, rfl⟩, hw9, hf9⟩
      rw [HE.out.2.2.2.2] at hw9
      obtain ⟨M7, hM7⟩ : ∃ M, M6 ++ E5 = M := ⟨_, rfl⟩
      rw [hM7] at hw9
      have H9 : Hid (Fr B w W9 ∧ Blk W9 d 25 p.cells ∧ Wr B W9 g dv M7) := ⟨H8.out.2.1.trans hf9, H8.out.2.2.fr hf9 (by decide) (by decide), hw9⟩
      have HM7 : Hid (M6 ++ E5 = M7 ∧ M7.length ≤ 1000) := ⟨hM7, by rw [← hM7, List.length_append]; have := HM6.out.2; have := HL.out; omega⟩
      clear hw9 hf9 c4 H8 hM7
      have c4 : W9.cell? ⟨d, 4, none⟩ = some (.slice p.oa p.on p.oc) := H9.out.2.1.cell rfl
      go_wp2_with fail
      go_loopw [52] (fun u wr => ∃ i : Nat, u = iv (i : Int) ∧ (i : Int) ≤ (p.on : Int) ∧ Hid (Wr B wr g dv (M7 ++ (p.O.take i).flatMap (encO p.D)) ∧ Fr B w wr)) (fun u _ => p.on - (intOf u).toNat)
      case atStart => exact ⟨0, rfl, by omega, by simpa using H9.out.2.2, H9.out.1⟩
      case round =>
        obtain ⟨V3, hV3⟩ : ∃ V, V = wr := ⟨_, rfl⟩
        subst hV3
        obtain ⟨j, rfl, qj, HI⟩ := hrel
        clear c4 H9
        by_cases hj : j < p.on
        · have hos := (HP.out.1 V3 HI.out.2.below).ops
          obtain ⟨x, hx⟩ : ∃ x, p.O[j]? = some x := ⟨_, List.getElem?_eq_getElem (by rw [hos.1]; exact hj)⟩
          obtain ⟨gg, off, hoa, hg, hel⟩ := hos.2.2 (by omega)
          have hxo := hos.2.1 x (List.mem_of_getElem? hx)
          have hxb := HP.out.2.2.2.1 x (List.mem_of_getElem? hx)
          have hDl : p.D.length ≤ 16 := by rw [(HP.out.1 w (Below.refl _ _)).deps.1]; exact HP.out.2.1
          have hfl := flat_take (encO p.D) p.O j x hx
          have hfb := flat_len (encO p.D) 14000 (p.O.take j) (fun t ht => by
            have hm := List.mem_of_mem_take ht
            have h1 := HP.out.2.2.2.1 t hm
            exact encO_len p.D t (by omega) h1.1 (hos.2.1 t hm).1.2.2.1 h1.2)
          have htl : (p.O.take j).length ≤ 16 := by rw [List.length_take]; have := HP.out.2.2.1; omega
          have HX : Hid (j < p.on ∧ x.ok ∧ (p.O.take (j + 1)).flatMap (encO p.D) = (p.O.take j).flatMap (encO p.D) ++ encO p.D x ∧ ((p.O.take j).flatMap (encO p.D)).length ≤ 224000 ∧ V3.rangeAt gg (off + j * 69) x.cells ∧ opB p.D x = true ∧ x.ln ≤ 64 ∧ x ∈ p.O) := ⟨hj, hxo.1, hfl, by have : 14000 * (p.O.take j).length ≤ 14000 * 16 := Nat.mul_le_mul_left _ htl; omega, hel j x hx, hxb.1, hxb.2, List.mem_of_getElem? hx⟩
          have q2 : (j : Int) < (p.on : Int) := by omega
          obtain ⟨d7, hd7⟩ : ∃ d, V3.heap.size = d := ⟨_, rfl⟩
          have HD7 : Hid (V3.heap.size = d7) := hd7
          clear hos hg hel hx hxo hxb hDl hfl hfb htl hj qj
          rw [hoa]
          go_wp2_with (with_reducible change wpList _ _ _ ({ dst := some 55, op := _, type := _, pos := _, after := _, guard := _ } :: _) _ _; refine Hid.out ?_)
          show wpList _ _ _ _ _ _
          refine wpList_load_mid rfl 51 (.tmp 54) rfl gg (off + j * 69) rfl x.cells _ HX.out.2.2.2.2.1 Try.underlying51 rfl (info51 HX.out.2.1) ?_
          go_wp2_with (with_reducible change wpList _ _ _ ({ dst := none, op := Op.store 51 _ _, type := _, pos := _, after := _, guard := _ } :: _) _ _; refine Hid.out ?_)
          show wpList _ _ _ _ _ _
          refine wpList_store_blk rfl 51 (.tmp 7) (.tmp 55) rfl d7 0 51 Z5 x.cells rfl rfl (by rw [← HD7.out]; exact Blk.new V3 _ _) (by rw [HZL.out.2, OpV.len HX.out.2.1]; omega) (info51 HX.out.2.1) x.one ?_
          intro V4 hx4 hg4
          have hbV : Below V3.heap.size V3 V4 := below_gr (below_al V3 _) hg4.out (by rw [HD7.out]; exact Nat.le_refl _)
          have H6 : Hid (Fr B w V4 ∧ Wr B V4 g dv (M7 ++ (p.O.take j).flatMap (encO p.D)) ∧ OpB V4 d7 x) := ⟨HI.out.2.trans (Fr.of_below hbV HI.out.1.lt.2), HI.out.1.below hbV, ⟨blk_all hx4.out (by rw [HZL.out.2, OpV.len HX.out.2.1]), HX.out.2.1⟩⟩
          have hwx := H6.out.2.1
          rw [← HDV.out] at hwx
          have HWX : Hid (Wr B V4 g (.slice p.da p.dn p.dc) (M7 ++ (p.O.take j).flatMap (encO p.D))) := hwx
          clear hx4 hg4 hbV hd7 hwx
          go_wp2_with (with_reducible change wpList _ _ _ ({ dst := some 57, op := _, type := _, pos := _, after := _, guard := _ } :: _) _ _; refine Hid.out ?_)
          show wpList _ _ _ _ _ _
          refine wpList_load_mid rfl 51 (.tmp 7) rfl d7 0 rfl x.cells _ H6.out.2.2.blk.range0 Try.underlying51 rfl (info51 HX.out.2.1) ?_
          go_wp2_with fail
          refine (opW_is HWX.out p.D (fun V5 hV5 => (HP.out.1 V5 (H6.out.1.below.trans hV5)).deps) (by have := HP.out.2.1; omega) x HX.out.2.1 (fun V5 hV5 => ((HP.out.1 V5 (H6.out.1.below.trans hV5)).ops.2.1 x HX.out.2.2.2.2.2.2.2).2) HX.out.2.2.2.2.2.1 HX.out.2.2.2.2.2.2.1 (by rw [List.length_append]; have := HM7.out.2; have := HX.out.2.2.2.1; omega) _ rfl).mono ?_
          rintro e V5 ⟨⟨rv7, rfl⟩, hw7, hf7⟩
          rw [HDV.out] at hw7
          have H7 : Hid (Wr B V5 g dv (M7 ++ (p.O.take (j + 1)).flatMap (encO p.D)) ∧ Fr B w V5 ∧ j < p.on) := ⟨by rw [HX.out.2.2.1, ← List.append_assoc]; exact hw7, H6.out.1.trans hf7, HX.out.1⟩
          clear hw7 hf7 HWX H6
          go_wp2
          go_roundw
          case rel => exact ⟨j + 1, by simp, by have := H7.out.2.2; omega, H7.out.1, H7.out.2.1⟩
          case measure => have := H7.out.2.2; simp only [intOf]; omega
        · have q2 : (p.on : Int) ≤ (j : Int) := by omega
          have HF : Hid (Wr B V3 g dv R ∧ Fr B w V3) := by
            refine ⟨?_, HI.out.2⟩
            have h1 := HI.out.1
            have hOl := (HP.out.1 w (Below.refl _ _)).ops.1
            rw [List.take_of_length_le (by omega)] at h1
            have e1 : M7 ++ p.O.flatMap (encO p.D) = R := by
              rw [← HR.out, ← HM7.out.1, ← HM6.out.1, ← HM5.out.1]
              simp only [List.append_assoc, List.cons_append, List.nil_append]
            rw [← e1]
            exact h1
          clear hj
          go_wp2
          go_end0
          exact ⟨⟨_, rfl⟩, HF.out.1, HF.out.2⟩
#print axioms patchW_is
end Go.Proofs.Ytgdecjacbkicmaa.Oct
