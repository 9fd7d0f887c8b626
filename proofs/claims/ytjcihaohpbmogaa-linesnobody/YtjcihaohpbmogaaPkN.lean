/-
  Layer 11 (lines): a graph's lines alone.
  Layer 11 (lines): lives: an addition.
  Layer 11 (lines): lives: the chapter's example.
  Layer 11 (lines): the laws' arguments.
  Layer 11 (lines): a graph that no call made: the law.
-/
import Derived.Test.YtjcihaohpbmogaaTxs
import Derived.Deep.Slices
import Derived.ProofKit
import Derived.SizedLaws
import Derived.ChangeSame
import Derived.OpenShut
import Derived.ShutString
import Derived.ChangeOld
import Derived.WideKeyArr2
/- Layer 11 (lines): a graph's lines alone. -/
namespace Go.Proofs.Ytjcihaohpbmogaa.Oct
open Go.RowKit
set_option maxRecDepth 100000
set_option linter.unusedSimpArgs false
set_option linter.unusedVariables false
set_option linter.unusedSectionVars false

/-- what hangs on a graph's lines alone -/
def keysP (ps : List PL) : List Vx := ps.map (·.v)
def getP (ps : List PL) (v : Vx) : Option PL := ps.find? fun q => q.v == v
def frsP (ps : List PL) (v : Vx) : List Vx := match getP ps v with
  | some q => q.fr
  | none => []
def flvP (ps : List PL) (vs : List Vx) (k : Nat) : List Nat := fln vs (frsP ps (vs.getD k vTop))
def riseP (ps : List PL) (vs : List Vx) : Prop := vs.Perm (keysP ps) ∧ vs.Pairwise LtV
def sxP (ps : List PL) (vs : List Vx) (n : Nat) : Sx := ⟨vs.getD n vTop, ((getP ps (vs.getD n vTop)).map (·.t)).getD e0, ((getP ps (vs.getD n vTop)).map (·.kills.length)).getD 0⟩
def shownP (ps : List PL) (vs : List Vx) : List Sx := (Gr.ordr (flvP ps vs) (List.range vs.length)).map (sxP ps vs)
def aliveP (ps : List PL) (vs : List Vx) (n : Nat) : Bool := match getP ps (vs.getD n vTop) with
  | some q => decide (q.kills = [])
  | none => true
def confP (ps : List PL) (vs : List Vx) : Int := (confR (flvP ps vs) (aliveP ps vs) vs.length (Gr.ordr (flvP ps vs) (List.range vs.length))).pairs
def acyP (ps : List PL) (F : Vx → Nat) : Prop := ∀ q ∈ ps, ∀ u ∈ q.fr, u ∈ keysP ps → F u < F q.v
def tiedP (ps : List PL) : Prop := vTop ∉ keysP ps ∧ ∀ q ∈ ps, ∀ u ∈ q.fr, u = vTop ∨ u ∈ keysP ps
def lenP (ps : List PL) : Prop := ∀ q ∈ ps, q.fr.length < 100000
theorem keys_ps (G : Gm) : G.keys = keysP G.ps := by unfold Gm.keys keysP Gm.ps; rw [List.map_map]; rfl
theorem get_ps (G : Gm) (v : Vx) : (G.get v).map (·.p) = getP G.ps v := by
  unfold Gm.get getP Gm.ps
  rw [List.find?_map]
  rfl
theorem frs_ps (G : Gm) : G.frs = frsP G.ps := by
  funext v
  unfold Gm.frs frsP
  rw [← get_ps]
  cases G.get v <;> rfl
theorem flv_ps (G : Gm) (vs : List Vx) : flv G vs = flvP G.ps vs := by
  funext k
  unfold flv flvP
  rw [frs_ps]
theorem rise_ps (G : Gm) (vs : List Vx) : G.rise vs ↔ riseP G.ps vs := by unfold Gm.rise riseP; rw [keys_ps]
theorem sx_ps (G : Gm) (vs : List Vx) : sxAt G vs = sxP G.ps vs := by
  funext n
  unfold sxAt sxP
  rw [← get_ps, Option.map_map, Option.map_map]
  rfl
theorem shown_ps (G : Gm) (vs : List Vx) : G.shown vs = shownP G.ps vs := by unfold Gm.shown shownP; rw [flv_ps, sx_ps]
theorem alive_ps (G : Gm) (vs : List Vx) : G.alive vs = aliveP G.ps vs := by
  funext n
  unfold Gm.alive aliveP
  rw [← get_ps]
  cases G.get (vs.getD n vTop) <;> rfl
theorem conf_ps (G : Gm) (vs : List Vx) : G.conf vs = confP G.ps vs := by unfold Gm.conf confP; rw [flv_ps, alive_ps]
theorem acy_ps {G : Gm} {F : Vx → Nat} (h : acyP G.ps F) : G.acy F := by
  intro l hl u hu hk
  rw [keys_ps] at hk
  exact h l.p (List.mem_map.2 ⟨l, hl, rfl⟩) u hu hk
theorem tied_ps {G : Gm} (h : tiedP G.ps) : G.tied := by
  refine ⟨by rw [keys_ps]; exact h.1, fun l hl u hu => ?_⟩
  rw [keys_ps]
  exact h.2 l.p (List.mem_map.2 ⟨l, hl, rfl⟩) u hu
theorem len_ps {G : Gm} (h : lenP G.ps) : ∀ l ∈ G.ls, l.p.fr.length < 100000 := fun l hl => h l.p (List.mem_map.2 ⟨l, hl, rfl⟩)
theorem ls_ps (G : Gm) : G.ls.length = G.ps.length := by unfold Gm.ps; rw [List.length_map]
/-- a rising list is one -/
theorem rise_one : ∀ (l l' : List Vx), l.Perm l' → l.Pairwise LtV → l'.Pairwise LtV → l = l'
  | [], l', h, _, _ => by rw [List.nil_perm.1 h]
  | x :: l, [], h, _, _ => by have := h.length_eq; simp at this
  | x :: l, y :: l', h, h1, h2 => by
    have hx : x = y := by
      rcases List.mem_cons.1 (h.mem_iff.1 (List.mem_cons_self)) with e | e
      · exact e
      rcases List.mem_cons.1 (h.mem_iff.2 (List.mem_cons_self)) with e' | e'
      · exact e'.symm
      · have a1 := (List.pairwise_cons.1 h1).1 y e'
        have a2 := (List.pairwise_cons.1 h2).1 x e
        exact absurd (a1.tr a2) (LtV.irr x)
    subst hx
    rw [rise_one l l' (List.perm_cons x |>.1 h) (List.pairwise_cons.1 h1).2 (List.pairwise_cons.1 h2).2]
theorem riseP_one {ps : List PL} {vs vs' : List Vx} (h : riseP ps vs) (h' : riseP ps vs') : vs = vs' := rise_one vs vs' (h.1.trans h'.1.symm) h.2 h'.2
/-- the example -/
def sa : BA := ⟨#[97]⟩
def sb : BA := ⟨#[98]⟩
def sc : BA := ⟨#[99]⟩
def sd : BA := ⟨#[100]⟩
def q1p : List PL := addP [] vTop vBot [idv 5] [sa]
def q2p : List PL := addP q1p vTop (idv 5) [idv 6] [sb]
def q3p : List PL := addP q2p (idv 5) vBot [idv 7] [sc]
def q4p : List PL := addP q3p (idv 5) vBot [idv 8] [sd]
def vs4 : List Vx := [idv 5, idv 6, idv 7, idv 8]
theorem keys4 : keysP q4p = [idv 5, idv 6, idv 7, idv 8] := by decide +kernel
theorem rise4 : riseP q4p vs4 := by
  refine ⟨by rw [keys4]; exact List.Perm.refl _, ?_⟩
  unfold vs4
  simp only [List.pairwise_cons, List.mem_cons, List.not_mem_nil, or_false, forall_eq_or_imp, forall_eq, List.Pairwise.nil, and_true, false_imp_iff, implies_true]
  have h : ∀ a b : Int, a < b → LtV (idv a) (idv b) := fun a b h => .inr ⟨rfl, h⟩
  exact ⟨⟨h _ _ (by omega), h _ _ (by omega), h _ _ (by omega)⟩, ⟨h _ _ (by omega), h _ _ (by omega)⟩, h _ _ (by omega)⟩
theorem txs4 : txs (shownP q4p vs4) = [sb, sa, sc, sd] := by kernel_rfl
theorem conf4 : confP q4p vs4 = 1 := by kernel_rfl
theorem len4 : q4p.length = 4 := by kernel_rfl
def F4 (v : Vx) : Nat := if v = idv 6 then 0 else if v = idv 5 then 1 else 2
theorem acy4 : acyP q4p F4 := by unfold acyP; decide +kernel
theorem tied1 : tiedP q1p := by unfold tiedP; decide +kernel
theorem tied2 : tiedP q2p := by unfold tiedP; decide +kernel
theorem tied3 : tiedP q3p := by unfold tiedP; decide +kernel
theorem tied4 : tiedP q4p := by unfold tiedP; decide +kernel
theorem lens : lenP q1p ∧ lenP q2p ∧ lenP q3p ∧ lenP q4p := by unfold lenP; decide +kernel
end Go.Proofs.Ytjcihaohpbmogaa.Oct

/- Layer 11 (lines): lives: an addition. -/
namespace Go.Proofs.Ytjcihaohpbmogaa.Oct
open Go.RowKit
set_option maxRecDepth 100000
set_option linter.unusedSimpArgs false
set_option linter.unusedVariables false
set_option linter.unusedSectionVars false

theorem step_bs9 {ops : Array Oper} {op : Oper} {a : Act} {w : World} {K : Act → World → Prop} {Q : Exit → Act → World → Prop} {E : Prop} (hw : Region.wanted op (yielded ops a.tmps) = true) (x : Operand) (hop : op.op = .buildSlice 36 1 #[(0, x)]) (s : BA) (hx : a.eval x = .string s)
    (hk : K (a.put op.dst (.slice (some ⟨w.heap.size, 0, none⟩) 1 1)) (w.alloc (.cells [Value.string s].toArray 9))) : if Region.wanted op (yielded ops a.tmps) = true then Oper.wp Try.prog op a w K Q else E := by
  rw [if_pos hw]
  unfold Oper.wp execOp
  simp only [hop, List.map_toArray, List.map_cons, List.map_nil, hx, Sem.run_bind, Sem.run_pure, Result.andThen_ok, bs9]
  exact hk
theorem TsR.one (w : World) (s : BA) : TsR (w.alloc (.cells [Value.string s].toArray 9)) (some ⟨w.heap.size, 0, none⟩) 1 [s] := by
  have hb := Blk.new w [Value.string s].toArray 9
  refine ⟨rfl, fun _ => ⟨_, _, rfl, by simp, fun i x hi => ?_⟩⟩
  cases i with
  | zero =>
    simp at hi
    subst hi
    exact hb.cell rfl
  | succ i => simp at hi
set_option maxRecDepth 100000 in
set_option maxHeartbeats 4000000 in
theorem lv3 {Q : Exit → Act → World → Prop} {x0 x4 x5 x6 x7 x8 x9 x10 x11 x12 x13 x14 x15 x16 x17 x18 x19 x20 x21 x22 x23 x24 x25 x26 x27 x28 x29 x30 x31 x32 x33 x34 x35 x36 x37 x38 x39 x40 x41 x42 x43 x44 x45 x46 x47 x48 x49 x50 x51 x52 x53 x54 x55 x56 x57 x58 x59 x60 x61 x62 x63 x64 x65 x66 x67 x68 x69 x70 : Value} {ds : List Deferred} {A : World} {p d2 d3 : Nat} {G : Gm} {x : Vx} {XC : List Value} {CT : List Value} {CB : List Value} {s : BA} {PS : List PL} 
    (HG : Hid (GAt A p G)) (HV : Hid (Vk x)) (HXC : Hid (x.cells = XC))  (HL2 : Hid (d2 < A.heap.size ∧ ¬ d2 ∈ G.bl p)) (HR2 : Hid (A.rangeAt d2 0 CT)) (HI2 : Hid ((Try.prog.info? 34).map (·.size) = some CT.length)) (HL3 : Hid (d3 < A.heap.size ∧ ¬ d3 ∈ G.bl p)) (HR3 : Hid (A.rangeAt d3 0 CB)) (HI3 : Hid ((Try.prog.info? 34).map (·.size) = some CB.length)) (HIDX : Hid (∀ W, Calls Try.prog 29 #[iv 5] W fun e w' => e = .returned (.agg XC.toArray) ∧ Below W.heap.size W w')) (HS : Hid (Value.string { data := #[97] } = .string s)) (HADD : Hid (∀ V r1 r2, GAt V p G → VsR V (some ⟨r1, 0, none⟩) 1 [x] → TsR V (some ⟨r2, 0, none⟩) 1 [s] → Calls Try.prog 22 #[.pointer (some ⟨p, 0, none⟩), .agg CT.toArray, .agg CB.toArray, .slice (some ⟨r1, 0, none⟩) 1 1, .slice (some ⟨r2, 0, none⟩) 1 1] V fun e w' => e = .returned (iv 0) ∧ ∃ G', GAfter V p G G' w' ∧ G'.ps = PS))
    (hQ : ∀ V3 r1 r2 G', Keep (fun k => k ∈ G.bl p) A V3 → (GAt V3 p G' ∧ G'.ps = PS ∧ ∀ k ∈ G'.bl p, k ∈ G.bl p ∨ A.heap.size ≤ k) → Q .normal { tmps := #[x0, .pointer (some ⟨p, 0, none⟩), .pointer (some ⟨d2, 0, none⟩), .pointer (some ⟨d3, 0, none⟩), iv 0, x5, x6, x7, x8, x9, x10, .pointer (some ⟨p, 0, none⟩), .agg CT.toArray, .agg CB.toArray, .agg XC.toArray, .slice (some ⟨r1, 0, none⟩) 1 1, .slice (some ⟨r2, 0, none⟩) 1 1, iv 0, x18, x19, x20, x21, x22, x23, x24, x25, x26, x27, x28, x29, x30, x31, x32, x33, x34, x35, x36, x37, x38, x39, x40, x41, x42, x43, x44, x45, x46, x47, x48, x49, x50, x51, x52, x53, x54, x55, x56, x57, x58, x59, x60, x61, x62, x63, x64, x65, x66, x67, x68, x69, x70], defers := ds } V3) :
    (Code.region 3 #[{ dst := some 11, op := Op.move (Operand.tmp 1), type := 25, pos := "law.go:18", after := #[], guard := none }, { dst := some 12, op := Op.load 34 (Operand.tmp 2), type := 34, pos := "law.go:18", after := #[], guard := none }, { dst := some 13, op := Op.load 34 (Operand.tmp 3), type := 34, pos := "law.go:18", after := #[], guard := none }, { dst := some 14, op := Op.call { callee := Callee.value (Operand.func 29), args := #[Operand.const (Value.int IntKind.i64 5)], argTypes := #[3] }, type := 34, pos := "law.go:18", after := #[], guard := none }, { dst := some 15, op := Op.buildSlice 35 1 #[(0, Operand.tmp 14)], type := 35, pos := "law.go:18", after := #[{ on := 3, ground := Ground.data }], guard := none }, { dst := some 16, op := Op.buildSlice 36 1 #[(0, Operand.const (Value.string { data := #[97] }))], type := 36, pos := "law.go:18", after := #[], guard := none }, { dst := some 17, op := Op.call { callee := Callee.value (Operand.func 22), args := #[Operand.tmp 11, Operand.tmp 12, Operand.tmp 13, Operand.tmp 15, Operand.tmp 16], argTypes := #[25, 34, 34, 35, 36] }, type := 40, pos := "law.go:18", after := #[{ on := 0, ground := Ground.data }, { on := 1, ground := Ground.data }, { on := 2, ground := Ground.data }, { on := 4, ground := Ground.data }, { on := 5, ground := Ground.data }, { on := 3, ground := Ground.chain }], guard := none }, { dst := some 4, op := Op.assign (Operand.tmp 17), type := 40, pos := "law.go:18", after := #[{ on := 6, ground := Ground.data }, { on := 6, ground := Ground.chain }, { on := 0, ground := Ground.phase }, { on := 1, ground := Ground.phase }, { on := 2, ground := Ground.phase }, { on := 3, ground := Ground.phase }, { on := 4, ground := Ground.phase }, { on := 5, ground := Ground.phase }, { on := 6, ground := Ground.phase }], guard := none }] true).wp Try.prog Q { tmps := #[x0, .pointer (some ⟨p, 0, none⟩), .pointer (some ⟨d2, 0, none⟩), .pointer (some ⟨d3, 0, none⟩), x4, x5, x6, x7, x8, x9, x10, x11, x12, x13, x14, x15, x16, x17, x18, x19, x20, x21, x22, x23, x24, x25, x26, x27, x28, x29, x30, x31, x32, x33, x34, x35, x36, x37, x38, x39, x40, x41, x42, x43, x44, x45, x46, x47, x48, x49, x50, x51, x52, x53, x54, x55, x56, x57, x58, x59, x60, x61, x62, x63, x64, x65, x66, x67, x68, x69, x70], defers := ds } A := by
  refine Code.wp_mono (Q := fun x a' w' => match x with | .normal => Q .normal a' w' | _ => False) (by intro x a' w' h; cases x <;> first | exact h | exact h.elim) ?_
  refine wp_region_held (S := fun V => Keep (fun k => k ∈ G.bl p) A V) (by kernel_rfl) ?_
  have hS0 : Hid (Keep (fun k => k ∈ G.bl p) A A.drew) := (Keep.refl _ A).drew
  change wpAnyH Try.prog .any _ _ (fun V => Keep (fun k => k ∈ G.bl p) A V) 8 (Array.replicate 8 false) _ A.drew
  obtain ⟨V0, hV0⟩ : ∃ V0, A.drew = V0 := ⟨_, rfl⟩
  rw [hV0]
  rw [hV0] at hS0
  have hX0 : Hid (GAt V0 p G) := by
    show GAt V0 p G
    rw [← hV0]
    exact HG.out.below (below_drew0 A)
  clear hV0
  refine wpAnyH_take (i := 0) (oi := { dst := some 11, op := Op.move (Operand.tmp 1), type := 25, pos := "law.go:18", after := #[], guard := none }) (v := .pointer (some ⟨p, 0, none⟩)) rfl (by kernel_rfl) (by kernel_rfl) (by kernel_rfl) (fun _ _ _ h => h.elim) (Or.inl ⟨by rfl, ?y1⟩) hS0.out ?_
  case y1 =>
    intro V hV
    go_simp
  simp only [Act.put, List.setIfInBounds_toArray, List.set_cons_zero, List.set_cons_succ]
  refine wpAnyH_take (i := 1) (oi := { dst := some 12, op := Op.load 34 (Operand.tmp 2), type := 34, pos := "law.go:18", after := #[], guard := none }) (v := .agg CT.toArray) rfl (by kernel_rfl) (by kernel_rfl) (by kernel_rfl) (fun _ _ _ h => h.elim) (yieldsIf_load_mid (by rfl) _ _ rfl _ _ rfl (CT) _ (fun V hV => rangeAt_same (HR2.out) ((show Keep (fun k => k ∈ G.bl p) A V from hV).block _ (HL2.out.1) (HL2.out.2))) Try.underlying34 rfl (HI2.out)) hS0.out ?_
  simp only [Act.put, List.setIfInBounds_toArray, List.set_cons_zero, List.set_cons_succ]
  refine wpAnyH_take (i := 2) (oi := { dst := some 13, op := Op.load 34 (Operand.tmp 3), type := 34, pos := "law.go:18", after := #[], guard := none }) (v := .agg CB.toArray) rfl (by kernel_rfl) (by kernel_rfl) (by kernel_rfl) (fun _ _ _ h => h.elim) (yieldsIf_load_mid (by rfl) _ _ rfl _ _ rfl (CB) _ (fun V hV => rangeAt_same (HR3.out) ((show Keep (fun k => k ∈ G.bl p) A V from hV).block _ (HL3.out.1) (HL3.out.2))) Try.underlying34 rfl (HI3.out)) hS0.out ?_
  simp only [Act.put, List.setIfInBounds_toArray, List.set_cons_zero, List.set_cons_succ]
  refine wpAnyH_ready (rs := [3, 5]) (by kernel_rfl) (by simp) (AllReadyH.cons (i := 3) (o := { dst := some 14, op := Op.call { callee := Callee.value (Operand.func 29), args := #[Operand.const (Value.int IntKind.i64 5)], argTypes := #[3] }, type := 34, pos := "law.go:18", after := #[], guard := none }) rfl ?_ (AllReadyH.cons (i := 5) (o := { dst := some 16, op := Op.buildSlice 36 1 #[(0, Operand.const (Value.string { data := #[97] }))], type := 36, pos := "law.go:18", after := #[], guard := none }) rfl ?_ AllReadyH.nil))
  · intro K1 hK1
    rw [if_pos (by rfl)]
    have HC1 := HIDX.out V0
    go_wp2_with fail
    refine HC1.mono ?_
    rintro e V1 ⟨rfl, hb1⟩
    dsimp only
    clear HC1
    have hS1 : Hid (Keep (fun k => k ∈ G.bl p) A V1) := (hS0.out).trans (Keep.below (S := fun _ => False) hb1) (fun _ h _ => h.elim)
    have hX1 : Hid (GAt V1 p G ∧ True) := ⟨(hX0.out).below hb1, trivial⟩
    clear hb1
    refine hK1.out _ _ hS1.out ?_
    clear hK1
    intro _
    try simp only [Act.put, List.setIfInBounds_toArray, List.set_cons_zero, List.set_cons_succ]
    refine wpAnyH_ready (rs := [4, 5]) (by kernel_rfl) (by simp) (AllReadyH.cons (i := 4) (o := { dst := some 15, op := Op.buildSlice 35 1 #[(0, Operand.tmp 14)], type := 35, pos := "law.go:18", after := #[{ on := 3, ground := Ground.data }], guard := none }) rfl ?_ (AllReadyH.cons (i := 5) (o := { dst := some 16, op := Op.buildSlice 36 1 #[(0, Operand.const (Value.string { data := #[97] }))], type := 36, pos := "law.go:18", after := #[], guard := none }) rfl ?_ AllReadyH.nil))
    · intro K1 hK1
      refine step_bs1 (by rfl) _ rfl x HV.out.1 (by rw [HXC.out]; rfl) ?_
      obtain ⟨V2, hv2⟩ : ∃ V, V1.alloc (.cells x.cells.toArray 34) = V := ⟨_, rfl⟩
      obtain ⟨r1, hr2⟩ : ∃ m, V1.heap.size = m := ⟨_, rfl⟩
      have hb2 : Below V1.heap.size V1 V2 := by rw [← hv2]; exact below_al _ _
      have hS2 : Hid (Keep (fun k => k ∈ G.bl p) A V2) := (hS1.out).trans (Keep.below (S := fun _ => False) hb2) (fun _ h _ => h.elim)
      have hX2 : Hid (GAt V2 p G ∧ True) := ⟨(hX1.out.1).below hb2, trivial⟩
      have hR2 : Hid (VsR V2 (some ⟨r1, 0, none⟩) 1 [x]) := by
        show VsR _ _ _ _
        rw [← hv2, ← hr2]
        exact VsR.one _ _ HV.out
      rw [hv2, hr2]
      clear hv2 hr2 hb2
      refine hK1.out _ _ hS2.out ?_
      clear hK1
      intro _
      try simp only [Act.put, List.setIfInBounds_toArray, List.set_cons_zero, List.set_cons_succ]
      refine wpAnyH_ready (rs := [5]) (by kernel_rfl) (by simp) (AllReadyH.cons (i := 5) (o := { dst := some 16, op := Op.buildSlice 36 1 #[(0, Operand.const (Value.string { data := #[97] }))], type := 36, pos := "law.go:18", after := #[], guard := none }) rfl ?_ AllReadyH.nil)
      · intro K1 hK1
        refine step_bs9 (by rfl) _ rfl s HS.out ?_
        obtain ⟨V3, hv3⟩ : ∃ V, V2.alloc (.cells [Value.string s].toArray 9) = V := ⟨_, rfl⟩
        obtain ⟨r2, hr3⟩ : ∃ m, V2.heap.size = m := ⟨_, rfl⟩
        have hb3 : Below V2.heap.size V2 V3 := by rw [← hv3]; exact below_al _ _
        have hS3 : Hid (Keep (fun k => k ∈ G.bl p) A V3) := (hS2.out).trans (Keep.below (S := fun _ => False) hb3) (fun _ h _ => h.elim)
        have hX3 : Hid (GAt V3 p G ∧ VsR V3 (some ⟨r1, 0, none⟩) 1 [x] ∧ True) := ⟨(hX2.out.1).below hb3, (hR2.out).below hb3, trivial⟩
        have hR3 : Hid (TsR V3 (some ⟨r2, 0, none⟩) 1 [s]) := by
          show TsR _ _ _ _
          rw [← hv3, ← hr3]
          exact TsR.one _ _
        rw [hv3, hr3]
        clear hv3 hr3 hb3
        refine hK1.out _ _ hS3.out ?_
        clear hK1
        intro _
        try simp only [Act.put, List.setIfInBounds_toArray, List.set_cons_zero, List.set_cons_succ]
        refine wpAnyH_ready (rs := [6]) (by kernel_rfl) (by simp) (AllReadyH.cons (i := 6) (o := { dst := some 17, op := Op.call { callee := Callee.value (Operand.func 22), args := #[Operand.tmp 11, Operand.tmp 12, Operand.tmp 13, Operand.tmp 15, Operand.tmp 16], argTypes := #[25, 34, 34, 35, 36] }, type := 40, pos := "law.go:18", after := #[{ on := 0, ground := Ground.data }, { on := 1, ground := Ground.data }, { on := 2, ground := Ground.data }, { on := 4, ground := Ground.data }, { on := 5, ground := Ground.data }, { on := 3, ground := Ground.chain }], guard := none }) rfl ?_ AllReadyH.nil)
        · intro K1 hK1
          rw [if_pos (by rfl)]
          have HC4 := HADD.out V3 r1 r2 (hX3.out.1) (hX3.out.2.1) (hR3.out)
          go_wp2_with fail
          refine HC4.mono ?_
          rintro e V4 ⟨rfl, G', hga4, hps4⟩
          dsimp only
          clear HC4
          have hS4 : Hid (Keep (fun k => k ∈ G.bl p) A V4) := (hS3.out).trans hga4.2.2 (fun _ h _ => h)
          have hX4 : Hid (GAt V4 p G' ∧ G'.ps = PS ∧ ∀ k ∈ G'.bl p, k ∈ G.bl p ∨ A.heap.size ≤ k) := ⟨hga4.1, hps4, fun k hk => (hga4.2.1 k hk).imp id (fun h => Nat.le_trans (hS3.out).size h)⟩
          clear hga4 hps4
          refine hK1.out _ _ hS4.out ?_
          clear hK1
          intro _
          try simp only [Act.put, List.setIfInBounds_toArray, List.set_cons_zero, List.set_cons_succ]
          refine wpAnyH_take (i := 7) (oi := { dst := some 4, op := Op.assign (Operand.tmp 17), type := 40, pos := "law.go:18", after := #[{ on := 6, ground := Ground.data }, { on := 6, ground := Ground.chain }, { on := 0, ground := Ground.phase }, { on := 1, ground := Ground.phase }, { on := 2, ground := Ground.phase }, { on := 3, ground := Ground.phase }, { on := 4, ground := Ground.phase }, { on := 5, ground := Ground.phase }, { on := 6, ground := Ground.phase }], guard := none }) (v := iv 0) rfl (by kernel_rfl) (by kernel_rfl) (by kernel_rfl) (fun _ _ _ h => h.elim) (Or.inl ⟨by rfl, ?y2⟩) hS4.out ?_
          case y2 =>
            intro V hV
            go_simp
          simp only [Act.put, List.setIfInBounds_toArray, List.set_cons_zero, List.set_cons_succ]
          refine wpAnyH_done (by kernel_rfl) ?_ _
          exact hQ V4 r1 r2 G' hS4.out hX4.out
    · intro K1 hK1
      refine step_bs9 (by rfl) _ rfl s HS.out ?_
      obtain ⟨V2, hv2⟩ : ∃ V, V1.alloc (.cells [Value.string s].toArray 9) = V := ⟨_, rfl⟩
      obtain ⟨r2, hr2⟩ : ∃ m, V1.heap.size = m := ⟨_, rfl⟩
      have hb2 : Below V1.heap.size V1 V2 := by rw [← hv2]; exact below_al _ _
      have hS2 : Hid (Keep (fun k => k ∈ G.bl p) A V2) := (hS1.out).trans (Keep.below (S := fun _ => False) hb2) (fun _ h _ => h.elim)
      have hX2 : Hid (GAt V2 p G ∧ True) := ⟨(hX1.out.1).below hb2, trivial⟩
      have hR2 : Hid (TsR V2 (some ⟨r2, 0, none⟩) 1 [s]) := by
        show TsR _ _ _ _
        rw [← hv2, ← hr2]
        exact TsR.one _ _
      rw [hv2, hr2]
      clear hv2 hr2 hb2
      refine hK1.out _ _ hS2.out ?_
      clear hK1
      intro _
      try simp only [Act.put, List.setIfInBounds_toArray, List.set_cons_zero, List.set_cons_succ]
      refine wpAnyH_ready (rs := [4]) (by kernel_rfl) (by simp) (AllReadyH.cons (i := 4) (o := { dst := some 15, op := Op.buildSlice 35 1 #[(0, Operand.tmp 14)], type := 35, pos := "law.go:18", after := #[{ on := 3, ground := Ground.data }], guard := none }) rfl ?_ AllReadyH.nil)
      · intro K1 hK1
        refine step_bs1 (by rfl) _ rfl x HV.out.1 (by rw [HXC.out]; rfl) ?_
        obtain ⟨V3, hv3⟩ : ∃ V, V2.alloc (.cells x.cells.toArray 34) = V := ⟨_, rfl⟩
        obtain ⟨r1, hr3⟩ : ∃ m, V2.heap.size = m := ⟨_, rfl⟩
        have hb3 : Below V2.heap.size V2 V3 := by rw [← hv3]; exact below_al _ _
        have hS3 : Hid (Keep (fun k => k ∈ G.bl p) A V3) := (hS2.out).trans (Keep.below (S := fun _ => False) hb3) (fun _ h _ => h.elim)
        have hX3 : Hid (GAt V3 p G ∧ TsR V3 (some ⟨r2, 0, none⟩) 1 [s] ∧ True) := ⟨(hX2.out.1).below hb3, (hR2.out).below hb3, trivial⟩
        have hR3 : Hid (VsR V3 (some ⟨r1, 0, none⟩) 1 [x]) := by
          show VsR _ _ _ _
          rw [← hv3, ← hr3]
          exact VsR.one _ _ HV.out
        rw [hv3, hr3]
        clear hv3 hr3 hb3
        refine hK1.out _ _ hS3.out ?_
        clear hK1
        intro _
        try simp only [Act.put, List.setIfInBounds_toArray, List.set_cons_zero, List.set_cons_succ]
        refine wpAnyH_ready (rs := [6]) (by kernel_rfl) (by simp) (AllReadyH.cons (i := 6) (o := { dst := some 17, op := Op.call { callee := Callee.value (Operand.func 22), args := #[Operand.tmp 11, Operand.tmp 12, Operand.tmp 13, Operand.tmp 15, Operand.tmp 16], argTypes := #[25, 34, 34, 35, 36] }, type := 40, pos := "law.go:18", after := #[{ on := 0, ground := Ground.data }, { on := 1, ground := Ground.data }, { on := 2, ground := Ground.data }, { on := 4, ground := Ground.data }, { on := 5, ground := Ground.data }, { on := 3, ground := Ground.chain }], guard := none }) rfl ?_ AllReadyH.nil)
        · intro K1 hK1
          rw [if_pos (by rfl)]
          have HC4 := HADD.out V3 r1 r2 (hX3.out.1) (hR3.out) (hX3.out.2.1)
          go_wp2_with fail
          refine HC4.mono ?_
          rintro e V4 ⟨rfl, G', hga4, hps4⟩
          dsimp only
          clear HC4
          have hS4 : Hid (Keep (fun k => k ∈ G.bl p) A V4) := (hS3.out).trans hga4.2.2 (fun _ h _ => h)
          have hX4 : Hid (GAt V4 p G' ∧ G'.ps = PS ∧ ∀ k ∈ G'.bl p, k ∈ G.bl p ∨ A.heap.size ≤ k) := ⟨hga4.1, hps4, fun k hk => (hga4.2.1 k hk).imp id (fun h => Nat.le_trans (hS3.out).size h)⟩
          clear hga4 hps4
          refine hK1.out _ _ hS4.out ?_
          clear hK1
          intro _
          try simp only [Act.put, List.setIfInBounds_toArray, List.set_cons_zero, List.set_cons_succ]
          refine wpAnyH_take (i := 7) (oi := { dst := some 4, op := Op.assign (Operand.tmp 17), type := 40, pos := "law.go:18", after := #[{ on := 6, ground := Ground.data }, { on := 6, ground := Ground.chain }, { on := 0, ground := Ground.phase }, { on := 1, ground := Ground.phase }, { on := 2, ground := Ground.phase }, { on := 3, ground := Ground.phase }, { on := 4, ground := Ground.phase }, { on := 5, ground := Ground.phase }, { on := 6, ground := Ground.phase }], guard := none }) (v := iv 0) rfl (by kernel_rfl) (by kernel_rfl) (by kernel_rfl) (fun _ _ _ h => h.elim) (Or.inl ⟨by rfl, ?y3⟩) hS4.out ?_
          case y3 =>
            intro V hV
            go_simp
          simp only [Act.put, List.setIfInBounds_toArray, List.set_cons_zero, List.set_cons_succ]
          refine wpAnyH_done (by kernel_rfl) ?_ _
          exact hQ V4 r1 r2 G' hS4.out hX4.out
  · intro K1 hK1
    refine step_bs9 (by rfl) _ rfl s HS.out ?_
    obtain ⟨V1, hv1⟩ : ∃ V, V0.alloc (.cells [Value.string s].toArray 9) = V := ⟨_, rfl⟩
    obtain ⟨r2, hr1⟩ : ∃ m, V0.heap.size = m := ⟨_, rfl⟩
    have hb1 : Below V0.heap.size V0 V1 := by rw [← hv1]; exact below_al _ _
    have hS1 : Hid (Keep (fun k => k ∈ G.bl p) A V1) := (hS0.out).trans (Keep.below (S := fun _ => False) hb1) (fun _ h _ => h.elim)
    have hX1 : Hid (GAt V1 p G ∧ True) := ⟨(hX0.out).below hb1, trivial⟩
    have hR1 : Hid (TsR V1 (some ⟨r2, 0, none⟩) 1 [s]) := by
      show TsR _ _ _ _
      rw [← hv1, ← hr1]
      exact TsR.one _ _
    rw [hv1, hr1]
    clear hv1 hr1 hb1
    refine hK1.out _ _ hS1.out ?_
    clear hK1
    intro _
    try simp only [Act.put, List.setIfInBounds_toArray, List.set_cons_zero, List.set_cons_succ]
    refine wpAnyH_ready (rs := [3]) (by kernel_rfl) (by simp) (AllReadyH.cons (i := 3) (o := { dst := some 14, op := Op.call { callee := Callee.value (Operand.func 29), args := #[Operand.const (Value.int IntKind.i64 5)], argTypes := #[3] }, type := 34, pos := "law.go:18", after := #[], guard := none }) rfl ?_ AllReadyH.nil)
    · intro K1 hK1
      rw [if_pos (by rfl)]
      have HC2 := HIDX.out V1
      go_wp2_with fail
      refine HC2.mono ?_
      rintro e V2 ⟨rfl, hb2⟩
      dsimp only
      clear HC2
      have hS2 : Hid (Keep (fun k => k ∈ G.bl p) A V2) := (hS1.out).trans (Keep.below (S := fun _ => False) hb2) (fun _ h _ => h.elim)
      have hX2 : Hid (GAt V2 p G ∧ TsR V2 (some ⟨r2, 0, none⟩) 1 [s] ∧ True) := ⟨(hX1.out.1).below hb2, (hR1.out).below hb2, trivial⟩
      clear hb2
      refine hK1.out _ _ hS2.out ?_
      clear hK1
      intro _
      try simp only [Act.put, List.setIfInBounds_toArray, List.set_cons_zero, List.set_cons_succ]
      refine wpAnyH_ready (rs := [4]) (by kernel_rfl) (by simp) (AllReadyH.cons (i := 4) (o := { dst := some 15, op := Op.buildSlice 35 1 #[(0, Operand.tmp 14)], type := 35, pos := "law.go:18", after := #[{ on := 3, ground := Ground.data }], guard := none }) rfl ?_ AllReadyH.nil)
      · intro K1 hK1
        refine step_bs1 (by rfl) _ rfl x HV.out.1 (by rw [HXC.out]; rfl) ?_
        obtain ⟨V3, hv3⟩ : ∃ V, V2.alloc (.cells x.cells.toArray 34) = V := ⟨_, rfl⟩
        obtain ⟨r1, hr3⟩ : ∃ m, V2.heap.size = m := ⟨_, rfl⟩
        have hb3 : Below V2.heap.size V2 V3 := by rw [← hv3]; exact below_al _ _
        have hS3 : Hid (Keep (fun k => k ∈ G.bl p) A V3) := (hS2.out).trans (Keep.below (S := fun _ => False) hb3) (fun _ h _ => h.elim)
        have hX3 : Hid (GAt V3 p G ∧ TsR V3 (some ⟨r2, 0, none⟩) 1 [s] ∧ True) := ⟨(hX2.out.1).below hb3, (hX2.out.2.1).below hb3, trivial⟩
        have hR3 : Hid (VsR V3 (some ⟨r1, 0, none⟩) 1 [x]) := by
          show VsR _ _ _ _
          rw [← hv3, ← hr3]
          exact VsR.one _ _ HV.out
        rw [hv3, hr3]
        clear hv3 hr3 hb3
        refine hK1.out _ _ hS3.out ?_
        clear hK1
        intro _
        try simp only [Act.put, List.setIfInBounds_toArray, List.set_cons_zero, List.set_cons_succ]
        refine wpAnyH_ready (rs := [6]) (by kernel_rfl) (by simp) (AllReadyH.cons (i := 6) (o := { dst := some 17, op := Op.call { callee := Callee.value (Operand.func 22), args := #[Operand.tmp 11, Operand.tmp 12, Operand.tmp 13, Operand.tmp 15, Operand.tmp 16], argTypes := #[25, 34, 34, 35, 36] }, type := 40, pos := "law.go:18", after := #[{ on := 0, ground := Ground.data }, { on := 1, ground := Ground.data }, { on := 2, ground := Ground.data }, { on := 4, ground := Ground.data }, { on := 5, ground := Ground.data }, { on := 3, ground := Ground.chain }], guard := none }) rfl ?_ AllReadyH.nil)
        · intro K1 hK1
          rw [if_pos (by rfl)]
          have HC4 := HADD.out V3 r1 r2 (hX3.out.1) (hR3.out) (hX3.out.2.1)
          go_wp2_with fail
          refine HC4.mono ?_
          rintro e V4 ⟨rfl, G', hga4, hps4⟩
          dsimp only
          clear HC4
          have hS4 : Hid (Keep (fun k => k ∈ G.bl p) A V4) := (hS3.out).trans hga4.2.2 (fun _ h _ => h)
          have hX4 : Hid (GAt V4 p G' ∧ G'.ps = PS ∧ ∀ k ∈ G'.bl p, k ∈ G.bl p ∨ A.heap.size ≤ k) := ⟨hga4.1, hps4, fun k hk => (hga4.2.1 k hk).imp id (fun h => Nat.le_trans (hS3.out).size h)⟩
          clear hga4 hps4
          refine hK1.out _ _ hS4.out ?_
          clear hK1
          intro _
          try simp only [Act.put, List.setIfInBounds_toArray, List.set_cons_zero, List.set_cons_succ]
          refine wpAnyH_take (i := 7) (oi := { dst := some 4, op := Op.assign (Operand.tmp 17), type := 40, pos := "law.go:18", after := #[{ on := 6, ground := Ground.data }, { on := 6, ground := Ground.chain }, { on := 0, ground := Ground.phase }, { on := 1, ground := Ground.phase }, { on := 2, ground := Ground.phase }, { on := 3, ground := Ground.phase }, { on := 4, ground := Ground.phase }, { on := 5, ground := Ground.phase }, { on := 6, ground := Ground.phase }], guard := none }) (v := iv 0) rfl (by kernel_rfl) (by kernel_rfl) (by kernel_rfl) (fun _ _ _ h => h.elim) (Or.inl ⟨by rfl, ?y4⟩) hS4.out ?_
          case y4 =>
            intro V hV
            go_simp
          simp only [Act.put, List.setIfInBounds_toArray, List.set_cons_zero, List.set_cons_succ]
          refine wpAnyH_done (by kernel_rfl) ?_ _
          exact hQ V4 r1 r2 G' hS4.out hX4.out
set_option maxRecDepth 100000 in
set_option maxHeartbeats 4000000 in
theorem lv4 {Q : Exit → Act → World → Prop} {x0 x3 x4 x5 x6 x7 x8 x9 x10 x11 x12 x13 x14 x15 x16 x17 x18 x19 x20 x21 x22 x23 x24 x25 x26 x27 x28 x29 x30 x31 x32 x33 x34 x35 x36 x37 x38 x39 x40 x41 x42 x43 x44 x45 x46 x47 x48 x49 x50 x51 x52 x53 x54 x55 x56 x57 x58 x59 x60 x61 x62 x63 x64 x65 x66 x67 x68 x69 x70 : Value} {ds : List Deferred} {A : World} {p d2 : Nat} {G : Gm} {x : Vx} {XC : List Value} {CT : List Value} {CU : List Value} {s : BA} {PS : List PL} 
    (HG : Hid (GAt A p G)) (HV : Hid (Vk x)) (HXC : Hid (x.cells = XC))  (HL2 : Hid (d2 < A.heap.size ∧ ¬ d2 ∈ G.bl p)) (HR2 : Hid (A.rangeAt d2 0 CT)) (HI2 : Hid ((Try.prog.info? 34).map (·.size) = some CT.length)) (HIDU : Hid (∀ W, Calls Try.prog 29 #[iv 5] W fun e w' => e = .returned (.agg CU.toArray) ∧ Below W.heap.size W w')) (HIDX : Hid (∀ W, Calls Try.prog 29 #[iv 6] W fun e w' => e = .returned (.agg XC.toArray) ∧ Below W.heap.size W w')) (HS : Hid (Value.string { data := #[98] } = .string s)) (HADD : Hid (∀ V r1 r2, GAt V p G → VsR V (some ⟨r1, 0, none⟩) 1 [x] → TsR V (some ⟨r2, 0, none⟩) 1 [s] → Calls Try.prog 22 #[.pointer (some ⟨p, 0, none⟩), .agg CT.toArray, .agg CU.toArray, .slice (some ⟨r1, 0, none⟩) 1 1, .slice (some ⟨r2, 0, none⟩) 1 1] V fun e w' => e = .returned (iv 0) ∧ ∃ G', GAfter V p G G' w' ∧ G'.ps = PS))
    (hQ : ∀ V3 r1 r2 G', Keep (fun k => k ∈ G.bl p) A V3 → (GAt V3 p G' ∧ G'.ps = PS ∧ ∀ k ∈ G'.bl p, k ∈ G.bl p ∨ A.heap.size ≤ k) → Q .normal { tmps := #[x0, .pointer (some ⟨p, 0, none⟩), .pointer (some ⟨d2, 0, none⟩), x3, x4, iv 0, x6, x7, x8, x9, x10, x11, x12, x13, x14, x15, x16, x17, .pointer (some ⟨p, 0, none⟩), .agg CT.toArray, .agg CU.toArray, .agg XC.toArray, .slice (some ⟨r1, 0, none⟩) 1 1, .slice (some ⟨r2, 0, none⟩) 1 1, iv 0, x25, x26, x27, x28, x29, x30, x31, x32, x33, x34, x35, x36, x37, x38, x39, x40, x41, x42, x43, x44, x45, x46, x47, x48, x49, x50, x51, x52, x53, x54, x55, x56, x57, x58, x59, x60, x61, x62, x63, x64, x65, x66, x67, x68, x69, x70], defers := ds } V3) :
    (Code.region 4 #[{ dst := some 18, op := Op.move (Operand.tmp 1), type := 25, pos := "law.go:19", after := #[], guard := none }, { dst := some 19, op := Op.load 34 (Operand.tmp 2), type := 34, pos := "law.go:19", after := #[], guard := none }, { dst := some 20, op := Op.call { callee := Callee.value (Operand.func 29), args := #[Operand.const (Value.int IntKind.i64 5)], argTypes := #[3] }, type := 34, pos := "law.go:19", after := #[], guard := none }, { dst := some 21, op := Op.call { callee := Callee.value (Operand.func 29), args := #[Operand.const (Value.int IntKind.i64 6)], argTypes := #[3] }, type := 34, pos := "law.go:19", after := #[{ on := 2, ground := Ground.chain }], guard := none }, { dst := some 22, op := Op.buildSlice 35 1 #[(0, Operand.tmp 21)], type := 35, pos := "law.go:19", after := #[{ on := 3, ground := Ground.data }], guard := none }, { dst := some 23, op := Op.buildSlice 36 1 #[(0, Operand.const (Value.string { data := #[98] }))], type := 36, pos := "law.go:19", after := #[], guard := none }, { dst := some 24, op := Op.call { callee := Callee.value (Operand.func 22), args := #[Operand.tmp 18, Operand.tmp 19, Operand.tmp 20, Operand.tmp 22, Operand.tmp 23], argTypes := #[25, 34, 34, 35, 36] }, type := 40, pos := "law.go:19", after := #[{ on := 0, ground := Ground.data }, { on := 1, ground := Ground.data }, { on := 2, ground := Ground.data }, { on := 4, ground := Ground.data }, { on := 5, ground := Ground.data }, { on := 3, ground := Ground.chain }], guard := none }, { dst := some 5, op := Op.assign (Operand.tmp 24), type := 40, pos := "law.go:19", after := #[{ on := 6, ground := Ground.data }, { on := 6, ground := Ground.chain }, { on := 0, ground := Ground.phase }, { on := 1, ground := Ground.phase }, { on := 2, ground := Ground.phase }, { on := 3, ground := Ground.phase }, { on := 4, ground := Ground.phase }, { on := 5, ground := Ground.phase }, { on := 6, ground := Ground.phase }], guard := none }] true).wp Try.prog Q { tmps := #[x0, .pointer (some ⟨p, 0, none⟩), .pointer (some ⟨d2, 0, none⟩), x3, x4, x5, x6, x7, x8, x9, x10, x11, x12, x13, x14, x15, x16, x17, x18, x19, x20, x21, x22, x23, x24, x25, x26, x27, x28, x29, x30, x31, x32, x33, x34, x35, x36, x37, x38, x39, x40, x41, x42, x43, x44, x45, x46, x47, x48, x49, x50, x51, x52, x53, x54, x55, x56, x57, x58, x59, x60, x61, x62, x63, x64, x65, x66, x67, x68, x69, x70], defers := ds } A := by
  refine Code.wp_mono (Q := fun x a' w' => match x with | .normal => Q .normal a' w' | _ => False) (by intro x a' w' h; cases x <;> first | exact h | exact h.elim) ?_
  refine wp_region_held (S := fun V => Keep (fun k => k ∈ G.bl p) A V) (by kernel_rfl) ?_
  have hS0 : Hid (Keep (fun k => k ∈ G.bl p) A A.drew) := (Keep.refl _ A).drew
  change wpAnyH Try.prog .any _ _ (fun V => Keep (fun k => k ∈ G.bl p) A V) 8 (Array.replicate 8 false) _ A.drew
  obtain ⟨V0, hV0⟩ : ∃ V0, A.drew = V0 := ⟨_, rfl⟩
  rw [hV0]
  rw [hV0] at hS0
  have hX0 : Hid (GAt V0 p G) := by
    show GAt V0 p G
    rw [← hV0]
    exact HG.out.below (below_drew0 A)
  clear hV0
  refine wpAnyH_take (i := 0) (oi := { dst := some 18, op := Op.move (Operand.tmp 1), type := 25, pos := "law.go:19", after := #[], guard := none }) (v := .pointer (some ⟨p, 0, none⟩)) rfl (by kernel_rfl) (by kernel_rfl) (by kernel_rfl) (fun _ _ _ h => h.elim) (Or.inl ⟨by rfl, ?y1⟩) hS0.out ?_
  case y1 =>
    intro V hV
    go_simp
  simp only [Act.put, List.setIfInBounds_toArray, List.set_cons_zero, List.set_cons_succ]
  refine wpAnyH_take (i := 1) (oi := { dst := some 19, op := Op.load 34 (Operand.tmp 2), type := 34, pos := "law.go:19", after := #[], guard := none }) (v := .agg CT.toArray) rfl (by kernel_rfl) (by kernel_rfl) (by kernel_rfl) (fun _ _ _ h => h.elim) (yieldsIf_load_mid (by rfl) _ _ rfl _ _ rfl (CT) _ (fun V hV => rangeAt_same (HR2.out) ((show Keep (fun k => k ∈ G.bl p) A V from hV).block _ (HL2.out.1) (HL2.out.2))) Try.underlying34 rfl (HI2.out)) hS0.out ?_
  simp only [Act.put, List.setIfInBounds_toArray, List.set_cons_zero, List.set_cons_succ]
  refine wpAnyH_ready (rs := [2, 5]) (by kernel_rfl) (by simp) (AllReadyH.cons (i := 2) (o := { dst := some 20, op := Op.call { callee := Callee.value (Operand.func 29), args := #[Operand.const (Value.int IntKind.i64 5)], argTypes := #[3] }, type := 34, pos := "law.go:19", after := #[], guard := none }) rfl ?_ (AllReadyH.cons (i := 5) (o := { dst := some 23, op := Op.buildSlice 36 1 #[(0, Operand.const (Value.string { data := #[98] }))], type := 36, pos := "law.go:19", after := #[], guard := none }) rfl ?_ AllReadyH.nil))
  · intro K1 hK1
    rw [if_pos (by rfl)]
    have HC1 := HIDU.out V0
    go_wp2_with fail
    refine HC1.mono ?_
    rintro e V1 ⟨rfl, hb1⟩
    dsimp only
    clear HC1
    have hS1 : Hid (Keep (fun k => k ∈ G.bl p) A V1) := (hS0.out).trans (Keep.below (S := fun _ => False) hb1) (fun _ h _ => h.elim)
    have hX1 : Hid (GAt V1 p G ∧ True) := ⟨(hX0.out).below hb1, trivial⟩
    clear hb1
    refine hK1.out _ _ hS1.out ?_
    clear hK1
    intro _
    try simp only [Act.put, List.setIfInBounds_toArray, List.set_cons_zero, List.set_cons_succ]
    refine wpAnyH_ready (rs := [3, 5]) (by kernel_rfl) (by simp) (AllReadyH.cons (i := 3) (o := { dst := some 21, op := Op.call { callee := Callee.value (Operand.func 29), args := #[Operand.const (Value.int IntKind.i64 6)], argTypes := #[3] }, type := 34, pos := "law.go:19", after := #[{ on := 2, ground := Ground.chain }], guard := none }) rfl ?_ (AllReadyH.cons (i := 5) (o := { dst := some 23, op := Op.buildSlice 36 1 #[(0, Operand.const (Value.string { data := #[98] }))], type := 36, pos := "law.go:19", after := #[], guard := none }) rfl ?_ AllReadyH.nil))
    · intro K1 hK1
      rw [if_pos (by rfl)]
      have HC2 := HIDX.out V1
      go_wp2_with fail
      refine HC2.mono ?_
      rintro e V2 ⟨rfl, hb2⟩
      dsimp only
      clear HC2
      have hS2 : Hid (Keep (fun k => k ∈ G.bl p) A V2) := (hS1.out).trans (Keep.below (S := fun _ => False) hb2) (fun _ h _ => h.elim)
      have hX2 : Hid (GAt V2 p G ∧ True) := ⟨(hX1.out.1).below hb2, trivial⟩
      clear hb2
      refine hK1.out _ _ hS2.out ?_
      clear hK1
      intro _
      try simp only [Act.put, List.setIfInBounds_toArray, List.set_cons_zero, List.set_cons_succ]
      refine wpAnyH_ready (rs := [4, 5]) (by kernel_rfl) (by simp) (AllReadyH.cons (i := 4) (o := { dst := some 22, op := Op.buildSlice 35 1 #[(0, Operand.tmp 21)], type := 35, pos := "law.go:19", after := #[{ on := 3, ground := Ground.data }], guard := none }) rfl ?_ (AllReadyH.cons (i := 5) (o := { dst := some 23, op := Op.buildSlice 36 1 #[(0, Operand.const (Value.string { data := #[98] }))], type := 36, pos := "law.go:19", after := #[], guard := none }) rfl ?_ AllReadyH.nil))
      · intro K1 hK1
        refine step_bs1 (by rfl) _ rfl x HV.out.1 (by rw [HXC.out]; rfl) ?_
        obtain ⟨V3, hv3⟩ : ∃ V, V2.alloc (.cells x.cells.toArray 34) = V := ⟨_, rfl⟩
        obtain ⟨r1, hr3⟩ : ∃ m, V2.heap.size = m := ⟨_, rfl⟩
        have hb3 : Below V2.heap.size V2 V3 := by rw [← hv3]; exact below_al _ _
        have hS3 : Hid (Keep (fun k => k ∈ G.bl p) A V3) := (hS2.out).trans (Keep.below (S := fun _ => False) hb3) (fun _ h _ => h.elim)
        have hX3 : Hid (GAt V3 p G ∧ True) := ⟨(hX2.out.1).below hb3, trivial⟩
        have hR3 : Hid (VsR V3 (some ⟨r1, 0, none⟩) 1 [x]) := by
          show VsR _ _ _ _
          rw [← hv3, ← hr3]
          exact VsR.one _ _ HV.out
        rw [hv3, hr3]
        clear hv3 hr3 hb3
        refine hK1.out _ _ hS3.out ?_
        clear hK1
        intro _
        try simp only [Act.put, List.setIfInBounds_toArray, List.set_cons_zero, List.set_cons_succ]
        refine wpAnyH_ready (rs := [5]) (by kernel_rfl) (by simp) (AllReadyH.cons (i := 5) (o := { dst := some 23, op := Op.buildSlice 36 1 #[(0, Operand.const (Value.string { data := #[98] }))], type := 36, pos := "law.go:19", after := #[], guard := none }) rfl ?_ AllReadyH.nil)
        · intro K1 hK1
          refine step_bs9 (by rfl) _ rfl s HS.out ?_
          obtain ⟨V4, hv4⟩ : ∃ V, V3.alloc (.cells [Value.string s].toArray 9) = V := ⟨_, rfl⟩
          obtain ⟨r2, hr4⟩ : ∃ m, V3.heap.size = m := ⟨_, rfl⟩
          have hb4 : Below V3.heap.size V3 V4 := by rw [← hv4]; exact below_al _ _
          have hS4 : Hid (Keep (fun k => k ∈ G.bl p) A V4) := (hS3.out).trans (Keep.below (S := fun _ => False) hb4) (fun _ h _ => h.elim)
          have hX4 : Hid (GAt V4 p G ∧ VsR V4 (some ⟨r1, 0, none⟩) 1 [x] ∧ True) := ⟨(hX3.out.1).below hb4, (hR3.out).below hb4, trivial⟩
          have hR4 : Hid (TsR V4 (some ⟨r2, 0, none⟩) 1 [s]) := by
            show TsR _ _ _ _
            rw [← hv4, ← hr4]
            exact TsR.one _ _
          rw [hv4, hr4]
          clear hv4 hr4 hb4
          refine hK1.out _ _ hS4.out ?_
          clear hK1
          intro _
          try simp only [Act.put, List.setIfInBounds_toArray, List.set_cons_zero, List.set_cons_succ]
          refine wpAnyH_ready (rs := [6]) (by kernel_rfl) (by simp) (AllReadyH.cons (i := 6) (o := { dst := some 24, op := Op.call { callee := Callee.value (Operand.func 22), args := #[Operand.tmp 18, Operand.tmp 19, Operand.tmp 20, Operand.tmp 22, Operand.tmp 23], argTypes := #[25, 34, 34, 35, 36] }, type := 40, pos := "law.go:19", after := #[{ on := 0, ground := Ground.data }, { on := 1, ground := Ground.data }, { on := 2, ground := Ground.data }, { on := 4, ground := Ground.data }, { on := 5, ground := Ground.data }, { on := 3, ground := Ground.chain }], guard := none }) rfl ?_ AllReadyH.nil)
          · intro K1 hK1
            rw [if_pos (by rfl)]
            have HC5 := HADD.out V4 r1 r2 (hX4.out.1) (hX4.out.2.1) (hR4.out)
            go_wp2_with fail
            refine HC5.mono ?_
            rintro e V5 ⟨rfl, G', hga5, hps5⟩
            dsimp only
            clear HC5
            have hS5 : Hid (Keep (fun k => k ∈ G.bl p) A V5) := (hS4.out).trans hga5.2.2 (fun _ h _ => h)
            have hX5 : Hid (GAt V5 p G' ∧ G'.ps = PS ∧ ∀ k ∈ G'.bl p, k ∈ G.bl p ∨ A.heap.size ≤ k) := ⟨hga5.1, hps5, fun k hk => (hga5.2.1 k hk).imp id (fun h => Nat.le_trans (hS4.out).size h)⟩
            clear hga5 hps5
            refine hK1.out _ _ hS5.out ?_
            clear hK1
            intro _
            try simp only [Act.put, List.setIfInBounds_toArray, List.set_cons_zero, List.set_cons_succ]
            refine wpAnyH_take (i := 7) (oi := { dst := some 5, op := Op.assign (Operand.tmp 24), type := 40, pos := "law.go:19", after := #[{ on := 6, ground := Ground.data }, { on := 6, ground := Ground.chain }, { on := 0, ground := Ground.phase }, { on := 1, ground := Ground.phase }, { on := 2, ground := Ground.phase }, { on := 3, ground := Ground.phase }, { on := 4, ground := Ground.phase }, { on := 5, ground := Ground.phase }, { on := 6, ground := Ground.phase }], guard := none }) (v := iv 0) rfl (by kernel_rfl) (by kernel_rfl) (by kernel_rfl) (fun _ _ _ h => h.elim) (Or.inl ⟨by rfl, ?y2⟩) hS5.out ?_
            case y2 =>
              intro V hV
              go_simp
            simp only [Act.put, List.setIfInBounds_toArray, List.set_cons_zero, List.set_cons_succ]
            refine wpAnyH_done (by kernel_rfl) ?_ _
            exact hQ V5 r1 r2 G' hS5.out hX5.out
      · intro K1 hK1
        refine step_bs9 (by rfl) _ rfl s HS.out ?_
        obtain ⟨V3, hv3⟩ : ∃ V, V2.alloc (.cells [Value.string s].toArray 9) = V := ⟨_, rfl⟩
        obtain ⟨r2, hr3⟩ : ∃ m, V2.heap.size = m := ⟨_, rfl⟩
        have hb3 : Below V2.heap.size V2 V3 := by rw [← hv3]; exact below_al _ _
        have hS3 : Hid (Keep (fun k => k ∈ G.bl p) A V3) := (hS2.out).trans (Keep.below (S := fun _ => False) hb3) (fun _ h _ => h.elim)
        have hX3 : Hid (GAt V3 p G ∧ True) := ⟨(hX2.out.1).below hb3, trivial⟩
        have hR3 : Hid (TsR V3 (some ⟨r2, 0, none⟩) 1 [s]) := by
          show TsR _ _ _ _
          rw [← hv3, ← hr3]
          exact TsR.one _ _
        rw [hv3, hr3]
        clear hv3 hr3 hb3
        refine hK1.out _ _ hS3.out ?_
        clear hK1
        intro _
        try simp only [Act.put, List.setIfInBounds_toArray, List.set_cons_zero, List.set_cons_succ]
        refine wpAnyH_ready (rs := [4]) (by kernel_rfl) (by simp) (AllReadyH.cons (i := 4) (o := { dst := some 22, op := Op.buildSlice 35 1 #[(0, Operand.tmp 21)], type := 35, pos := "law.go:19", after := #[{ on := 3, ground := Ground.data }], guard := none }) rfl ?_ AllReadyH.nil)
        · intro K1 hK1
          refine step_bs1 (by rfl) _ rfl x HV.out.1 (by rw [HXC.out]; rfl) ?_
          obtain ⟨V4, hv4⟩ : ∃ V, V3.alloc (.cells x.cells.toArray 34) = V := ⟨_, rfl⟩
          obtain ⟨r1, hr4⟩ : ∃ m, V3.heap.size = m := ⟨_, rfl⟩
          have hb4 : Below V3.heap.size V3 V4 := by rw [← hv4]; exact below_al _ _
          have hS4 : Hid (Keep (fun k => k ∈ G.bl p) A V4) := (hS3.out).trans (Keep.below (S := fun _ => False) hb4) (fun _ h _ => h.elim)
          have hX4 : Hid (GAt V4 p G ∧ TsR V4 (some ⟨r2, 0, none⟩) 1 [s] ∧ True) := ⟨(hX3.out.1).below hb4, (hR3.out).below hb4, trivial⟩
          have hR4 : Hid (VsR V4 (some ⟨r1, 0, none⟩) 1 [x]) := by
            show VsR _ _ _ _
            rw [← hv4, ← hr4]
            exact VsR.one _ _ HV.out
          rw [hv4, hr4]
          clear hv4 hr4 hb4
          refine hK1.out _ _ hS4.out ?_
          clear hK1
          intro _
          try simp only [Act.put, List.setIfInBounds_toArray, List.set_cons_zero, List.set_cons_succ]
          refine wpAnyH_ready (rs := [6]) (by kernel_rfl) (by simp) (AllReadyH.cons (i := 6) (o := { dst := some 24, op := Op.call { callee := Callee.value (Operand.func 22), args := #[Operand.tmp 18, Operand.tmp 19, Operand.tmp 20, Operand.tmp 22, Operand.tmp 23], argTypes := #[25, 34, 34, 35, 36] }, type := 40, pos := "law.go:19", after := #[{ on := 0, ground := Ground.data }, { on := 1, ground := Ground.data }, { on := 2, ground := Ground.data }, { on := 4, ground := Ground.data }, { on := 5, ground := Ground.data }, { on := 3, ground := Ground.chain }], guard := none }) rfl ?_ AllReadyH.nil)
          · intro K1 hK1
            rw [if_pos (by rfl)]
            have HC5 := HADD.out V4 r1 r2 (hX4.out.1) (hR4.out) (hX4.out.2.1)
            go_wp2_with fail
            refine HC5.mono ?_
            rintro e V5 ⟨rfl, G', hga5, hps5⟩
            dsimp only
            clear HC5
            have hS5 : Hid (Keep (fun k => k ∈ G.bl p) A V5) := (hS4.out).trans hga5.2.2 (fun _ h _ => h)
            have hX5 : Hid (GAt V5 p G' ∧ G'.ps = PS ∧ ∀ k ∈ G'.bl p, k ∈ G.bl p ∨ A.heap.size ≤ k) := ⟨hga5.1, hps5, fun k hk => (hga5.2.1 k hk).imp id (fun h => Nat.le_trans (hS4.out).size h)⟩
            clear hga5 hps5
            refine hK1.out _ _ hS5.out ?_
            clear hK1
            intro _
            try simp only [Act.put, List.setIfInBounds_toArray, List.set_cons_zero, List.set_cons_succ]
            refine wpAnyH_take (i := 7) (oi := { dst := some 5, op := Op.assign (Operand.tmp 24), type := 40, pos := "law.go:19", after := #[{ on := 6, ground := Ground.data }, { on := 6, ground := Ground.chain }, { on := 0, ground := Ground.phase }, { on := 1, ground := Ground.phase }, { on := 2, ground := Ground.phase }, { on := 3, ground := Ground.phase }, { on := 4, ground := Ground.phase }, { on := 5, ground := Ground.phase }, { on := 6, ground := Ground.phase }], guard := none }) (v := iv 0) rfl (by kernel_rfl) (by kernel_rfl) (by kernel_rfl) (fun _ _ _ h => h.elim) (Or.inl ⟨by rfl, ?y3⟩) hS5.out ?_
            case y3 =>
              intro V hV
              go_simp
            simp only [Act.put, List.setIfInBounds_toArray, List.set_cons_zero, List.set_cons_succ]
            refine wpAnyH_done (by kernel_rfl) ?_ _
            exact hQ V5 r1 r2 G' hS5.out hX5.out
    · intro K1 hK1
      refine step_bs9 (by rfl) _ rfl s HS.out ?_
      obtain ⟨V2, hv2⟩ : ∃ V, V1.alloc (.cells [Value.string s].toArray 9) = V := ⟨_, rfl⟩
      obtain ⟨r2, hr2⟩ : ∃ m, V1.heap.size = m := ⟨_, rfl⟩
      have hb2 : Below V1.heap.size V1 V2 := by rw [← hv2]; exact below_al _ _
      have hS2 : Hid (Keep (fun k => k ∈ G.bl p) A V2) := (hS1.out).trans (Keep.below (S := fun _ => False) hb2) (fun _ h _ => h.elim)
      have hX2 : Hid (GAt V2 p G ∧ True) := ⟨(hX1.out.1).below hb2, trivial⟩
      have hR2 : Hid (TsR V2 (some ⟨r2, 0, none⟩) 1 [s]) := by
        show TsR _ _ _ _
        rw [← hv2, ← hr2]
        exact TsR.one _ _
      rw [hv2, hr2]
      clear hv2 hr2 hb2
      refine hK1.out _ _ hS2.out ?_
      clear hK1
      intro _
      try simp only [Act.put, List.setIfInBounds_toArray, List.set_cons_zero, List.set_cons_succ]
      refine wpAnyH_ready (rs := [3]) (by kernel_rfl) (by simp) (AllReadyH.cons (i := 3) (o := { dst := some 21, op := Op.call { callee := Callee.value (Operand.func 29), args := #[Operand.const (Value.int IntKind.i64 6)], argTypes := #[3] }, type := 34, pos := "law.go:19", after := #[{ on := 2, ground := Ground.chain }], guard := none }) rfl ?_ AllReadyH.nil)
      · intro K1 hK1
        rw [if_pos (by rfl)]
        have HC3 := HIDX.out V2
        go_wp2_with fail
        refine HC3.mono ?_
        rintro e V3 ⟨rfl, hb3⟩
        dsimp only
        clear HC3
        have hS3 : Hid (Keep (fun k => k ∈ G.bl p) A V3) := (hS2.out).trans (Keep.below (S := fun _ => False) hb3) (fun _ h _ => h.elim)
        have hX3 : Hid (GAt V3 p G ∧ TsR V3 (some ⟨r2, 0, none⟩) 1 [s] ∧ True) := ⟨(hX2.out.1).below hb3, (hR2.out).below hb3, trivial⟩
        clear hb3
        refine hK1.out _ _ hS3.out ?_
        clear hK1
        intro _
        try simp only [Act.put, List.setIfInBounds_toArray, List.set_cons_zero, List.set_cons_succ]
        refine wpAnyH_ready (rs := [4]) (by kernel_rfl) (by simp) (AllReadyH.cons (i := 4) (o := { dst := some 22, op := Op.buildSlice 35 1 #[(0, Operand.tmp 21)], type := 35, pos := "law.go:19", after := #[{ on := 3, ground := Ground.data }], guard := none }) rfl ?_ AllReadyH.nil)
        · intro K1 hK1
          refine step_bs1 (by rfl) _ rfl x HV.out.1 (by rw [HXC.out]; rfl) ?_
          obtain ⟨V4, hv4⟩ : ∃ V, V3.alloc (.cells x.cells.toArray 34) = V := ⟨_, rfl⟩
          obtain ⟨r1, hr4⟩ : ∃ m, V3.heap.size = m := ⟨_, rfl⟩
          have hb4 : Below V3.heap.size V3 V4 := by rw [← hv4]; exact below_al _ _
          have hS4 : Hid (Keep (fun k => k ∈ G.bl p) A V4) := (hS3.out).trans (Keep.below (S := fun _ => False) hb4) (fun _ h _ => h.elim)
          have hX4 : Hid (GAt V4 p G ∧ TsR V4 (some ⟨r2, 0, none⟩) 1 [s] ∧ True) := ⟨(hX3.out.1).below hb4, (hX3.out.2.1).below hb4, trivial⟩
          have hR4 : Hid (VsR V4 (some ⟨r1, 0, none⟩) 1 [x]) := by
            show VsR _ _ _ _
            rw [← hv4, ← hr4]
            exact VsR.one _ _ HV.out
          rw [hv4, hr4]
          clear hv4 hr4 hb4
          refine hK1.out _ _ hS4.out ?_
          clear hK1
          intro _
          try simp only [Act.put, List.setIfInBounds_toArray, List.set_cons_zero, List.set_cons_succ]
          refine wpAnyH_ready (rs := [6]) (by kernel_rfl) (by simp) (AllReadyH.cons (i := 6) (o := { dst := some 24, op := Op.call { callee := Callee.value (Operand.func 22), args := #[Operand.tmp 18, Operand.tmp 19, Operand.tmp 20, Operand.tmp 22, Operand.tmp 23], argTypes := #[25, 34, 34, 35, 36] }, type := 40, pos := "law.go:19", after := #[{ on := 0, ground := Ground.data }, { on := 1, ground := Ground.data }, { on := 2, ground := Ground.data }, { on := 4, ground := Ground.data }, { on := 5, ground := Ground.data }, { on := 3, ground := Ground.chain }], guard := none }) rfl ?_ AllReadyH.nil)
          · intro K1 hK1
            rw [if_pos (by rfl)]
            have HC5 := HADD.out V4 r1 r2 (hX4.out.1) (hR4.out) (hX4.out.2.1)
            go_wp2_with fail
            refine HC5.mono ?_
            rintro e V5 ⟨rfl, G', hga5, hps5⟩
            dsimp only
            clear HC5
            have hS5 : Hid (Keep (fun k => k ∈ G.bl p) A V5) := (hS4.out).trans hga5.2.2 (fun _ h _ => h)
            have hX5 : Hid (GAt V5 p G' ∧ G'.ps = PS ∧ ∀ k ∈ G'.bl p, k ∈ G.bl p ∨ A.heap.size ≤ k) := ⟨hga5.1, hps5, fun k hk => (hga5.2.1 k hk).imp id (fun h => Nat.le_trans (hS4.out).size h)⟩
            clear hga5 hps5
            refine hK1.out _ _ hS5.out ?_
            clear hK1
            intro _
            try simp only [Act.put, List.setIfInBounds_toArray, List.set_cons_zero, List.set_cons_succ]
            refine wpAnyH_take (i := 7) (oi := { dst := some 5, op := Op.assign (Operand.tmp 24), type := 40, pos := "law.go:19", after := #[{ on := 6, ground := Ground.data }, { on := 6, ground := Ground.chain }, { on := 0, ground := Ground.phase }, { on := 1, ground := Ground.phase }, { on := 2, ground := Ground.phase }, { on := 3, ground := Ground.phase }, { on := 4, ground := Ground.phase }, { on := 5, ground := Ground.phase }, { on := 6, ground := Ground.phase }], guard := none }) (v := iv 0) rfl (by kernel_rfl) (by kernel_rfl) (by kernel_rfl) (fun _ _ _ h => h.elim) (Or.inl ⟨by rfl, ?y4⟩) hS5.out ?_
            case y4 =>
              intro V hV
              go_simp
            simp only [Act.put, List.setIfInBounds_toArray, List.set_cons_zero, List.set_cons_succ]
            refine wpAnyH_done (by kernel_rfl) ?_ _
            exact hQ V5 r1 r2 G' hS5.out hX5.out
  · intro K1 hK1
    refine step_bs9 (by rfl) _ rfl s HS.out ?_
    obtain ⟨V1, hv1⟩ : ∃ V, V0.alloc (.cells [Value.string s].toArray 9) = V := ⟨_, rfl⟩
    obtain ⟨r2, hr1⟩ : ∃ m, V0.heap.size = m := ⟨_, rfl⟩
    have hb1 : Below V0.heap.size V0 V1 := by rw [← hv1]; exact below_al _ _
    have hS1 : Hid (Keep (fun k => k ∈ G.bl p) A V1) := (hS0.out).trans (Keep.below (S := fun _ => False) hb1) (fun _ h _ => h.elim)
    have hX1 : Hid (GAt V1 p G ∧ True) := ⟨(hX0.out).below hb1, trivial⟩
    have hR1 : Hid (TsR V1 (some ⟨r2, 0, none⟩) 1 [s]) := by
      show TsR _ _ _ _
      rw [← hv1, ← hr1]
      exact TsR.one _ _
    rw [hv1, hr1]
    clear hv1 hr1 hb1
    refine hK1.out _ _ hS1.out ?_
    clear hK1
    intro _
    try simp only [Act.put, List.setIfInBounds_toArray, List.set_cons_zero, List.set_cons_succ]
    refine wpAnyH_ready (rs := [2]) (by kernel_rfl) (by simp) (AllReadyH.cons (i := 2) (o := { dst := some 20, op := Op.call { callee := Callee.value (Operand.func 29), args := #[Operand.const (Value.int IntKind.i64 5)], argTypes := #[3] }, type := 34, pos := "law.go:19", after := #[], guard := none }) rfl ?_ AllReadyH.nil)
    · intro K1 hK1
      rw [if_pos (by rfl)]
      have HC2 := HIDU.out V1
      go_wp2_with fail
      refine HC2.mono ?_
      rintro e V2 ⟨rfl, hb2⟩
      dsimp only
      clear HC2
      have hS2 : Hid (Keep (fun k => k ∈ G.bl p) A V2) := (hS1.out).trans (Keep.below (S := fun _ => False) hb2) (fun _ h _ => h.elim)
      have hX2 : Hid (GAt V2 p G ∧ TsR V2 (some ⟨r2, 0, none⟩) 1 [s] ∧ True) := ⟨(hX1.out.1).below hb2, (hR1.out).below hb2, trivial⟩
      clear hb2
      refine hK1.out _ _ hS2.out ?_
      clear hK1
      intro _
      try simp only [Act.put, List.setIfInBounds_toArray, List.set_cons_zero, List.set_cons_succ]
      refine wpAnyH_ready (rs := [3]) (by kernel_rfl) (by simp) (AllReadyH.cons (i := 3) (o := { dst := some 21, op := Op.call { callee := Callee.value (Operand.func 29), args := #[Operand.const (Value.int IntKind.i64 6)], argTypes := #[3] }, type := 34, pos := "law.go:19", after := #[{ on := 2, ground := Ground.chain }], guard := none }) rfl ?_ AllReadyH.nil)
      · intro K1 hK1
        rw [if_pos (by rfl)]
        have HC3 := HIDX.out V2
        go_wp2_with fail
        refine HC3.mono ?_
        rintro e V3 ⟨rfl, hb3⟩
        dsimp only
        clear HC3
        have hS3 : Hid (Keep (fun k => k ∈ G.bl p) A V3) := (hS2.out).trans (Keep.below (S := fun _ => False) hb3) (fun _ h _ => h.elim)
        have hX3 : Hid (GAt V3 p G ∧ TsR V3 (some ⟨r2, 0, none⟩) 1 [s] ∧ True) := ⟨(hX2.out.1).below hb3, (hX2.out.2.1).below hb3, trivial⟩
        clear hb3
        refine hK1.out _ _ hS3.out ?_
        clear hK1
        intro _
        try simp only [Act.put, List.setIfInBounds_toArray, List.set_cons_zero, List.set_cons_succ]
        refine wpAnyH_ready (rs := [4]) (by kernel_rfl) (by simp) (AllReadyH.cons (i := 4) (o := { dst := some 22, op := Op.buildSlice 35 1 #[(0, Operand.tmp 21)], type := 35, pos := "law.go:19", after := #[{ on := 3, ground := Ground.data }], guard := none }) rfl ?_ AllReadyH.nil)
        · intro K1 hK1
          refine step_bs1 (by rfl) _ rfl x HV.out.1 (by rw [HXC.out]; rfl) ?_
          obtain ⟨V4, hv4⟩ : ∃ V, V3.alloc (.cells x.cells.toArray 34) = V := ⟨_, rfl⟩
          obtain ⟨r1, hr4⟩ : ∃ m, V3.heap.size = m := ⟨_, rfl⟩
          have hb4 : Below V3.heap.size V3 V4 := by rw [← hv4]; exact below_al _ _
          have hS4 : Hid (Keep (fun k => k ∈ G.bl p) A V4) := (hS3.out).trans (Keep.below (S := fun _ => False) hb4) (fun _ h _ => h.elim)
          have hX4 : Hid (GAt V4 p G ∧ TsR V4 (some ⟨r2, 0, none⟩) 1 [s] ∧ True) := ⟨(hX3.out.1).below hb4, (hX3.out.2.1).below hb4, trivial⟩
          have hR4 : Hid (VsR V4 (some ⟨r1, 0, none⟩) 1 [x]) := by
            show VsR _ _ _ _
            rw [← hv4, ← hr4]
            exact VsR.one _ _ HV.out
          rw [hv4, hr4]
          clear hv4 hr4 hb4
          refine hK1.out _ _ hS4.out ?_
          clear hK1
          intro _
          try simp only [Act.put, List.setIfInBounds_toArray, List.set_cons_zero, List.set_cons_succ]
          refine wpAnyH_ready (rs := [6]) (by kernel_rfl) (by simp) (AllReadyH.cons (i := 6) (o := { dst := some 24, op := Op.call { callee := Callee.value (Operand.func 22), args := #[Operand.tmp 18, Operand.tmp 19, Operand.tmp 20, Operand.tmp 22, Operand.tmp 23], argTypes := #[25, 34, 34, 35, 36] }, type := 40, pos := "law.go:19", after := #[{ on := 0, ground := Ground.data }, { on := 1, ground := Ground.data }, { on := 2, ground := Ground.data }, { on := 4, ground := Ground.data }, { on := 5, ground := Ground.data }, { on := 3, ground := Ground.chain }], guard := none }) rfl ?_ AllReadyH.nil)
          · intro K1 hK1
            rw [if_pos (by rfl)]
            have HC5 := HADD.out V4 r1 r2 (hX4.out.1) (hR4.out) (hX4.out.2.1)
            go_wp2_with fail
            refine HC5.mono ?_
            rintro e V5 ⟨rfl, G', hga5, hps5⟩
            dsimp only
            clear HC5
            have hS5 : Hid (Keep (fun k => k ∈ G.bl p) A V5) := (hS4.out).trans hga5.2.2 (fun _ h _ => h)
            have hX5 : Hid (GAt V5 p G' ∧ G'.ps = PS ∧ ∀ k ∈ G'.bl p, k ∈ G.bl p ∨ A.heap.size ≤ k) := ⟨hga5.1, hps5, fun k hk => (hga5.2.1 k hk).imp id (fun h => Nat.le_trans (hS4.out).size h)⟩
            clear hga5 hps5
            refine hK1.out _ _ hS5.out ?_
            clear hK1
            intro _
            try simp only [Act.put, List.setIfInBounds_toArray, List.set_cons_zero, List.set_cons_succ]
            refine wpAnyH_take (i := 7) (oi := { dst := some 5, op := Op.assign (Operand.tmp 24), type := 40, pos := "law.go:19", after := #[{ on := 6, ground := Ground.data }, { on := 6, ground := Ground.chain }, { on := 0, ground := Ground.phase }, { on := 1, ground := Ground.phase }, { on := 2, ground := Ground.phase }, { on := 3, ground := Ground.phase }, { on := 4, ground := Ground.phase }, { on := 5, ground := Ground.phase }, { on := 6, ground := Ground.phase }], guard := none }) (v := iv 0) rfl (by kernel_rfl) (by kernel_rfl) (by kernel_rfl) (fun _ _ _ h => h.elim) (Or.inl ⟨by rfl, ?y5⟩) hS5.out ?_
            case y5 =>
              intro V hV
              go_simp
            simp only [Act.put, List.setIfInBounds_toArray, List.set_cons_zero, List.set_cons_succ]
            refine wpAnyH_done (by kernel_rfl) ?_ _
            exact hQ V5 r1 r2 G' hS5.out hX5.out
set_option maxRecDepth 100000 in
set_option maxHeartbeats 4000000 in
theorem lv5 {Q : Exit → Act → World → Prop} {x0 x2 x4 x5 x6 x7 x8 x9 x10 x11 x12 x13 x14 x15 x16 x17 x18 x19 x20 x21 x22 x23 x24 x25 x26 x27 x28 x29 x30 x31 x32 x33 x34 x35 x36 x37 x38 x39 x40 x41 x42 x43 x44 x45 x46 x47 x48 x49 x50 x51 x52 x53 x54 x55 x56 x57 x58 x59 x60 x61 x62 x63 x64 x65 x66 x67 x68 x69 x70 : Value} {ds : List Deferred} {A : World} {p d3 : Nat} {G : Gm} {x : Vx} {XC : List Value} {CB : List Value} {CU : List Value} {s : BA} {PS : List PL} 
    (HG : Hid (GAt A p G)) (HV : Hid (Vk x)) (HXC : Hid (x.cells = XC))  (HL3 : Hid (d3 < A.heap.size ∧ ¬ d3 ∈ G.bl p)) (HR3 : Hid (A.rangeAt d3 0 CB)) (HI3 : Hid ((Try.prog.info? 34).map (·.size) = some CB.length)) (HIDU : Hid (∀ W, Calls Try.prog 29 #[iv 5] W fun e w' => e = .returned (.agg CU.toArray) ∧ Below W.heap.size W w')) (HIDX : Hid (∀ W, Calls Try.prog 29 #[iv 7] W fun e w' => e = .returned (.agg XC.toArray) ∧ Below W.heap.size W w')) (HS : Hid (Value.string { data := #[99] } = .string s)) (HADD : Hid (∀ V r1 r2, GAt V p G → VsR V (some ⟨r1, 0, none⟩) 1 [x] → TsR V (some ⟨r2, 0, none⟩) 1 [s] → Calls Try.prog 22 #[.pointer (some ⟨p, 0, none⟩), .agg CU.toArray, .agg CB.toArray, .slice (some ⟨r1, 0, none⟩) 1 1, .slice (some ⟨r2, 0, none⟩) 1 1] V fun e w' => e = .returned (iv 0) ∧ ∃ G', GAfter V p G G' w' ∧ G'.ps = PS))
    (hQ : ∀ V3 r1 r2 G', Keep (fun k => k ∈ G.bl p) A V3 → (GAt V3 p G' ∧ G'.ps = PS ∧ ∀ k ∈ G'.bl p, k ∈ G.bl p ∨ A.heap.size ≤ k) → Q .normal { tmps := #[x0, .pointer (some ⟨p, 0, none⟩), x2, .pointer (some ⟨d3, 0, none⟩), x4, x5, iv 0, x7, x8, x9, x10, x11, x12, x13, x14, x15, x16, x17, x18, x19, x20, x21, x22, x23, x24, .pointer (some ⟨p, 0, none⟩), .agg CU.toArray, .agg CB.toArray, .agg XC.toArray, .slice (some ⟨r1, 0, none⟩) 1 1, .slice (some ⟨r2, 0, none⟩) 1 1, iv 0, x32, x33, x34, x35, x36, x37, x38, x39, x40, x41, x42, x43, x44, x45, x46, x47, x48, x49, x50, x51, x52, x53, x54, x55, x56, x57, x58, x59, x60, x61, x62, x63, x64, x65, x66, x67, x68, x69, x70], defers := ds } V3) :
    (Code.region 5 #[{ dst := some 25, op := Op.move (Operand.tmp 1), type := 25, pos := "law.go:20", after := #[], guard := none }, { dst := some 26, op := Op.call { callee := Callee.value (Operand.func 29), args := #[Operand.const (Value.int IntKind.i64 5)], argTypes := #[3] }, type := 34, pos := "law.go:20", after := #[], guard := none }, { dst := some 27, op := Op.load 34 (Operand.tmp 3), type := 34, pos := "law.go:20", after := #[], guard := none }, { dst := some 28, op := Op.call { callee := Callee.value (Operand.func 29), args := #[Operand.const (Value.int IntKind.i64 7)], argTypes := #[3] }, type := 34, pos := "law.go:20", after := #[{ on := 1, ground := Ground.chain }], guard := none }, { dst := some 29, op := Op.buildSlice 35 1 #[(0, Operand.tmp 28)], type := 35, pos := "law.go:20", after := #[{ on := 3, ground := Ground.data }], guard := none }, { dst := some 30, op := Op.buildSlice 36 1 #[(0, Operand.const (Value.string { data := #[99] }))], type := 36, pos := "law.go:20", after := #[], guard := none }, { dst := some 31, op := Op.call { callee := Callee.value (Operand.func 22), args := #[Operand.tmp 25, Operand.tmp 26, Operand.tmp 27, Operand.tmp 29, Operand.tmp 30], argTypes := #[25, 34, 34, 35, 36] }, type := 40, pos := "law.go:20", after := #[{ on := 0, ground := Ground.data }, { on := 1, ground := Ground.data }, { on := 2, ground := Ground.data }, { on := 4, ground := Ground.data }, { on := 5, ground := Ground.data }, { on := 3, ground := Ground.chain }], guard := none }, { dst := some 6, op := Op.assign (Operand.tmp 31), type := 40, pos := "law.go:20", after := #[{ on := 6, ground := Ground.data }, { on := 6, ground := Ground.chain }, { on := 0, ground := Ground.phase }, { on := 1, ground := Ground.phase }, { on := 2, ground := Ground.phase }, { on := 3, ground := Ground.phase }, { on := 4, ground := Ground.phase }, { on := 5, ground := Ground.phase }, { on := 6, ground := Ground.phase }], guard := none }] true).wp Try.prog Q { tmps := #[x0, .pointer (some ⟨p, 0, none⟩), x2, .pointer (some ⟨d3, 0, none⟩), x4, x5, x6, x7, x8, x9, x10, x11, x12, x13, x14, x15, x16, x17, x18, x19, x20, x21, x22, x23, x24, x25, x26, x27, x28, x29, x30, x31, x32, x33, x34, x35, x36, x37, x38, x39, x40, x41, x42, x43, x44, x45, x46, x47, x48, x49, x50, x51, x52, x53, x54, x55, x56, x57, x58, x59, x60, x61, x62, x63, x64, x65, x66, x67, x68, x69, x70], defers := ds } A := by
  refine Code.wp_mono (Q := fun x a' w' => match x with | .normal => Q .normal a' w' | _ => False) (by intro x a' w' h; cases x <;> first | exact h | exact h.elim) ?_
  refine wp_region_held (S := fun V => Keep (fun k => k ∈ G.bl p) A V) (by kernel_rfl) ?_
  have hS0 : Hid (Keep (fun k => k ∈ G.bl p) A A.drew) := (Keep.refl _ A).drew
  change wpAnyH Try.prog .any _ _ (fun V => Keep (fun k => k ∈ G.bl p) A V) 8 (Array.replicate 8 false) _ A.drew
  obtain ⟨V0, hV0⟩ : ∃ V0, A.drew = V0 := ⟨_, rfl⟩
  rw [hV0]
  rw [hV0] at hS0
  have hX0 : Hid (GAt V0 p G) := by
    show GAt V0 p G
    rw [← hV0]
    exact HG.out.below (below_drew0 A)
  clear hV0
  refine wpAnyH_take (i := 0) (oi := { dst := some 25, op := Op.move (Operand.tmp 1), type := 25, pos := "law.go:20", after := #[], guard := none }) (v := .pointer (some ⟨p, 0, none⟩)) rfl (by kernel_rfl) (by kernel_rfl) (by kernel_rfl) (fun _ _ _ h => h.elim) (Or.inl ⟨by rfl, ?y1⟩) hS0.out ?_
  case y1 =>
    intro V hV
    go_simp
  simp only [Act.put, List.setIfInBounds_toArray, List.set_cons_zero, List.set_cons_succ]
  refine wpAnyH_take (i := 2) (oi := { dst := some 27, op := Op.load 34 (Operand.tmp 3), type := 34, pos := "law.go:20", after := #[], guard := none }) (v := .agg CB.toArray) rfl (by kernel_rfl) (by kernel_rfl) (by kernel_rfl) (fun _ _ _ h => h.elim) (yieldsIf_load_mid (by rfl) _ _ rfl _ _ rfl (CB) _ (fun V hV => rangeAt_same (HR3.out) ((show Keep (fun k => k ∈ G.bl p) A V from hV).block _ (HL3.out.1) (HL3.out.2))) Try.underlying34 rfl (HI3.out)) hS0.out ?_
  simp only [Act.put, List.setIfInBounds_toArray, List.set_cons_zero, List.set_cons_succ]
  refine wpAnyH_ready (rs := [1, 5]) (by kernel_rfl) (by simp) (AllReadyH.cons (i := 1) (o := { dst := some 26, op := Op.call { callee := Callee.value (Operand.func 29), args := #[Operand.const (Value.int IntKind.i64 5)], argTypes := #[3] }, type := 34, pos := "law.go:20", after := #[], guard := none }) rfl ?_ (AllReadyH.cons (i := 5) (o := { dst := some 30, op := Op.buildSlice 36 1 #[(0, Operand.const (Value.string { data := #[99] }))], type := 36, pos := "law.go:20", after := #[], guard := none }) rfl ?_ AllReadyH.nil))
  · intro K1 hK1
    rw [if_pos (by rfl)]
    have HC1 := HIDU.out V0
    go_wp2_with fail
    refine HC1.mono ?_
    rintro e V1 ⟨rfl, hb1⟩
    dsimp only
    clear HC1
    have hS1 : Hid (Keep (fun k => k ∈ G.bl p) A V1) := (hS0.out).trans (Keep.below (S := fun _ => False) hb1) (fun _ h _ => h.elim)
    have hX1 : Hid (GAt V1 p G ∧ True) := ⟨(hX0.out).below hb1, trivial⟩
    clear hb1
    refine hK1.out _ _ hS1.out ?_
    clear hK1
    intro _
    try simp only [Act.put, List.setIfInBounds_toArray, List.set_cons_zero, List.set_cons_succ]
    refine wpAnyH_ready (rs := [3, 5]) (by kernel_rfl) (by simp) (AllReadyH.cons (i := 3) (o := { dst := some 28, op := Op.call { callee := Callee.value (Operand.func 29), args := #[Operand.const (Value.int IntKind.i64 7)], argTypes := #[3] }, type := 34, pos := "law.go:20", after := #[{ on := 1, ground := Ground.chain }], guard := none }) rfl ?_ (AllReadyH.cons (i := 5) (o := { dst := some 30, op := Op.buildSlice 36 1 #[(0, Operand.const (Value.string { data := #[99] }))], type := 36, pos := "law.go:20", after := #[], guard := none }) rfl ?_ AllReadyH.nil))
    · intro K1 hK1
      rw [if_pos (by rfl)]
      have HC2 := HIDX.out V1
      go_wp2_with fail
      refine HC2.mono ?_
      rintro e V2 ⟨rfl, hb2⟩
      dsimp only
      clear HC2
      have hS2 : Hid (Keep (fun k => k ∈ G.bl p) A V2) := (hS1.out).trans (Keep.below (S := fun _ => False) hb2) (fun _ h _ => h.elim)
      have hX2 : Hid (GAt V2 p G ∧ True) := ⟨(hX1.out.1).below hb2, trivial⟩
      clear hb2
      refine hK1.out _ _ hS2.out ?_
      clear hK1
      intro _
      try simp only [Act.put, List.setIfInBounds_toArray, List.set_cons_zero, List.set_cons_succ]
      refine wpAnyH_ready (rs := [4, 5]) (by kernel_rfl) (by simp) (AllReadyH.cons (i := 4) (o := { dst := some 29, op := Op.buildSlice 35 1 #[(0, Operand.tmp 28)], type := 35, pos := "law.go:20", after := #[{ on := 3, ground := Ground.data }], guard := none }) rfl ?_ (AllReadyH.cons (i := 5) (o := { dst := some 30, op := Op.buildSlice 36 1 #[(0, Operand.const (Value.string { data := #[99] }))], type := 36, pos := "law.go:20", after := #[], guard := none }) rfl ?_ AllReadyH.nil))
      · intro K1 hK1
        refine step_bs1 (by rfl) _ rfl x HV.out.1 (by rw [HXC.out]; rfl) ?_
        obtain ⟨V3, hv3⟩ : ∃ V, V2.alloc (.cells x.cells.toArray 34) = V := ⟨_, rfl⟩
        obtain ⟨r1, hr3⟩ : ∃ m, V2.heap.size = m := ⟨_, rfl⟩
        have hb3 : Below V2.heap.size V2 V3 := by rw [← hv3]; exact below_al _ _
        have hS3 : Hid (Keep (fun k => k ∈ G.bl p) A V3) := (hS2.out).trans (Keep.below (S := fun _ => False) hb3) (fun _ h _ => h.elim)
        have hX3 : Hid (GAt V3 p G ∧ True) := ⟨(hX2.out.1).below hb3, trivial⟩
        have hR3 : Hid (VsR V3 (some ⟨r1, 0, none⟩) 1 [x]) := by
          show VsR _ _ _ _
          rw [← hv3, ← hr3]
          exact VsR.one _ _ HV.out
        rw [hv3, hr3]
        clear hv3 hr3 hb3
        refine hK1.out _ _ hS3.out ?_
        clear hK1
        intro _
        try simp only [Act.put, List.setIfInBounds_toArray, List.set_cons_zero, List.set_cons_succ]
        refine wpAnyH_ready (rs := [5]) (by kernel_rfl) (by simp) (AllReadyH.cons (i := 5) (o := { dst := some 30, op := Op.buildSlice 36 1 #[(0, Operand.const (Value.string { data := #[99] }))], type := 36, pos := "law.go:20", after := #[], guard := none }) rfl ?_ AllReadyH.nil)
        · intro K1 hK1
          refine step_bs9 (by rfl) _ rfl s HS.out ?_
          obtain ⟨V4, hv4⟩ : ∃ V, V3.alloc (.cells [Value.string s].toArray 9) = V := ⟨_, rfl⟩
          obtain ⟨r2, hr4⟩ : ∃ m, V3.heap.size = m := ⟨_, rfl⟩
          have hb4 : Below V3.heap.size V3 V4 := by rw [← hv4]; exact below_al _ _
          have hS4 : Hid (Keep (fun k => k ∈ G.bl p) A V4) := (hS3.out).trans (Keep.below (S := fun _ => False) hb4) (fun _ h _ => h.elim)
          have hX4 : Hid (GAt V4 p G ∧ VsR V4 (some ⟨r1, 0, none⟩) 1 [x] ∧ True) := ⟨(hX3.out.1).below hb4, (hR3.out).below hb4, trivial⟩
          have hR4 : Hid (TsR V4 (some ⟨r2, 0, none⟩) 1 [s]) := by
            show TsR _ _ _ _
            rw [← hv4, ← hr4]
            exact TsR.one _ _
          rw [hv4, hr4]
          clear hv4 hr4 hb4
          refine hK1.out _ _ hS4.out ?_
          clear hK1
          intro _
          try simp only [Act.put, List.setIfInBounds_toArray, List.set_cons_zero, List.set_cons_succ]
          refine wpAnyH_ready (rs := [6]) (by kernel_rfl) (by simp) (AllReadyH.cons (i := 6) (o := { dst := some 31, op := Op.call { callee := Callee.value (Operand.func 22), args := #[Operand.tmp 25, Operand.tmp 26, Operand.tmp 27, Operand.tmp 29, Operand.tmp 30], argTypes := #[25, 34, 34, 35, 36] }, type := 40, pos := "law.go:20", after := #[{ on := 0, ground := Ground.data }, { on := 1, ground := Ground.data }, { on := 2, ground := Ground.data }, { on := 4, ground := Ground.data }, { on := 5, ground := Ground.data }, { on := 3, ground := Ground.chain }], guard := none }) rfl ?_ AllReadyH.nil)
          · intro K1 hK1
            rw [if_pos (by rfl)]
            have HC5 := HADD.out V4 r1 r2 (hX4.out.1) (hX4.out.2.1) (hR4.out)
            go_wp2_with fail
            refine HC5.mono ?_
            rintro e V5 ⟨rfl, G', hga5, hps5⟩
            dsimp only
            clear HC5
            have hS5 : Hid (Keep (fun k => k ∈ G.bl p) A V5) := (hS4.out).trans hga5.2.2 (fun _ h _ => h)
            have hX5 : Hid (GAt V5 p G' ∧ G'.ps = PS ∧ ∀ k ∈ G'.bl p, k ∈ G.bl p ∨ A.heap.size ≤ k) := ⟨hga5.1, hps5, fun k hk => (hga5.2.1 k hk).imp id (fun h => Nat.le_trans (hS4.out).size h)⟩
            clear hga5 hps5
            refine hK1.out _ _ hS5.out ?_
            clear hK1
            intro _
            try simp only [Act.put, List.setIfInBounds_toArray, List.set_cons_zero, List.set_cons_succ]
            refine wpAnyH_take (i := 7) (oi := { dst := some 6, op := Op.assign (Operand.tmp 31), type := 40, pos := "law.go:20", after := #[{ on := 6, ground := Ground.data }, { on := 6, ground := Ground.chain }, { on := 0, ground := Ground.phase }, { on := 1, ground := Ground.phase }, { on := 2, ground := Ground.phase }, { on := 3, ground := Ground.phase }, { on := 4, ground := Ground.phase }, { on := 5, ground := Ground.phase }, { on := 6, ground := Ground.phase }], guard := none }) (v := iv 0) rfl (by kernel_rfl) (by kernel_rfl) (by kernel_rfl) (fun _ _ _ h => h.elim) (Or.inl ⟨by rfl, ?y2⟩) hS5.out ?_
            case y2 =>
              intro V hV
              go_simp
            simp only [Act.put, List.setIfInBounds_toArray, List.set_cons_zero, List.set_cons_succ]
            refine wpAnyH_done (by kernel_rfl) ?_ _
            exact hQ V5 r1 r2 G' hS5.out hX5.out
      · intro K1 hK1
        refine step_bs9 (by rfl) _ rfl s HS.out ?_
        obtain ⟨V3, hv3⟩ : ∃ V, V2.alloc (.cells [Value.string s].toArray 9) = V := ⟨_, rfl⟩
        obtain ⟨r2, hr3⟩ : ∃ m, V2.heap.size = m := ⟨_, rfl⟩
        have hb3 : Below V2.heap.size V2 V3 := by rw [← hv3]; exact below_al _ _
        have hS3 : Hid (Keep (fun k => k ∈ G.bl p) A V3) := (hS2.out).trans (Keep.below (S := fun _ => False) hb3) (fun _ h _ => h.elim)
        have hX3 : Hid (GAt V3 p G ∧ True) := ⟨(hX2.out.1).below hb3, trivial⟩
        have hR3 : Hid (TsR V3 (some ⟨r2, 0, none⟩) 1 [s]) := by
          show TsR _ _ _ _
          rw [← hv3, ← hr3]
          exact TsR.one _ _
        rw [hv3, hr3]
        clear hv3 hr3 hb3
        refine hK1.out _ _ hS3.out ?_
        clear hK1
        intro _
        try simp only [Act.put, List.setIfInBounds_toArray, List.set_cons_zero, List.set_cons_succ]
        refine wpAnyH_ready (rs := [4]) (by kernel_rfl) (by simp) (AllReadyH.cons (i := 4) (o := { dst := some 29, op := Op.buildSlice 35 1 #[(0, Operand.tmp 28)], type := 35, pos := "law.go:20", after := #[{ on := 3, ground := Ground.data }], guard := none }) rfl ?_ AllReadyH.nil)
        · intro K1 hK1
          refine step_bs1 (by rfl) _ rfl x HV.out.1 (by rw [HXC.out]; rfl) ?_
          obtain ⟨V4, hv4⟩ : ∃ V, V3.alloc (.cells x.cells.toArray 34) = V := ⟨_, rfl⟩
          obtain ⟨r1, hr4⟩ : ∃ m, V3.heap.size = m := ⟨_, rfl⟩
          have hb4 : Below V3.heap.size V3 V4 := by rw [← hv4]; exact below_al _ _
          have hS4 : Hid (Keep (fun k => k ∈ G.bl p) A V4) := (hS3.out).trans (Keep.below (S := fun _ => False) hb4) (fun _ h _ => h.elim)
          have hX4 : Hid (GAt V4 p G ∧ TsR V4 (some ⟨r2, 0, none⟩) 1 [s] ∧ True) := ⟨(hX3.out.1).below hb4, (hR3.out).below hb4, trivial⟩
          have hR4 : Hid (VsR V4 (some ⟨r1, 0, none⟩) 1 [x]) := by
            show VsR _ _ _ _
            rw [← hv4, ← hr4]
            exact VsR.one _ _ HV.out
          rw [hv4, hr4]
          clear hv4 hr4 hb4
          refine hK1.out _ _ hS4.out ?_
          clear hK1
          intro _
          try simp only [Act.put, List.setIfInBounds_toArray, List.set_cons_zero, List.set_cons_succ]
          refine wpAnyH_ready (rs := [6]) (by kernel_rfl) (by simp) (AllReadyH.cons (i := 6) (o := { dst := some 31, op := Op.call { callee := Callee.value (Operand.func 22), args := #[Operand.tmp 25, Operand.tmp 26, Operand.tmp 27, Operand.tmp 29, Operand.tmp 30], argTypes := #[25, 34, 34, 35, 36] }, type := 40, pos := "law.go:20", after := #[{ on := 0, ground := Ground.data }, { on := 1, ground := Ground.data }, { on := 2, ground := Ground.data }, { on := 4, ground := Ground.data }, { on := 5, ground := Ground.data }, { on := 3, ground := Ground.chain }], guard := none }) rfl ?_ AllReadyH.nil)
          · intro K1 hK1
            rw [if_pos (by rfl)]
            have HC5 := HADD.out V4 r1 r2 (hX4.out.1) (hR4.out) (hX4.out.2.1)
            go_wp2_with fail
            refine HC5.mono ?_
            rintro e V5 ⟨rfl, G', hga5, hps5⟩
            dsimp only
            clear HC5
            have hS5 : Hid (Keep (fun k => k ∈ G.bl p) A V5) := (hS4.out).trans hga5.2.2 (fun _ h _ => h)
            have hX5 : Hid (GAt V5 p G' ∧ G'.ps = PS ∧ ∀ k ∈ G'.bl p, k ∈ G.bl p ∨ A.heap.size ≤ k) := ⟨hga5.1, hps5, fun k hk => (hga5.2.1 k hk).imp id (fun h => Nat.le_trans (hS4.out).size h)⟩
            clear hga5 hps5
            refine hK1.out _ _ hS5.out ?_
            clear hK1
            intro _
            try simp only [Act.put, List.setIfInBounds_toArray, List.set_cons_zero, List.set_cons_succ]
            refine wpAnyH_take (i := 7) (oi := { dst := some 6, op := Op.assign (Operand.tmp 31), type := 40, pos := "law.go:20", after := #[{ on := 6, ground := Ground.data }, { on := 6, ground := Ground.chain }, { on := 0, ground := Ground.phase }, { on := 1, ground := Ground.phase }, { on := 2, ground := Ground.phase }, { on := 3, ground := Ground.phase }, { on := 4, ground := Ground.phase }, { on := 5, ground := Ground.phase }, { on := 6, ground := Ground.phase }], guard := none }) (v := iv 0) rfl (by kernel_rfl) (by kernel_rfl) (by kernel_rfl) (fun _ _ _ h => h.elim) (Or.inl ⟨by rfl, ?y3⟩) hS5.out ?_
            case y3 =>
              intro V hV
              go_simp
            simp only [Act.put, List.setIfInBounds_toArray, List.set_cons_zero, List.set_cons_succ]
            refine wpAnyH_done (by kernel_rfl) ?_ _
            exact hQ V5 r1 r2 G' hS5.out hX5.out
    · intro K1 hK1
      refine step_bs9 (by rfl) _ rfl s HS.out ?_
      obtain ⟨V2, hv2⟩ : ∃ V, V1.alloc (.cells [Value.string s].toArray 9) = V := ⟨_, rfl⟩
      obtain ⟨r2, hr2⟩ : ∃ m, V1.heap.size = m := ⟨_, rfl⟩
      have hb2 : Below V1.heap.size V1 V2 := by rw [← hv2]; exact below_al _ _
      have hS2 : Hid (Keep (fun k => k ∈ G.bl p) A V2) := (hS1.out).trans (Keep.below (S := fun _ => False) hb2) (fun _ h _ => h.elim)
      have hX2 : Hid (GAt V2 p G ∧ True) := ⟨(hX1.out.1).below hb2, trivial⟩
      have hR2 : Hid (TsR V2 (some ⟨r2, 0, none⟩) 1 [s]) := by
        show TsR _ _ _ _
        rw [← hv2, ← hr2]
        exact TsR.one _ _
      rw [hv2, hr2]
      clear hv2 hr2 hb2
      refine hK1.out _ _ hS2.out ?_
      clear hK1
      intro _
      try simp only [Act.put, List.setIfInBounds_toArray, List.set_cons_zero, List.set_cons_succ]
      refine wpAnyH_ready (rs := [3]) (by kernel_rfl) (by simp) (AllReadyH.cons (i := 3) (o := { dst := some 28, op := Op.call { callee := Callee.value (Operand.func 29), args := #[Operand.const (Value.int IntKind.i64 7)], argTypes := #[3] }, type := 34, pos := "law.go:20", after := #[{ on := 1, ground := Ground.chain }], guard := none }) rfl ?_ AllReadyH.nil)
      · intro K1 hK1
        rw [if_pos (by rfl)]
        have HC3 := HIDX.out V2
        go_wp2_with fail
        refine HC3.mono ?_
        rintro e V3 ⟨rfl, hb3⟩
        dsimp only
        clear HC3
        have hS3 : Hid (Keep (fun k => k ∈ G.bl p) A V3) := (hS2.out).trans (Keep.below (S := fun _ => False) hb3) (fun _ h _ => h.elim)
        have hX3 : Hid (GAt V3 p G ∧ TsR V3 (some ⟨r2, 0, none⟩) 1 [s] ∧ True) := ⟨(hX2.out.1).below hb3, (hR2.out).below hb3, trivial⟩
        clear hb3
        refine hK1.out _ _ hS3.out ?_
        clear hK1
        intro _
        try simp only [Act.put, List.setIfInBounds_toArray, List.set_cons_zero, List.set_cons_succ]
        refine wpAnyH_ready (rs := [4]) (by kernel_rfl) (by simp) (AllReadyH.cons (i := 4) (o := { dst := some 29, op := Op.buildSlice 35 1 #[(0, Operand.tmp 28)], type := 35, pos := "law.go:20", after := #[{ on := 3, ground := Ground.data }], guard := none }) rfl ?_ AllReadyH.nil)
        · intro K1 hK1
          refine step_bs1 (by rfl) _ rfl x HV.out.1 (by rw [HXC.out]; rfl) ?_
          obtain ⟨V4, hv4⟩ : ∃ V, V3.alloc (.cells x.cells.toArray 34) = V := ⟨_, rfl⟩
          obtain ⟨r1, hr4⟩ : ∃ m, V3.heap.size = m := ⟨_, rfl⟩
          have hb4 : Below V3.heap.size V3 V4 := by rw [← hv4]; exact below_al _ _
          have hS4 : Hid (Keep (fun k => k ∈ G.bl p) A V4) := (hS3.out).trans (Keep.below (S := fun _ => False) hb4) (fun _ h _ => h.elim)
          have hX4 : Hid (GAt V4 p G ∧ TsR V4 (some ⟨r2, 0, none⟩) 1 [s] ∧ True) := ⟨(hX3.out.1).below hb4, (hX3.out.2.1).below hb4, trivial⟩
          have hR4 : Hid (VsR V4 (some ⟨r1, 0, none⟩) 1 [x]) := by
            show VsR _ _ _ _
            rw [← hv4, ← hr4]
            exact VsR.one _ _ HV.out
          rw [hv4, hr4]
          clear hv4 hr4 hb4
          refine hK1.out _ _ hS4.out ?_
          clear hK1
          intro _
          try simp only [Act.put, List.setIfInBounds_toArray, List.set_cons_zero, List.set_cons_succ]
          refine wpAnyH_ready (rs := [6]) (by kernel_rfl) (by simp) (AllReadyH.cons (i := 6) (o := { dst := some 31, op := Op.call { callee := Callee.value (Operand.func 22), args := #[Operand.tmp 25, Operand.tmp 26, Operand.tmp 27, Operand.tmp 29, Operand.tmp 30], argTypes := #[25, 34, 34, 35, 36] }, type := 40, pos := "law.go:20", after := #[{ on := 0, ground := Ground.data }, { on := 1, ground := Ground.data }, { on := 2, ground := Ground.data }, { on := 4, ground := Ground.data }, { on := 5, ground := Ground.data }, { on := 3, ground := Ground.chain }], guard := none }) rfl ?_ AllReadyH.nil)
          · intro K1 hK1
            rw [if_pos (by rfl)]
            have HC5 := HADD.out V4 r1 r2 (hX4.out.1) (hR4.out) (hX4.out.2.1)
            go_wp2_with fail
            refine HC5.mono ?_
            rintro e V5 ⟨rfl, G', hga5, hps5⟩
            dsimp only
            clear HC5
            have hS5 : Hid (Keep (fun k => k ∈ G.bl p) A V5) := (hS4.out).trans hga5.2.2 (fun _ h _ => h)
            have hX5 : Hid (GAt V5 p G' ∧ G'.ps = PS ∧ ∀ k ∈ G'.bl p, k ∈ G.bl p ∨ A.heap.size ≤ k) := ⟨hga5.1, hps5, fun k hk => (hga5.2.1 k hk).imp id (fun h => Nat.le_trans (hS4.out).size h)⟩
            clear hga5 hps5
            refine hK1.out _ _ hS5.out ?_
            clear hK1
            intro _
            try simp only [Act.put, List.setIfInBounds_toArray, List.set_cons_zero, List.set_cons_succ]
            refine wpAnyH_take (i := 7) (oi := { dst := some 6, op := Op.assign (Operand.tmp 31), type := 40, pos := "law.go:20", after := #[{ on := 6, ground := Ground.data }, { on := 6, ground := Ground.chain }, { on := 0, ground := Ground.phase }, { on := 1, ground := Ground.phase }, { on := 2, ground := Ground.phase }, { on := 3, ground := Ground.phase }, { on := 4, ground := Ground.phase }, { on := 5, ground := Ground.phase }, { on := 6, ground := Ground.phase }], guard := none }) (v := iv 0) rfl (by kernel_rfl) (by kernel_rfl) (by kernel_rfl) (fun _ _ _ h => h.elim) (Or.inl ⟨by rfl, ?y4⟩) hS5.out ?_
            case y4 =>
              intro V hV
              go_simp
            simp only [Act.put, List.setIfInBounds_toArray, List.set_cons_zero, List.set_cons_succ]
            refine wpAnyH_done (by kernel_rfl) ?_ _
            exact hQ V5 r1 r2 G' hS5.out hX5.out
  · intro K1 hK1
    refine step_bs9 (by rfl) _ rfl s HS.out ?_
    obtain ⟨V1, hv1⟩ : ∃ V, V0.alloc (.cells [Value.string s].toArray 9) = V := ⟨_, rfl⟩
    obtain ⟨r2, hr1⟩ : ∃ m, V0.heap.size = m := ⟨_, rfl⟩
    have hb1 : Below V0.heap.size V0 V1 := by rw [← hv1]; exact below_al _ _
    have hS1 : Hid (Keep (fun k => k ∈ G.bl p) A V1) := (hS0.out).trans (Keep.below (S := fun _ => False) hb1) (fun _ h _ => h.elim)
    have hX1 : Hid (GAt V1 p G ∧ True) := ⟨(hX0.out).below hb1, trivial⟩
    have hR1 : Hid (TsR V1 (some ⟨r2, 0, none⟩) 1 [s]) := by
      show TsR _ _ _ _
      rw [← hv1, ← hr1]
      exact TsR.one _ _
    rw [hv1, hr1]
    clear hv1 hr1 hb1
    refine hK1.out _ _ hS1.out ?_
    clear hK1
    intro _
    try simp only [Act.put, List.setIfInBounds_toArray, List.set_cons_zero, List.set_cons_succ]
    refine wpAnyH_ready (rs := [1]) (by kernel_rfl) (by simp) (AllReadyH.cons (i := 1) (o := { dst := some 26, op := Op.call { callee := Callee.value (Operand.func 29), args := #[Operand.const (Value.int IntKind.i64 5)], argTypes := #[3] }, type := 34, pos := "law.go:20", after := #[], guard := none }) rfl ?_ AllReadyH.nil)
    · intro K1 hK1
      rw [if_pos (by rfl)]
      have HC2 := HIDU.out V1
      go_wp2_with fail
      refine HC2.mono ?_
      rintro e V2 ⟨rfl, hb2⟩
      dsimp only
      clear HC2
      have hS2 : Hid (Keep (fun k => k ∈ G.bl p) A V2) := (hS1.out).trans (Keep.below (S := fun _ => False) hb2) (fun _ h _ => h.elim)
      have hX2 : Hid (GAt V2 p G ∧ TsR V2 (some ⟨r2, 0, none⟩) 1 [s] ∧ True) := ⟨(hX1.out.1).below hb2, (hR1.out).below hb2, trivial⟩
      clear hb2
      refine hK1.out _ _ hS2.out ?_
      clear hK1
      intro _
      try simp only [Act.put, List.setIfInBounds_toArray, List.set_cons_zero, List.set_cons_succ]
      refine wpAnyH_ready (rs := [3]) (by kernel_rfl) (by simp) (AllReadyH.cons (i := 3) (o := { dst := some 28, op := Op.call { callee := Callee.value (Operand.func 29), args := #[Operand.const (Value.int IntKind.i64 7)], argTypes := #[3] }, type := 34, pos := "law.go:20", after := #[{ on := 1, ground := Ground.chain }], guard := none }) rfl ?_ AllReadyH.nil)
      · intro K1 hK1
        rw [if_pos (by rfl)]
        have HC3 := HIDX.out V2
        go_wp2_with fail
        refine HC3.mono ?_
        rintro e V3 ⟨rfl, hb3⟩
        dsimp only
        clear HC3
        have hS3 : Hid (Keep (fun k => k ∈ G.bl p) A V3) := (hS2.out).trans (Keep.below (S := fun _ => False) hb3) (fun _ h _ => h.elim)
        have hX3 : Hid (GAt V3 p G ∧ TsR V3 (some ⟨r2, 0, none⟩) 1 [s] ∧ True) := ⟨(hX2.out.1).below hb3, (hX2.out.2.1).below hb3, trivial⟩
        clear hb3
        refine hK1.out _ _ hS3.out ?_
        clear hK1
        intro _
        try simp only [Act.put, List.setIfInBounds_toArray, List.set_cons_zero, List.set_cons_succ]
        refine wpAnyH_ready (rs := [4]) (by kernel_rfl) (by simp) (AllReadyH.cons (i := 4) (o := { dst := some 29, op := Op.buildSlice 35 1 #[(0, Operand.tmp 28)], type := 35, pos := "law.go:20", after := #[{ on := 3, ground := Ground.data }], guard := none }) rfl ?_ AllReadyH.nil)
        · intro K1 hK1
          refine step_bs1 (by rfl) _ rfl x HV.out.1 (by rw [HXC.out]; rfl) ?_
          obtain ⟨V4, hv4⟩ : ∃ V, V3.alloc (.cells x.cells.toArray 34) = V := ⟨_, rfl⟩
          obtain ⟨r1, hr4⟩ : ∃ m, V3.heap.size = m := ⟨_, rfl⟩
          have hb4 : Below V3.heap.size V3 V4 := by rw [← hv4]; exact below_al _ _
          have hS4 : Hid (Keep (fun k => k ∈ G.bl p) A V4) := (hS3.out).trans (Keep.below (S := fun _ => False) hb4) (fun _ h _ => h.elim)
          have hX4 : Hid (GAt V4 p G ∧ TsR V4 (some ⟨r2, 0, none⟩) 1 [s] ∧ True) := ⟨(hX3.out.1).below hb4, (hX3.out.2.1).below hb4, trivial⟩
          have hR4 : Hid (VsR V4 (some ⟨r1, 0, none⟩) 1 [x]) := by
            show VsR _ _ _ _
            rw [← hv4, ← hr4]
            exact VsR.one _ _ HV.out
          rw [hv4, hr4]
          clear hv4 hr4 hb4
          refine hK1.out _ _ hS4.out ?_
          clear hK1
          intro _
          try simp only [Act.put, List.setIfInBounds_toArray, List.set_cons_zero, List.set_cons_succ]
          refine wpAnyH_ready (rs := [6]) (by kernel_rfl) (by simp) (AllReadyH.cons (i := 6) (o := { dst := some 31, op := Op.call { callee := Callee.value (Operand.func 22), args := #[Operand.tmp 25, Operand.tmp 26, Operand.tmp 27, Operand.tmp 29, Operand.tmp 30], argTypes := #[25, 34, 34, 35, 36] }, type := 40, pos := "law.go:20", after := #[{ on := 0, ground := Ground.data }, { on := 1, ground := Ground.data }, { on := 2, ground := Ground.data }, { on := 4, ground := Ground.data }, { on := 5, ground := Ground.data }, { on := 3, ground := Ground.chain }], guard := none }) rfl ?_ AllReadyH.nil)
          · intro K1 hK1
            rw [if_pos (by rfl)]
            have HC5 := HADD.out V4 r1 r2 (hX4.out.1) (hR4.out) (hX4.out.2.1)
            go_wp2_with fail
            refine HC5.mono ?_
            rintro e V5 ⟨rfl, G', hga5, hps5⟩
            dsimp only
            clear HC5
            have hS5 : Hid (Keep (fun k => k ∈ G.bl p) A V5) := (hS4.out).trans hga5.2.2 (fun _ h _ => h)
            have hX5 : Hid (GAt V5 p G' ∧ G'.ps = PS ∧ ∀ k ∈ G'.bl p, k ∈ G.bl p ∨ A.heap.size ≤ k) := ⟨hga5.1, hps5, fun k hk => (hga5.2.1 k hk).imp id (fun h => Nat.le_trans (hS4.out).size h)⟩
            clear hga5 hps5
            refine hK1.out _ _ hS5.out ?_
            clear hK1
            intro _
            try simp only [Act.put, List.setIfInBounds_toArray, List.set_cons_zero, List.set_cons_succ]
            refine wpAnyH_take (i := 7) (oi := { dst := some 6, op := Op.assign (Operand.tmp 31), type := 40, pos := "law.go:20", after := #[{ on := 6, ground := Ground.data }, { on := 6, ground := Ground.chain }, { on := 0, ground := Ground.phase }, { on := 1, ground := Ground.phase }, { on := 2, ground := Ground.phase }, { on := 3, ground := Ground.phase }, { on := 4, ground := Ground.phase }, { on := 5, ground := Ground.phase }, { on := 6, ground := Ground.phase }], guard := none }) (v := iv 0) rfl (by kernel_rfl) (by kernel_rfl) (by kernel_rfl) (fun _ _ _ h => h.elim) (Or.inl ⟨by rfl, ?y5⟩) hS5.out ?_
            case y5 =>
              intro V hV
              go_simp
            simp only [Act.put, List.setIfInBounds_toArray, List.set_cons_zero, List.set_cons_succ]
            refine wpAnyH_done (by kernel_rfl) ?_ _
            exact hQ V5 r1 r2 G' hS5.out hX5.out
set_option maxRecDepth 100000 in
set_option maxHeartbeats 4000000 in
theorem lv6 {Q : Exit → Act → World → Prop} {x0 x2 x4 x5 x6 x7 x8 x9 x10 x11 x12 x13 x14 x15 x16 x17 x18 x19 x20 x21 x22 x23 x24 x25 x26 x27 x28 x29 x30 x31 x32 x33 x34 x35 x36 x37 x38 x39 x40 x41 x42 x43 x44 x45 x46 x47 x48 x49 x50 x51 x52 x53 x54 x55 x56 x57 x58 x59 x60 x61 x62 x63 x64 x65 x66 x67 x68 x69 x70 : Value} {ds : List Deferred} {A : World} {p d3 : Nat} {G : Gm} {x : Vx} {XC : List Value} {CB : List Value} {CU : List Value} {s : BA} {PS : List PL} 
    (HG : Hid (GAt A p G)) (HV : Hid (Vk x)) (HXC : Hid (x.cells = XC))  (HL3 : Hid (d3 < A.heap.size ∧ ¬ d3 ∈ G.bl p)) (HR3 : Hid (A.rangeAt d3 0 CB)) (HI3 : Hid ((Try.prog.info? 34).map (·.size) = some CB.length)) (HIDU : Hid (∀ W, Calls Try.prog 29 #[iv 5] W fun e w' => e = .returned (.agg CU.toArray) ∧ Below W.heap.size W w')) (HIDX : Hid (∀ W, Calls Try.prog 29 #[iv 8] W fun e w' => e = .returned (.agg XC.toArray) ∧ Below W.heap.size W w')) (HS : Hid (Value.string { data := #[100] } = .string s)) (HADD : Hid (∀ V r1 r2, GAt V p G → VsR V (some ⟨r1, 0, none⟩) 1 [x] → TsR V (some ⟨r2, 0, none⟩) 1 [s] → Calls Try.prog 22 #[.pointer (some ⟨p, 0, none⟩), .agg CU.toArray, .agg CB.toArray, .slice (some ⟨r1, 0, none⟩) 1 1, .slice (some ⟨r2, 0, none⟩) 1 1] V fun e w' => e = .returned (iv 0) ∧ ∃ G', GAfter V p G G' w' ∧ G'.ps = PS))
    (hQ : ∀ V3 r1 r2 G', Keep (fun k => k ∈ G.bl p) A V3 → (GAt V3 p G' ∧ G'.ps = PS ∧ ∀ k ∈ G'.bl p, k ∈ G.bl p ∨ A.heap.size ≤ k) → Q .normal { tmps := #[x0, .pointer (some ⟨p, 0, none⟩), x2, .pointer (some ⟨d3, 0, none⟩), x4, x5, x6, iv 0, x8, x9, x10, x11, x12, x13, x14, x15, x16, x17, x18, x19, x20, x21, x22, x23, x24, x25, x26, x27, x28, x29, x30, x31, .pointer (some ⟨p, 0, none⟩), .agg CU.toArray, .agg CB.toArray, .agg XC.toArray, .slice (some ⟨r1, 0, none⟩) 1 1, .slice (some ⟨r2, 0, none⟩) 1 1, iv 0, x39, x40, x41, x42, x43, x44, x45, x46, x47, x48, x49, x50, x51, x52, x53, x54, x55, x56, x57, x58, x59, x60, x61, x62, x63, x64, x65, x66, x67, x68, x69, x70], defers := ds } V3) :
    (Code.region 6 #[{ dst := some 32, op := Op.move (Operand.tmp 1), type := 25, pos := "law.go:21", after := #[], guard := none }, { dst := some 33, op := Op.call { callee := Callee.value (Operand.func 29), args := #[Operand.const (Value.int IntKind.i64 5)], argTypes := #[3] }, type := 34, pos := "law.go:21", after := #[], guard := none }, { dst := some 34, op := Op.load 34 (Operand.tmp 3), type := 34, pos := "law.go:21", after := #[], guard := none }, { dst := some 35, op := Op.call { callee := Callee.value (Operand.func 29), args := #[Operand.const (Value.int IntKind.i64 8)], argTypes := #[3] }, type := 34, pos := "law.go:21", after := #[{ on := 1, ground := Ground.chain }], guard := none }, { dst := some 36, op := Op.buildSlice 35 1 #[(0, Operand.tmp 35)], type := 35, pos := "law.go:21", after := #[{ on := 3, ground := Ground.data }], guard := none }, { dst := some 37, op := Op.buildSlice 36 1 #[(0, Operand.const (Value.string { data := #[100] }))], type := 36, pos := "law.go:21", after := #[], guard := none }, { dst := some 38, op := Op.call { callee := Callee.value (Operand.func 22), args := #[Operand.tmp 32, Operand.tmp 33, Operand.tmp 34, Operand.tmp 36, Operand.tmp 37], argTypes := #[25, 34, 34, 35, 36] }, type := 40, pos := "law.go:21", after := #[{ on := 0, ground := Ground.data }, { on := 1, ground := Ground.data }, { on := 2, ground := Ground.data }, { on := 4, ground := Ground.data }, { on := 5, ground := Ground.data }, { on := 3, ground := Ground.chain }], guard := none }, { dst := some 7, op := Op.assign (Operand.tmp 38), type := 40, pos := "law.go:21", after := #[{ on := 6, ground := Ground.data }, { on := 6, ground := Ground.chain }, { on := 0, ground := Ground.phase }, { on := 1, ground := Ground.phase }, { on := 2, ground := Ground.phase }, { on := 3, ground := Ground.phase }, { on := 4, ground := Ground.phase }, { on := 5, ground := Ground.phase }, { on := 6, ground := Ground.phase }], guard := none }] true).wp Try.prog Q { tmps := #[x0, .pointer (some ⟨p, 0, none⟩), x2, .pointer (some ⟨d3, 0, none⟩), x4, x5, x6, x7, x8, x9, x10, x11, x12, x13, x14, x15, x16, x17, x18, x19, x20, x21, x22, x23, x24, x25, x26, x27, x28, x29, x30, x31, x32, x33, x34, x35, x36, x37, x38, x39, x40, x41, x42, x43, x44, x45, x46, x47, x48, x49, x50, x51, x52, x53, x54, x55, x56, x57, x58, x59, x60, x61, x62, x63, x64, x65, x66, x67, x68, x69, x70], defers := ds } A := by
  refine Code.wp_mono (Q := fun x a' w' => match x with | .normal => Q .normal a' w' | _ => False) (by intro x a' w' h; cases x <;> first | exact h | exact h.elim) ?_
  refine wp_region_held (S := fun V => Keep (fun k => k ∈ G.bl p) A V) (by kernel_rfl) ?_
  have hS0 : Hid (Keep (fun k => k ∈ G.bl p) A A.drew) := (Keep.refl _ A).drew
  change wpAnyH Try.prog .any _ _ (fun V => Keep (fun k => k ∈ G.bl p) A V) 8 (Array.replicate 8 false) _ A.drew
  obtain ⟨V0, hV0⟩ : ∃ V0, A.drew = V0 := ⟨_, rfl⟩
  rw [hV0]
  rw [hV0] at hS0
  have hX0 : Hid (GAt V0 p G) := by
    show GAt V0 p G
    rw [← hV0]
    exact HG.out.below (below_drew0 A)
  clear hV0
  refine wpAnyH_take (i := 0) (oi := { dst := some 32, op := Op.move (Operand.tmp 1), type := 25, pos := "law.go:21", after := #[], guard := none }) (v := .pointer (some ⟨p, 0, none⟩)) rfl (by kernel_rfl) (by kernel_rfl) (by kernel_rfl) (fun _ _ _ h => h.elim) (Or.inl ⟨by rfl, ?y1⟩) hS0.out ?_
  case y1 =>
    intro V hV
    go_simp
  simp only [Act.put, List.setIfInBounds_toArray, List.set_cons_zero, List.set_cons_succ]
  refine wpAnyH_take (i := 2) (oi := { dst := some 34, op := Op.load 34 (Operand.tmp 3), type := 34, pos := "law.go:21", after := #[], guard := none }) (v := .agg CB.toArray) rfl (by kernel_rfl) (by kernel_rfl) (by kernel_rfl) (fun _ _ _ h => h.elim) (yieldsIf_load_mid (by rfl) _ _ rfl _ _ rfl (CB) _ (fun V hV => rangeAt_same (HR3.out) ((show Keep (fun k => k ∈ G.bl p) A V from hV).block _ (HL3.out.1) (HL3.out.2))) Try.underlying34 rfl (HI3.out)) hS0.out ?_
  simp only [Act.put, List.setIfInBounds_toArray, List.set_cons_zero, List.set_cons_succ]
  refine wpAnyH_ready (rs := [1, 5]) (by kernel_rfl) (by simp) (AllReadyH.cons (i := 1) (o := { dst := some 33, op := Op.call { callee := Callee.value (Operand.func 29), args := #[Operand.const (Value.int IntKind.i64 5)], argTypes := #[3] }, type := 34, pos := "law.go:21", after := #[], guard := none }) rfl ?_ (AllReadyH.cons (i := 5) (o := { dst := some 37, op := Op.buildSlice 36 1 #[(0, Operand.const (Value.string { data := #[100] }))], type := 36, pos := "law.go:21", after := #[], guard := none }) rfl ?_ AllReadyH.nil))
  · intro K1 hK1
    rw [if_pos (by rfl)]
    have HC1 := HIDU.out V0
    go_wp2_with fail
    refine HC1.mono ?_
    rintro e V1 ⟨rfl, hb1⟩
    dsimp only
    clear HC1
    have hS1 : Hid (Keep (fun k => k ∈ G.bl p) A V1) := (hS0.out).trans (Keep.below (S := fun _ => False) hb1) (fun _ h _ => h.elim)
    have hX1 : Hid (GAt V1 p G ∧ True) := ⟨(hX0.out).below hb1, trivial⟩
    clear hb1
    refine hK1.out _ _ hS1.out ?_
    clear hK1
    intro _
    try simp only [Act.put, List.setIfInBounds_toArray, List.set_cons_zero, List.set_cons_succ]
    refine wpAnyH_ready (rs := [3, 5]) (by kernel_rfl) (by simp) (AllReadyH.cons (i := 3) (o := { dst := some 35, op := Op.call { callee := Callee.value (Operand.func 29), args := #[Operand.const (Value.int IntKind.i64 8)], argTypes := #[3] }, type := 34, pos := "law.go:21", after := #[{ on := 1, ground := Ground.chain }], guard := none }) rfl ?_ (AllReadyH.cons (i := 5) (o := { dst := some 37, op := Op.buildSlice 36 1 #[(0, Operand.const (Value.string { data := #[100] }))], type := 36, pos := "law.go:21", after := #[], guard := none }) rfl ?_ AllReadyH.nil))
    · intro K1 hK1
      rw [if_pos (by rfl)]
      have HC2 := HIDX.out V1
      go_wp2_with fail
      refine HC2.mono ?_
      rintro e V2 ⟨rfl, hb2⟩
      dsimp only
      clear HC2
      have hS2 : Hid (Keep (fun k => k ∈ G.bl p) A V2) := (hS1.out).trans (Keep.below (S := fun _ => False) hb2) (fun _ h _ => h.elim)
      have hX2 : Hid (GAt V2 p G ∧ True) := ⟨(hX1.out.1).below hb2, trivial⟩
      clear hb2
      refine hK1.out _ _ hS2.out ?_
      clear hK1
      intro _
      try simp only [Act.put, List.setIfInBounds_toArray, List.set_cons_zero, List.set_cons_succ]
      refine wpAnyH_ready (rs := [4, 5]) (by kernel_rfl) (by simp) (AllReadyH.cons (i := 4) (o := { dst := some 36, op := Op.buildSlice 35 1 #[(0, Operand.tmp 35)], type := 35, pos := "law.go:21", after := #[{ on := 3, ground := Ground.data }], guard := none }) rfl ?_ (AllReadyH.cons (i := 5) (o := { dst := some 37, op := Op.buildSlice 36 1 #[(0, Operand.const (Value.string { data := #[100] }))], type := 36, pos := "law.go:21", after := #[], guard := none }) rfl ?_ AllReadyH.nil))
      · intro K1 hK1
        refine step_bs1 (by rfl) _ rfl x HV.out.1 (by rw [HXC.out]; rfl) ?_
        obtain ⟨V3, hv3⟩ : ∃ V, V2.alloc (.cells x.cells.toArray 34) = V := ⟨_, rfl⟩
        obtain ⟨r1, hr3⟩ : ∃ m, V2.heap.size = m := ⟨_, rfl⟩
        have hb3 : Below V2.heap.size V2 V3 := by rw [← hv3]; exact below_al _ _
        have hS3 : Hid (Keep (fun k => k ∈ G.bl p) A V3) := (hS2.out).trans (Keep.below (S := fun _ => False) hb3) (fun _ h _ => h.elim)
        have hX3 : Hid (GAt V3 p G ∧ True) := ⟨(hX2.out.1).below hb3, trivial⟩
        have hR3 : Hid (VsR V3 (some ⟨r1, 0, none⟩) 1 [x]) := by
          show VsR _ _ _ _
          rw [← hv3, ← hr3]
          exact VsR.one _ _ HV.out
        rw [hv3, hr3]
        clear hv3 hr3 hb3
        refine hK1.out _ _ hS3.out ?_
        clear hK1
        intro _
        try simp only [Act.put, List.setIfInBounds_toArray, List.set_cons_zero, List.set_cons_succ]
        refine wpAnyH_ready (rs := [5]) (by kernel_rfl) (by simp) (AllReadyH.cons (i := 5) (o := { dst := some 37, op := Op.buildSlice 36 1 #[(0, Operand.const (Value.string { data := #[100] }))], type := 36, pos := "law.go:21", after := #[], guard := none }) rfl ?_ AllReadyH.nil)
        · intro K1 hK1
          refine step_bs9 (by rfl) _ rfl s HS.out ?_
          obtain ⟨V4, hv4⟩ : ∃ V, V3.alloc (.cells [Value.string s].toArray 9) = V := ⟨_, rfl⟩
          obtain ⟨r2, hr4⟩ : ∃ m, V3.heap.size = m := ⟨_, rfl⟩
          have hb4 : Below V3.heap.size V3 V4 := by rw [← hv4]; exact below_al _ _
          have hS4 : Hid (Keep (fun k => k ∈ G.bl p) A V4) := (hS3.out).trans (Keep.below (S := fun _ => False) hb4) (fun _ h _ => h.elim)
          have hX4 : Hid (GAt V4 p G ∧ VsR V4 (some ⟨r1, 0, none⟩) 1 [x] ∧ True) := ⟨(hX3.out.1).below hb4, (hR3.out).below hb4, trivial⟩
          have hR4 : Hid (TsR V4 (some ⟨r2, 0, none⟩) 1 [s]) := by
            show TsR _ _ _ _
            rw [← hv4, ← hr4]
            exact TsR.one _ _
          rw [hv4, hr4]
          clear hv4 hr4 hb4
          refine hK1.out _ _ hS4.out ?_
          clear hK1
          intro _
          try simp only [Act.put, List.setIfInBounds_toArray, List.set_cons_zero, List.set_cons_succ]
          refine wpAnyH_ready (rs := [6]) (by kernel_rfl) (by simp) (AllReadyH.cons (i := 6) (o := { dst := some 38, op := Op.call { callee := Callee.value (Operand.func 22), args := #[Operand.tmp 32, Operand.tmp 33, Operand.tmp 34, Operand.tmp 36, Operand.tmp 37], argTypes := #[25, 34, 34, 35, 36] }, type := 40, pos := "law.go:21", after := #[{ on := 0, ground := Ground.data }, { on := 1, ground := Ground.data }, { on := 2, ground := Ground.data }, { on := 4, ground := Ground.data }, { on := 5, ground := Ground.data }, { on := 3, ground := Ground.chain }], guard := none }) rfl ?_ AllReadyH.nil)
          · intro K1 hK1
            rw [if_pos (by rfl)]
            have HC5 := HADD.out V4 r1 r2 (hX4.out.1) (hX4.out.2.1) (hR4.out)
            go_wp2_with fail
            refine HC5.mono ?_
            rintro e V5 ⟨rfl, G', hga5, hps5⟩
            dsimp only
            clear HC5
            have hS5 : Hid (Keep (fun k => k ∈ G.bl p) A V5) := (hS4.out).trans hga5.2.2 (fun _ h _ => h)
            have hX5 : Hid (GAt V5 p G' ∧ G'.ps = PS ∧ ∀ k ∈ G'.bl p, k ∈ G.bl p ∨ A.heap.size ≤ k) := ⟨hga5.1, hps5, fun k hk => (hga5.2.1 k hk).imp id (fun h => Nat.le_trans (hS4.out).size h)⟩
            clear hga5 hps5
            refine hK1.out _ _ hS5.out ?_
            clear hK1
            intro _
            try simp only [Act.put, List.setIfInBounds_toArray, List.set_cons_zero, List.set_cons_succ]
            refine wpAnyH_take (i := 7) (oi := { dst := some 7, op := Op.assign (Operand.tmp 38), type := 40, pos := "law.go:21", after := #[{ on := 6, ground := Ground.data }, { on := 6, ground := Ground.chain }, { on := 0, ground := Ground.phase }, { on := 1, ground := Ground.phase }, { on := 2, ground := Ground.phase }, { on := 3, ground := Ground.phase }, { on := 4, ground := Ground.phase }, { on := 5, ground := Ground.phase }, { on := 6, ground := Ground.phase }], guard := none }) (v := iv 0) rfl (by kernel_rfl) (by kernel_rfl) (by kernel_rfl) (fun _ _ _ h => h.elim) (Or.inl ⟨by rfl, ?y2⟩) hS5.out ?_
            case y2 =>
              intro V hV
              go_simp
            simp only [Act.put, List.setIfInBounds_toArray, List.set_cons_zero, List.set_cons_succ]
            refine wpAnyH_done (by kernel_rfl) ?_ _
            exact hQ V5 r1 r2 G' hS5.out hX5.out
      · intro K1 hK1
        refine step_bs9 (by rfl) _ rfl s HS.out ?_
        obtain ⟨V3, hv3⟩ : ∃ V, V2.alloc (.cells [Value.string s].toArray 9) = V := ⟨_, rfl⟩
        obtain ⟨r2, hr3⟩ : ∃ m, V2.heap.size = m := ⟨_, rfl⟩
        have hb3 : Below V2.heap.size V2 V3 := by rw [← hv3]; exact below_al _ _
        have hS3 : Hid (Keep (fun k => k ∈ G.bl p) A V3) := (hS2.out).trans (Keep.below (S := fun _ => False) hb3) (fun _ h _ => h.elim)
        have hX3 : Hid (GAt V3 p G ∧ True) := ⟨(hX2.out.1).below hb3, trivial⟩
        have hR3 : Hid (TsR V3 (some ⟨r2, 0, none⟩) 1 [s]) := by
          show TsR _ _ _ _
          rw [← hv3, ← hr3]
          exact TsR.one _ _
        rw [hv3, hr3]
        clear hv3 hr3 hb3
        refine hK1.out _ _ hS3.out ?_
        clear hK1
        intro _
        try simp only [Act.put, List.setIfInBounds_toArray, List.set_cons_zero, List.set_cons_succ]
        refine wpAnyH_ready (rs := [4]) (by kernel_rfl) (by simp) (AllReadyH.cons (i := 4) (o := { dst := some 36, op := Op.buildSlice 35 1 #[(0, Operand.tmp 35)], type := 35, pos := "law.go:21", after := #[{ on := 3, ground := Ground.data }], guard := none }) rfl ?_ AllReadyH.nil)
        · intro K1 hK1
          refine step_bs1 (by rfl) _ rfl x HV.out.1 (by rw [HXC.out]; rfl) ?_
          obtain ⟨V4, hv4⟩ : ∃ V, V3.alloc (.cells x.cells.toArray 34) = V := ⟨_, rfl⟩
          obtain ⟨r1, hr4⟩ : ∃ m, V3.heap.size = m := ⟨_, rfl⟩
          have hb4 : Below V3.heap.size V3 V4 := by rw [← hv4]; exact below_al _ _
          have hS4 : Hid (Keep (fun k => k ∈ G.bl p) A V4) := (hS3.out).trans (Keep.below (S := fun _ => False) hb4) (fun _ h _ => h.elim)
          have hX4 : Hid (GAt V4 p G ∧ TsR V4 (some ⟨r2, 0, none⟩) 1 [s] ∧ True) := ⟨(hX3.out.1).below hb4, (hR3.out).below hb4, trivial⟩
          have hR4 : Hid (VsR V4 (some ⟨r1, 0, none⟩) 1 [x]) := by
            show VsR _ _ _ _
            rw [← hv4, ← hr4]
            exact VsR.one _ _ HV.out
          rw [hv4, hr4]
          clear hv4 hr4 hb4
          refine hK1.out _ _ hS4.out ?_
          clear hK1
          intro _
          try simp only [Act.put, List.setIfInBounds_toArray, List.set_cons_zero, List.set_cons_succ]
          refine wpAnyH_ready (rs := [6]) (by kernel_rfl) (by simp) (AllReadyH.cons (i := 6) (o := { dst := some 38, op := Op.call { callee := Callee.value (Operand.func 22), args := #[Operand.tmp 32, Operand.tmp 33, Operand.tmp 34, Operand.tmp 36, Operand.tmp 37], argTypes := #[25, 34, 34, 35, 36] }, type := 40, pos := "law.go:21", after := #[{ on := 0, ground := Ground.data }, { on := 1, ground := Ground.data }, { on := 2, ground := Ground.data }, { on := 4, ground := Ground.data }, { on := 5, ground := Ground.data }, { on := 3, ground := Ground.chain }], guard := none }) rfl ?_ AllReadyH.nil)
          · intro K1 hK1
            rw [if_pos (by rfl)]
            have HC5 := HADD.out V4 r1 r2 (hX4.out.1) (hR4.out) (hX4.out.2.1)
            go_wp2_with fail
            refine HC5.mono ?_
            rintro e V5 ⟨rfl, G', hga5, hps5⟩
            dsimp only
            clear HC5
            have hS5 : Hid (Keep (fun k => k ∈ G.bl p) A V5) := (hS4.out).trans hga5.2.2 (fun _ h _ => h)
            have hX5 : Hid (GAt V5 p G' ∧ G'.ps = PS ∧ ∀ k ∈ G'.bl p, k ∈ G.bl p ∨ A.heap.size ≤ k) := ⟨hga5.1, hps5, fun k hk => (hga5.2.1 k hk).imp id (fun h => Nat.le_trans (hS4.out).size h)⟩
            clear hga5 hps5
            refine hK1.out _ _ hS5.out ?_
            clear hK1
            intro _
            try simp only [Act.put, List.setIfInBounds_toArray, List.set_cons_zero, List.set_cons_succ]
            refine wpAnyH_take (i := 7) (oi := { dst := some 7, op := Op.assign (Operand.tmp 38), type := 40, pos := "law.go:21", after := #[{ on := 6, ground := Ground.data }, { on := 6, ground := Ground.chain }, { on := 0, ground := Ground.phase }, { on := 1, ground := Ground.phase }, { on := 2, ground := Ground.phase }, { on := 3, ground := Ground.phase }, { on := 4, ground := Ground.phase }, { on := 5, ground := Ground.phase }, { on := 6, ground := Ground.phase }], guard := none }) (v := iv 0) rfl (by kernel_rfl) (by kernel_rfl) (by kernel_rfl) (fun _ _ _ h => h.elim) (Or.inl ⟨by rfl, ?y3⟩) hS5.out ?_
            case y3 =>
              intro V hV
              go_simp
            simp only [Act.put, List.setIfInBounds_toArray, List.set_cons_zero, List.set_cons_succ]
            refine wpAnyH_done (by kernel_rfl) ?_ _
            exact hQ V5 r1 r2 G' hS5.out hX5.out
    · intro K1 hK1
      refine step_bs9 (by rfl) _ rfl s HS.out ?_
      obtain ⟨V2, hv2⟩ : ∃ V, V1.alloc (.cells [Value.string s].toArray 9) = V := ⟨_, rfl⟩
      obtain ⟨r2, hr2⟩ : ∃ m, V1.heap.size = m := ⟨_, rfl⟩
      have hb2 : Below V1.heap.size V1 V2 := by rw [← hv2]; exact below_al _ _
      have hS2 : Hid (Keep (fun k => k ∈ G.bl p) A V2) := (hS1.out).trans (Keep.below (S := fun _ => False) hb2) (fun _ h _ => h.elim)
      have hX2 : Hid (GAt V2 p G ∧ True) := ⟨(hX1.out.1).below hb2, trivial⟩
      have hR2 : Hid (TsR V2 (some ⟨r2, 0, none⟩) 1 [s]) := by
        show TsR _ _ _ _
        rw [← hv2, ← hr2]
        exact TsR.one _ _
      rw [hv2, hr2]
      clear hv2 hr2 hb2
      refine hK1.out _ _ hS2.out ?_
      clear hK1
      intro _
      try simp only [Act.put, List.setIfInBounds_toArray, List.set_cons_zero, List.set_cons_succ]
      refine wpAnyH_ready (rs := [3]) (by kernel_rfl) (by simp) (AllReadyH.cons (i := 3) (o := { dst := some 35, op := Op.call { callee := Callee.value (Operand.func 29), args := #[Operand.const (Value.int IntKind.i64 8)], argTypes := #[3] }, type := 34, pos := "law.go:21", after := #[{ on := 1, ground := Ground.chain }], guard := none }) rfl ?_ AllReadyH.nil)
      · intro K1 hK1
        rw [if_pos (by rfl)]
        have HC3 := HIDX.out V2
        go_wp2_with fail
        refine HC3.mono ?_
        rintro e V3 ⟨rfl, hb3⟩
        dsimp only
        clear HC3
        have hS3 : Hid (Keep (fun k => k ∈ G.bl p) A V3) := (hS2.out).trans (Keep.below (S := fun _ => False) hb3) (fun _ h _ => h.elim)
        have hX3 : Hid (GAt V3 p G ∧ TsR V3 (some ⟨r2, 0, none⟩) 1 [s] ∧ True) := ⟨(hX2.out.1).below hb3, (hR2.out).below hb3, trivial⟩
        clear hb3
        refine hK1.out _ _ hS3.out ?_
        clear hK1
        intro _
        try simp only [Act.put, List.setIfInBounds_toArray, List.set_cons_zero, List.set_cons_succ]
        refine wpAnyH_ready (rs := [4]) (by kernel_rfl) (by simp) (AllReadyH.cons (i := 4) (o := { dst := some 36, op := Op.buildSlice 35 1 #[(0, Operand.tmp 35)], type := 35, pos := "law.go:21", after := #[{ on := 3, ground := Ground.data }], guard := none }) rfl ?_ AllReadyH.nil)
        · intro K1 hK1
          refine step_bs1 (by rfl) _ rfl x HV.out.1 (by rw [HXC.out]; rfl) ?_
          obtain ⟨V4, hv4⟩ : ∃ V, V3.alloc (.cells x.cells.toArray 34) = V := ⟨_, rfl⟩
          obtain ⟨r1, hr4⟩ : ∃ m, V3.heap.size = m := ⟨_, rfl⟩
          have hb4 : Below V3.heap.size V3 V4 := by rw [← hv4]; exact below_al _ _
          have hS4 : Hid (Keep (fun k => k ∈ G.bl p) A V4) := (hS3.out).trans (Keep.below (S := fun _ => False) hb4) (fun _ h _ => h.elim)
          have hX4 : Hid (GAt V4 p G ∧ TsR V4 (some ⟨r2, 0, none⟩) 1 [s] ∧ True) := ⟨(hX3.out.1).below hb4, (hX3.out.2.1).below hb4, trivial⟩
          have hR4 : Hid (VsR V4 (some ⟨r1, 0, none⟩) 1 [x]) := by
            show VsR _ _ _ _
            rw [← hv4, ← hr4]
            exact VsR.one _ _ HV.out
          rw [hv4, hr4]
          clear hv4 hr4 hb4
          refine hK1.out _ _ hS4.out ?_
          clear hK1
          intro _
          try simp only [Act.put, List.setIfInBounds_toArray, List.set_cons_zero, List.set_cons_succ]
          refine wpAnyH_ready (rs := [6]) (by kernel_rfl) (by simp) (AllReadyH.cons (i := 6) (o := { dst := some 38, op := Op.call { callee := Callee.value (Operand.func 22), args := #[Operand.tmp 32, Operand.tmp 33, Operand.tmp 34, Operand.tmp 36, Operand.tmp 37], argTypes := #[25, 34, 34, 35, 36] }, type := 40, pos := "law.go:21", after := #[{ on := 0, ground := Ground.data }, { on := 1, ground := Ground.data }, { on := 2, ground := Ground.data }, { on := 4, ground := Ground.data }, { on := 5, ground := Ground.data }, { on := 3, ground := Ground.chain }], guard := none }) rfl ?_ AllReadyH.nil)
          · intro K1 hK1
            rw [if_pos (by rfl)]
            have HC5 := HADD.out V4 r1 r2 (hX4.out.1) (hR4.out) (hX4.out.2.1)
            go_wp2_with fail
            refine HC5.mono ?_
            rintro e V5 ⟨rfl, G', hga5, hps5⟩
            dsimp only
            clear HC5
            have hS5 : Hid (Keep (fun k => k ∈ G.bl p) A V5) := (hS4.out).trans hga5.2.2 (fun _ h _ => h)
            have hX5 : Hid (GAt V5 p G' ∧ G'.ps = PS ∧ ∀ k ∈ G'.bl p, k ∈ G.bl p ∨ A.heap.size ≤ k) := ⟨hga5.1, hps5, fun k hk => (hga5.2.1 k hk).imp id (fun h => Nat.le_trans (hS4.out).size h)⟩
            clear hga5 hps5
            refine hK1.out _ _ hS5.out ?_
            clear hK1
            intro _
            try simp only [Act.put, List.setIfInBounds_toArray, List.set_cons_zero, List.set_cons_succ]
            refine wpAnyH_take (i := 7) (oi := { dst := some 7, op := Op.assign (Operand.tmp 38), type := 40, pos := "law.go:21", after := #[{ on := 6, ground := Ground.data }, { on := 6, ground := Ground.chain }, { on := 0, ground := Ground.phase }, { on := 1, ground := Ground.phase }, { on := 2, ground := Ground.phase }, { on := 3, ground := Ground.phase }, { on := 4, ground := Ground.phase }, { on := 5, ground := Ground.phase }, { on := 6, ground := Ground.phase }], guard := none }) (v := iv 0) rfl (by kernel_rfl) (by kernel_rfl) (by kernel_rfl) (fun _ _ _ h => h.elim) (Or.inl ⟨by rfl, ?y4⟩) hS5.out ?_
            case y4 =>
              intro V hV
              go_simp
            simp only [Act.put, List.setIfInBounds_toArray, List.set_cons_zero, List.set_cons_succ]
            refine wpAnyH_done (by kernel_rfl) ?_ _
            exact hQ V5 r1 r2 G' hS5.out hX5.out
  · intro K1 hK1
    refine step_bs9 (by rfl) _ rfl s HS.out ?_
    obtain ⟨V1, hv1⟩ : ∃ V, V0.alloc (.cells [Value.string s].toArray 9) = V := ⟨_, rfl⟩
    obtain ⟨r2, hr1⟩ : ∃ m, V0.heap.size = m := ⟨_, rfl⟩
    have hb1 : Below V0.heap.size V0 V1 := by rw [← hv1]; exact below_al _ _
    have hS1 : Hid (Keep (fun k => k ∈ G.bl p) A V1) := (hS0.out).trans (Keep.below (S := fun _ => False) hb1) (fun _ h _ => h.elim)
    have hX1 : Hid (GAt V1 p G ∧ True) := ⟨(hX0.out).below hb1, trivial⟩
    have hR1 : Hid (TsR V1 (some ⟨r2, 0, none⟩) 1 [s]) := by
      show TsR _ _ _ _
      rw [← hv1, ← hr1]
      exact TsR.one _ _
    rw [hv1, hr1]
    clear hv1 hr1 hb1
    refine hK1.out _ _ hS1.out ?_
    clear hK1
    intro _
    try simp only [Act.put, List.setIfInBounds_toArray, List.set_cons_zero, List.set_cons_succ]
    refine wpAnyH_ready (rs := [1]) (by kernel_rfl) (by simp) (AllReadyH.cons (i := 1) (o := { dst := some 33, op := Op.call { callee := Callee.value (Operand.func 29), args := #[Operand.const (Value.int IntKind.i64 5)], argTypes := #[3] }, type := 34, pos := "law.go:21", after := #[], guard := none }) rfl ?_ AllReadyH.nil)
    · intro K1 hK1
      rw [if_pos (by rfl)]
      have HC2 := HIDU.out V1
      go_wp2_with fail
      refine HC2.mono ?_
      rintro e V2 ⟨rfl, hb2⟩
      dsimp only
      clear HC2
      have hS2 : Hid (Keep (fun k => k ∈ G.bl p) A V2) := (hS1.out).trans (Keep.below (S := fun _ => False) hb2) (fun _ h _ => h.elim)
      have hX2 : Hid (GAt V2 p G ∧ TsR V2 (some ⟨r2, 0, none⟩) 1 [s] ∧ True) := ⟨(hX1.out.1).below hb2, (hR1.out).below hb2, trivial⟩
      clear hb2
      refine hK1.out _ _ hS2.out ?_
      clear hK1
      intro _
      try simp only [Act.put, List.setIfInBounds_toArray, List.set_cons_zero, List.set_cons_succ]
      refine wpAnyH_ready (rs := [3]) (by kernel_rfl) (by simp) (AllReadyH.cons (i := 3) (o := { dst := some 35, op := Op.call { callee := Callee.value (Operand.func 29), args := #[Operand.const (Value.int IntKind.i64 8)], argTypes := #[3] }, type := 34, pos := "law.go:21", after := #[{ on := 1, ground := Ground.chain }], guard := none }) rfl ?_ AllReadyH.nil)
      · intro K1 hK1
        rw [if_pos (by rfl)]
        have HC3 := HIDX.out V2
        go_wp2_with fail
        refine HC3.mono ?_
        rintro e V3 ⟨rfl, hb3⟩
        dsimp only
        clear HC3
        have hS3 : Hid (Keep (fun k => k ∈ G.bl p) A V3) := (hS2.out).trans (Keep.below (S := fun _ => False) hb3) (fun _ h _ => h.elim)
        have hX3 : Hid (GAt V3 p G ∧ TsR V3 (some ⟨r2, 0, none⟩) 1 [s] ∧ True) := ⟨(hX2.out.1).below hb3, (hX2.out.2.1).below hb3, trivial⟩
        clear hb3
        refine hK1.out _ _ hS3.out ?_
        clear hK1
        intro _
        try simp only [Act.put, List.setIfInBounds_toArray, List.set_cons_zero, List.set_cons_succ]
        refine wpAnyH_ready (rs := [4]) (by kernel_rfl) (by simp) (AllReadyH.cons (i := 4) (o := { dst := some 36, op := Op.buildSlice 35 1 #[(0, Operand.tmp 35)], type := 35, pos := "law.go:21", after := #[{ on := 3, ground := Ground.data }], guard := none }) rfl ?_ AllReadyH.nil)
        · intro K1 hK1
          refine step_bs1 (by rfl) _ rfl x HV.out.1 (by rw [HXC.out]; rfl) ?_
          obtain ⟨V4, hv4⟩ : ∃ V, V3.alloc (.cells x.cells.toArray 34) = V := ⟨_, rfl⟩
          obtain ⟨r1, hr4⟩ : ∃ m, V3.heap.size = m := ⟨_, rfl⟩
          have hb4 : Below V3.heap.size V3 V4 := by rw [← hv4]; exact below_al _ _
          have hS4 : Hid (Keep (fun k => k ∈ G.bl p) A V4) := (hS3.out).trans (Keep.below (S := fun _ => False) hb4) (fun _ h _ => h.elim)
          have hX4 : Hid (GAt V4 p G ∧ TsR V4 (some ⟨r2, 0, none⟩) 1 [s] ∧ True) := ⟨(hX3.out.1).below hb4, (hX3.out.2.1).below hb4, trivial⟩
          have hR4 : Hid (VsR V4 (some ⟨r1, 0, none⟩) 1 [x]) := by
            show VsR _ _ _ _
            rw [← hv4, ← hr4]
            exact VsR.one _ _ HV.out
          rw [hv4, hr4]
          clear hv4 hr4 hb4
          refine hK1.out _ _ hS4.out ?_
          clear hK1
          intro _
          try simp only [Act.put, List.setIfInBounds_toArray, List.set_cons_zero, List.set_cons_succ]
          refine wpAnyH_ready (rs := [6]) (by kernel_rfl) (by simp) (AllReadyH.cons (i := 6) (o := { dst := some 38, op := Op.call { callee := Callee.value (Operand.func 22), args := #[Operand.tmp 32, Operand.tmp 33, Operand.tmp 34, Operand.tmp 36, Operand.tmp 37], argTypes := #[25, 34, 34, 35, 36] }, type := 40, pos := "law.go:21", after := #[{ on := 0, ground := Ground.data }, { on := 1, ground := Ground.data }, { on := 2, ground := Ground.data }, { on := 4, ground := Ground.data }, { on := 5, ground := Ground.data }, { on := 3, ground := Ground.chain }], guard := none }) rfl ?_ AllReadyH.nil)
          · intro K1 hK1
            rw [if_pos (by rfl)]
            have HC5 := HADD.out V4 r1 r2 (hX4.out.1) (hR4.out) (hX4.out.2.1)
            go_wp2_with fail
            refine HC5.mono ?_
            rintro e V5 ⟨rfl, G', hga5, hps5⟩
            dsimp only
            clear HC5
            have hS5 : Hid (Keep (fun k => k ∈ G.bl p) A V5) := (hS4.out).trans hga5.2.2 (fun _ h _ => h)
            have hX5 : Hid (GAt V5 p G' ∧ G'.ps = PS ∧ ∀ k ∈ G'.bl p, k ∈ G.bl p ∨ A.heap.size ≤ k) := ⟨hga5.1, hps5, fun k hk => (hga5.2.1 k hk).imp id (fun h => Nat.le_trans (hS4.out).size h)⟩
            clear hga5 hps5
            refine hK1.out _ _ hS5.out ?_
            clear hK1
            intro _
            try simp only [Act.put, List.setIfInBounds_toArray, List.set_cons_zero, List.set_cons_succ]
            refine wpAnyH_take (i := 7) (oi := { dst := some 7, op := Op.assign (Operand.tmp 38), type := 40, pos := "law.go:21", after := #[{ on := 6, ground := Ground.data }, { on := 6, ground := Ground.chain }, { on := 0, ground := Ground.phase }, { on := 1, ground := Ground.phase }, { on := 2, ground := Ground.phase }, { on := 3, ground := Ground.phase }, { on := 4, ground := Ground.phase }, { on := 5, ground := Ground.phase }, { on := 6, ground := Ground.phase }], guard := none }) (v := iv 0) rfl (by kernel_rfl) (by kernel_rfl) (by kernel_rfl) (fun _ _ _ h => h.elim) (Or.inl ⟨by rfl, ?y5⟩) hS5.out ?_
            case y5 =>
              intro V hV
              go_simp
            simp only [Act.put, List.setIfInBounds_toArray, List.set_cons_zero, List.set_cons_succ]
            refine wpAnyH_done (by kernel_rfl) ?_ _
            exact hQ V5 r1 r2 G' hS5.out hX5.out
end Go.Proofs.Ytjcihaohpbmogaa.Oct

/- Layer 11 (lines): lives: the chapter's example. -/
namespace Go.Proofs.Ytjcihaohpbmogaa.Oct
open Go.RowKit
set_option maxRecDepth 100000
set_option linter.unusedSimpArgs false
set_option linter.unusedVariables false
set_option linter.unusedSectionVars false

theorem addone {ps : List PL} {p : Nat} {G : Gm} (hps : G.ps = ps) (ht : tiedP ps) (hl : lenP ps) (up dn x : Vx) (hu : Vk up) (hd : Vk dn) (hx : x ∉ keysP ps) (hxe : isE x = false) (hup : (isE up || decide (up ∈ keysP ps)) = true) (hdn : (isE dn || decide (dn ∈ keysP ps)) = true) (hne : up ≠ dn) (hor : up = vTop ∨ dn = vBot) (hlen : ps.length ≤ 500) (s : BA) (CU CD : List Value) (hCU : up.cells = CU) (hCD : dn.cells = CD) :
    ∀ V r1 r2, GAt V p G → VsR V (some ⟨r1, 0, none⟩) 1 [x] → TsR V (some ⟨r2, 0, none⟩) 1 [s] → Calls Try.prog 22 #[.pointer (some ⟨p, 0, none⟩), .agg CU.toArray, .agg CD.toArray, .slice (some ⟨r1, 0, none⟩) 1 1, .slice (some ⟨r2, 0, none⟩) 1 1] V fun e w' => e = .returned (iv 0) ∧ ∃ G', GAfter V p G G' w' ∧ G'.ps = addP ps up dn [x] [s] := by
  intro V r1 r2 hG hv hs
  have hmb : mayBe [x] = true := by unfold mayBe; simp [idSet, Gr.join, hxe]
  have hk := keys_ps G
  rw [hps] at hk
  have hup' : G.has up = true := by unfold Gm.has; rw [hk]; exact hup
  have hdn' : G.has dn = true := by unfold Gm.has; rw [hk]; exact hdn
  have hE : G.addE true up dn [x] 1 = 0 := by
    have hls := ls_ps G
    rw [hps] at hls
    unfold Gm.addE
    rw [if_neg (by simp [hmb]), if_neg (by rw [hk]; simpa using hx), if_neg (by simp [hup', hdn']), if_neg (by simp), if_neg (by simp; omega)]
  refine (add_is hG (tied_ps (by rw [hps]; exact ht)) (len_ps (by rw [hps]; exact hl)) up dn hu hd _ 1 1 [x] hv (by omega) _ 1 1 [s] hs true ⟨fun _ => ⟨hup', hdn', hne, hor.elim .inl (fun h => .inr (.inl h))⟩, fun _ => rfl⟩ 0 hE CU CD hCU hCD).mono ?_
  rintro e w' ⟨rfl, G', hga, _, hps'⟩
  exact ⟨rfl, G', hga, by rw [hps', if_pos rfl, hps]⟩
theorem wpList_bsW {ops : Array Oper} {rest : List Oper} {o : Oper} {a : Act} {w : World} {Q : Exit → Act → World → Prop} (hw : Region.wanted o (yielded ops a.tmps) = true) (T : TypeId) (n : Nat) (xs : Array (Nat × Operand)) (hop : o.op = Op.buildSlice T n xs) (us : Array (Nat × Value)) (hx : (xs.map fun (i, x) => (i, a.eval x)) = us) (r : Value) (W' : World) (hr : (Instr.buildSlice T n us).run Try.prog w = .ok r W')
    (hK : wpList Try.prog ops Q rest (a.put o.dst r) W') : wpList Try.prog ops Q (o :: rest) a w := by
  subst hx
  refine Go.BigFrame.wpList_want hw fun K' hK' => ?_
  unfold Oper.wp execOp
  simp only [hop, hr, Sem.run_bind, Sem.run_pure, Result.andThen_ok]
  exact hK' _ _ hK
theorem bs94 (s t u v : BA) (W : World) : (Instr.buildSlice 36 4 #[(0, .string s), (1, .string t), (2, .string u), (3, .string v)]).run Try.prog W = .ok (.slice (some ⟨W.heap.size, 0, none⟩) 4 4) (W.alloc (.cells (strs [s, t, u, v]).toArray 9)) := by kernel_rfl
theorem cr_strs (w : World) (l : List BA) : CR (w.alloc (.cells (strs l).toArray 9)) 9 (some ⟨w.heap.size, 0, none⟩) l.length (strs l) := by
  have hb : Blk (w.alloc (.cells (strs l).toArray 9)) w.heap.size 9 (strs l) := by simpa using Blk.new w (strs l).toArray 9
  exact ⟨by simp [strs], fun _ => ⟨_, 0, rfl, ⟨_, _, hb⟩, fun i v hi => by rw [Nat.zero_add]; exact hb.cell hi⟩⟩
set_option maxHeartbeats 4000000 in
theorem lives_is (w : World) : Calls Try.prog 10 #[] w fun e w' => e = .returned (.bool true) ∧ Below w.heap.size w w' := by
  obtain ⟨Z, hZ, HZ⟩ := zval34
  obtain ⟨CT, hCT⟩ : ∃ C, vTop.cells = C := ⟨_, rfl⟩
  obtain ⟨CB, hCB⟩ : ∃ C, vBot.cells = C := ⟨_, rfl⟩
  have HT : Hid (vTop.cells = CT ∧ CT.length = 33 ∧ (∀ v ∈ CT, v.oneCell' = true) ∧ (Try.prog.info? 34).map (·.size) = some CT.length) := ⟨hCT, by rw [← hCT]; exact Vx.len vTop_ok, by rw [← hCT]; exact Vx.one _, by rw [← hCT]; exact info34 vTop_ok⟩
  have HB : Hid (vBot.cells = CB ∧ CB.length = 33 ∧ (∀ v ∈ CB, v.oneCell' = true) ∧ (Try.prog.info? 34).map (·.size) = some CB.length) := ⟨hCB, by rw [← hCB]; exact Vx.len vBot_ok, by rw [← hCB]; exact Vx.one _, by rw [← hCB]; exact info34 vBot_ok⟩
  have hb1 := built34
  have hb2 := built34b
  rw [hCT] at hb1
  rw [hCB] at hb2
  obtain ⟨x5, h5⟩ : ∃ x, idv 5 = x := ⟨_, rfl⟩
  obtain ⟨x6, h6⟩ : ∃ x, idv 6 = x := ⟨_, rfl⟩
  obtain ⟨x7, h7⟩ : ∃ x, idv 7 = x := ⟨_, rfl⟩
  obtain ⟨x8, h8⟩ : ∃ x, idv 8 = x := ⟨_, rfl⟩
  have H5 : Hid (idv 5 = x5) := h5
  have H6 : Hid (idv 6 = x6) := h6
  have H7 : Hid (idv 7 = x7) := h7
  have H8 : Hid (idv 8 = x8) := h8
  have HK5 : Hid (Vk x5) := by rw [← h5]; exact idv_k 5 (by decide)
  have HK6 : Hid (Vk x6) := by rw [← h6]; exact idv_k 6 (by decide)
  have HK7 : Hid (Vk x7) := by rw [← h7]; exact idv_k 7 (by decide)
  have HK8 : Hid (Vk x8) := by rw [← h8]; exact idv_k 8 (by decide)
  obtain ⟨C5, hc5⟩ : ∃ C, x5.cells = C := ⟨_, rfl⟩
  obtain ⟨C6, hc6⟩ : ∃ C, x6.cells = C := ⟨_, rfl⟩
  obtain ⟨C7, hc7⟩ : ∃ C, x7.cells = C := ⟨_, rfl⟩
  obtain ⟨C8, hc8⟩ : ∃ C, x8.cells = C := ⟨_, rfl⟩
  have HC5 : Hid (x5.cells = C5) := hc5
  have HC6 : Hid (x6.cells = C6) := hc6
  have HC7 : Hid (x7.cells = C7) := hc7
  have HC8 : Hid (x8.cells = C8) := hc8
  have HI5 : Hid (∀ W, Calls Try.prog 29 #[iv 5] W fun e w' => e = .returned (.agg C5.toArray) ∧ Below W.heap.size W w') := fun W => id_is W 5 C5 (by rw [h5]; exact hc5)
  have HI6 : Hid (∀ W, Calls Try.prog 29 #[iv 6] W fun e w' => e = .returned (.agg C6.toArray) ∧ Below W.heap.size W w') := fun W => id_is W 6 C6 (by rw [h6]; exact hc6)
  have HI7 : Hid (∀ W, Calls Try.prog 29 #[iv 7] W fun e w' => e = .returned (.agg C7.toArray) ∧ Below W.heap.size W w') := fun W => id_is W 7 C7 (by rw [h7]; exact hc7)
  have HI8 : Hid (∀ W, Calls Try.prog 29 #[iv 8] W fun e w' => e = .returned (.agg C8.toArray) ∧ Below W.heap.size W w') := fun W => id_is W 8 C8 (by rw [h8]; exact hc8)
  clear hCT hCB h5 h6 h7 h8 hc5 hc6 hc7 hc8
  go_enter Try.func10, Try.ntmps10
  go_wp2_with fail
  refine (new_is w).mono ?_
  rintro e W1 ⟨p, G0, rfl, HG, HB1⟩
  go_wp2_with (first
    | (with_reducible change wpList _ _ _ ({ dst := some 9, op := _, type := _, pos := _, after := _, guard := _ } :: _) _ _
       refine wpList_built rfl 34 _ rfl CT.toArray (by rw [← hb1]; first | (simp; done) | (simp; rfl)) ?_)
    | (with_reducible change wpList _ _ _ ({ dst := some 10, op := _, type := _, pos := _, after := _, guard := _ } :: _) _ _
       refine wpList_built rfl 34 _ rfl CB.toArray (by rw [← hb2]; first | (simp; done) | (simp; rfl)) ?_)
    | (with_reducible change wpList _ _ _ ({ dst := none, op := Op.store 34 _ _, type := _, pos := _, after := _, guard := _ } :: _) _ _
       refine Hid.out ?_)
    | fail)
  show wpList _ _ _ _ _ _
  clear hb1 hb2 hZ
  obtain ⟨d2, hd2⟩ : ∃ d, W1.heap.size = d := ⟨_, rfl⟩
  obtain ⟨W2, hW2⟩ : ∃ W, W1.alloc (.cells Z.toArray 34) = W := ⟨_, rfl⟩
  have k2 : Blk W2 d2 34 Z := by rw [← hW2, ← hd2]; exact Blk.new W1 _ _
  have b2 : Below W1.heap.size W1 W2 := by rw [← hW2]; exact below_al _ _
  obtain ⟨d3, hd3⟩ : ∃ d, W2.heap.size = d := ⟨_, rfl⟩
  obtain ⟨W3, hW3⟩ : ∃ W, W2.alloc (.cells Z.toArray 34) = W := ⟨_, rfl⟩
  have k3 : Blk W3 d3 34 Z := by rw [← hW3, ← hd3]; exact Blk.new W2 _ _
  have b3 : Below W2.heap.size W2 W3 := by rw [← hW3]; exact below_al _ _
  have hs3 : W2.heap.size = W1.heap.size + 1 := by rw [← hW2]; simp
  have e3 : d2 + 1 = d3 := by rw [← hd2, ← hs3]; exact hd3
  have H1 : Hid (Below w.heap.size w W3 ∧ Blk W3 d2 34 Z ∧ Blk W3 d3 34 Z ∧ GAt W3 p G0 ∧ G0.ps = [] ∧ (∀ k ∈ G0.bl p, w.heap.size ≤ k) ∧ d2 < d3 ∧ W1.heap.size = d2 ∧ w.heap.size ≤ d2) := by
    refine ⟨below_tr HB1.out (below_tr b2 b3), k2.below b3 k2.lt, k3, HG.out.1.below (below_tr b2 b3), HG.out.2.1, HG.out.2.2, ?_, hd2, by rw [← hd2]; exact HB1.out.size⟩
    rw [← hd3]
    exact k2.lt
  have HNE : Hid (¬ d2 ∈ G0.bl p ∧ ¬ d3 ∈ G0.bl p) := by
    have hlt : ∀ k ∈ G0.bl p, k < W1.heap.size := HG.out.1.hp.lt
    have := H1.out.2.2.2.2.2.2.1
    have := H1.out.2.2.2.2.2.2.2.1
    exact ⟨fun h => by have := hlt _ h; omega, fun h => by have := hlt _ h; omega⟩
  simp only [hW2, hW3, hd2, hd3, e3]
  clear k2 b2 k3 b3 hW2 hW3 hd2 hd3 hs3 e3 HG HB1
  refine wpList_store_blk rfl 34 (.tmp 2) (.tmp 9) rfl d2 0 34 Z CT rfl rfl H1.out.2.1 (by rw [HT.out.2.1, HZ.out]; exact Nat.le_refl _) HT.out.2.2.2 HT.out.2.2.1 ?_
  intro W4 r1 r2
  have H2 : Hid (Below w.heap.size w W4 ∧ Blk W4 d2 34 CT ∧ Blk W4 d3 34 Z ∧ GAt W4 p G0) := by
    have hg := r2.out
    refine ⟨H1.out.1.grown hg H1.out.1.size (fun k hk => ?_), blk_all r1.out (by rw [HT.out.2.1, HZ.out]), (hg.block d3 H1.out.2.2.1.lt (fun e => ?_)).trans H1.out.2.2.1, H1.out.2.2.2.1.keep (Keep.grown (S := fun k => k = d2) hg rfl) (fun k hk e => HNE.out.1 (e ▸ hk))⟩
    · have e := Option.some.inj hk
      have := H1.out.2.2.2.2.2.2.2.2
      omega
    · have e := Option.some.inj e
      have := H1.out.2.2.2.2.2.2.1
      omega
  clear r1 r2
  go_wp2_with (first
    | (with_reducible change wpList _ _ _ ({ dst := none, op := Op.store 34 _ _, type := _, pos := _, after := _, guard := _ } :: _) _ _
       refine Hid.out ?_)
    | fail)
  show wpList _ _ _ _ _ _
  refine wpList_store_blk rfl 34 (.tmp 3) (.tmp 10) rfl d3 0 34 Z CB rfl rfl H2.out.2.2.1 (by rw [HB.out.2.1, HZ.out]; exact Nat.le_refl _) HB.out.2.2.2 HB.out.2.2.1 ?_
  intro W5 r1 r2
  have H3 : Hid (Below w.heap.size w W5 ∧ Blk W5 d2 34 CT ∧ Blk W5 d3 34 CB ∧ GAt W5 p G0 ∧ G0.ps = [] ∧ ∀ k ∈ G0.bl p, w.heap.size ≤ k) := by
    have hg := r2.out
    have h9 := H1.out.2.2.2.2.2.2
    refine ⟨H2.out.1.grown hg H2.out.1.size (fun k hk => ?_), (hg.block d2 H2.out.2.1.lt (fun e => ?_)).trans H2.out.2.1, blk_all r1.out (by rw [HB.out.2.1, HZ.out]), H2.out.2.2.2.keep (Keep.grown (S := fun k => k = d3) hg rfl) (fun k hk e => HNE.out.2 (e ▸ hk)), H1.out.2.2.2.2.1, H1.out.2.2.2.2.2.1⟩
    · have e := Option.some.inj hk
      omega
    · have e := Option.some.inj e
      omega
  clear r1 r2 H1 H2
  go_wp2_with fail
  have HADD1 := hid_of (addone (ps := []) (p := p) (G := G0) H3.out.2.2.2.2.1 ⟨by simp [keysP], by simp⟩ (by intro q hq; simp at hq) vTop vBot x5 vTop_k vBot_k (by simp [keysP]) (by rw [← H5.out]; decide) (by decide) (by decide) (by decide) (.inl rfl) (by simp) sa CT CB HT.out.1 HB.out.1)
  refine lv3 (x := x5) (s := sa) H3.out.2.2.2.1 HK5 HC5 ⟨H3.out.2.1.lt, HNE.out.1⟩ H3.out.2.1.range0 HT.out.2.2.2 ⟨H3.out.2.2.1.lt, HNE.out.2⟩ H3.out.2.2.1.range0 HB.out.2.2.2 HI5 rfl HADD1 ?_
  clear HADD1
  intro V1 s1 s2 G1 hk hx
  have H4g : Hid (Below w.heap.size w V1 ∧ Blk V1 d2 34 CT ∧ Blk V1 d3 34 CB ∧ GAt V1 p G1 ∧ G1.ps = q1p ∧ (∀ k ∈ G1.bl p, w.heap.size ≤ k) ∧ (¬ d2 ∈ G1.bl p ∧ ¬ d3 ∈ G1.bl p)) := by
    have hsz := H3.out.1.size
    refine ⟨H3.out.1.trans (hk.toBelow hsz (fun k hk => H3.out.2.2.2.2.2 k hk)), hk.blk H3.out.2.1 HNE.out.1, hk.blk H3.out.2.2.1 HNE.out.2, hx.1, by rw [hx.2.1]; show addP [] vTop vBot [x5] [sa] = _; rw [← H5.out]; rfl, fun k hk => ?_, fun hk => ?_, fun hk => ?_⟩
    · rcases hx.2.2 k hk with h | h
      · exact H3.out.2.2.2.2.2 k h
      · exact Nat.le_trans hsz h
    · rcases hx.2.2 d2 hk with h | h
      · exact HNE.out.1 h
      · have := H3.out.2.1.lt; omega
    · rcases hx.2.2 d3 hk with h | h
      · exact HNE.out.2 h
      · have := H3.out.2.2.1.lt; omega
  clear hk hx H3
  go_wp2_with fail
  have HADD2 := hid_of (addone (ps := q1p) (p := p) (G := G1) H4g.out.2.2.2.2.1 tied1 lens.1 vTop x5 x6 vTop_k HK5.out (by rw [← H6.out]; decide +kernel) (by rw [← H6.out]; decide) (by decide +kernel) (by rw [← H5.out]; decide +kernel) (by rw [← H5.out]; decide +kernel) (.inl rfl) (by decide +kernel) sb CT C5 HT.out.1 HC5.out)
  refine lv4 (x := x6) (s := sb) H4g.out.2.2.2.1 HK6 HC6 ⟨H4g.out.2.1.lt, H4g.out.2.2.2.2.2.2.1⟩ H4g.out.2.1.range0 HT.out.2.2.2 HI5 HI6 rfl HADD2 ?_
  clear HADD2
  intro V2 s1 s2 G2 hk hx
  have H5g : Hid (Below w.heap.size w V2 ∧ Blk V2 d2 34 CT ∧ Blk V2 d3 34 CB ∧ GAt V2 p G2 ∧ G2.ps = q2p ∧ (∀ k ∈ G2.bl p, w.heap.size ≤ k) ∧ (¬ d2 ∈ G2.bl p ∧ ¬ d3 ∈ G2.bl p)) := by
    have hsz := H4g.out.1.size
    refine ⟨H4g.out.1.trans (hk.toBelow hsz (fun k hk => H4g.out.2.2.2.2.2.1 k hk)), hk.blk H4g.out.2.1 H4g.out.2.2.2.2.2.2.1, hk.blk H4g.out.2.2.1 H4g.out.2.2.2.2.2.2.2, hx.1, by rw [hx.2.1]; show addP q1p vTop x5 [x6] [sb] = _; rw [← H5.out, ← H6.out]; rfl, fun k hk => ?_, fun hk => ?_, fun hk => ?_⟩
    · rcases hx.2.2 k hk with h | h
      · exact H4g.out.2.2.2.2.2.1 k h
      · exact Nat.le_trans hsz h
    · rcases hx.2.2 d2 hk with h | h
      · exact H4g.out.2.2.2.2.2.2.1 h
      · have := H4g.out.2.1.lt; omega
    · rcases hx.2.2 d3 hk with h | h
      · exact H4g.out.2.2.2.2.2.2.2 h
      · have := H4g.out.2.2.1.lt; omega
  clear hk hx H4g
  go_wp2_with fail
  have HADD3 := hid_of (addone (ps := q2p) (p := p) (G := G2) H5g.out.2.2.2.2.1 tied2 lens.2.1 x5 vBot x7 HK5.out vBot_k (by rw [← H7.out]; decide +kernel) (by rw [← H7.out]; decide) (by rw [← H5.out]; decide +kernel) (by decide +kernel) (by rw [← H5.out]; decide +kernel) (.inr rfl) (by decide +kernel) sc C5 CB HC5.out HB.out.1)
  refine lv5 (x := x7) (s := sc) H5g.out.2.2.2.1 HK7 HC7 ⟨H5g.out.2.2.1.lt, H5g.out.2.2.2.2.2.2.2⟩ H5g.out.2.2.1.range0 HB.out.2.2.2 HI5 HI7 rfl HADD3 ?_
  clear HADD3
  intro V3 s1 s2 G3 hk hx
  have H6g : Hid (Below w.heap.size w V3 ∧ Blk V3 d2 34 CT ∧ Blk V3 d3 34 CB ∧ GAt V3 p G3 ∧ G3.ps = q3p ∧ (∀ k ∈ G3.bl p, w.heap.size ≤ k) ∧ (¬ d2 ∈ G3.bl p ∧ ¬ d3 ∈ G3.bl p)) := by
    have hsz := H5g.out.1.size
    refine ⟨H5g.out.1.trans (hk.toBelow hsz (fun k hk => H5g.out.2.2.2.2.2.1 k hk)), hk.blk H5g.out.2.1 H5g.out.2.2.2.2.2.2.1, hk.blk H5g.out.2.2.1 H5g.out.2.2.2.2.2.2.2, hx.1, by rw [hx.2.1]; show addP q2p x5 vBot [x7] [sc] = _; rw [← H5.out, ← H7.out]; rfl, fun k hk => ?_, fun hk => ?_, fun hk => ?_⟩
    · rcases hx.2.2 k hk with h | h
      · exact H5g.out.2.2.2.2.2.1 k h
      · exact Nat.le_trans hsz h
    · rcases hx.2.2 d2 hk with h | h
      · exact H5g.out.2.2.2.2.2.2.1 h
      · have := H5g.out.2.1.lt; omega
    · rcases hx.2.2 d3 hk with h | h
      · exact H5g.out.2.2.2.2.2.2.2 h
      · have := H5g.out.2.2.1.lt; omega
  clear hk hx H5g
  go_wp2_with fail
  have HADD4 := hid_of (addone (ps := q3p) (p := p) (G := G3) H6g.out.2.2.2.2.1 tied3 lens.2.2.1 x5 vBot x8 HK5.out vBot_k (by rw [← H8.out]; decide +kernel) (by rw [← H8.out]; decide) (by rw [← H5.out]; decide +kernel) (by decide +kernel) (by rw [← H5.out]; decide +kernel) (.inr rfl) (by decide +kernel) sd C5 CB HC5.out HB.out.1)
  refine lv6 (x := x8) (s := sd) H6g.out.2.2.2.1 HK8 HC8 ⟨H6g.out.2.2.1.lt, H6g.out.2.2.2.2.2.2.2⟩ H6g.out.2.2.1.range0 HB.out.2.2.2 HI5 HI8 rfl HADD4 ?_
  clear HADD4
  intro V4 s1 s2 G4 hk hx
  have H7g : Hid (Below w.heap.size w V4 ∧ Blk V4 d2 34 CT ∧ Blk V4 d3 34 CB ∧ GAt V4 p G4 ∧ G4.ps = q4p ∧ (∀ k ∈ G4.bl p, w.heap.size ≤ k) ∧ (¬ d2 ∈ G4.bl p ∧ ¬ d3 ∈ G4.bl p)) := by
    have hsz := H6g.out.1.size
    refine ⟨H6g.out.1.trans (hk.toBelow hsz (fun k hk => H6g.out.2.2.2.2.2.1 k hk)), hk.blk H6g.out.2.1 H6g.out.2.2.2.2.2.2.1, hk.blk H6g.out.2.2.1 H6g.out.2.2.2.2.2.2.2, hx.1, by rw [hx.2.1]; show addP q3p x5 vBot [x8] [sd] = _; rw [← H5.out, ← H8.out]; rfl, fun k hk => ?_, fun hk => ?_, fun hk => ?_⟩
    · rcases hx.2.2 k hk with h | h
      · exact H6g.out.2.2.2.2.2.1 k h
      · exact Nat.le_trans hsz h
    · rcases hx.2.2 d2 hk with h | h
      · exact H6g.out.2.2.2.2.2.2.1 h
      · have := H6g.out.2.1.lt; omega
    · rcases hx.2.2 d3 hk with h | h
      · exact H6g.out.2.2.2.2.2.2.2 h
      · have := H6g.out.2.2.1.lt; omega
  clear hk hx H6g
  go_wp2_with fail
  have HP4 : Hid (G4.ps = q4p) := H7g.out.2.2.2.2.1
  have HAC := hid_of (acy_ps (G := G4) (F := F4) (by rw [H7g.out.2.2.2.2.1]; exact acy4))
  refine (text_is H7g.out.2.2.2.1 F4 HAC.out).mono ?_
  rintro e U1 ⟨ta, tn, tc, vs, rfl, HTX, HB2⟩
  have K1 : Hid (Below w.heap.size w U1 ∧ GAt U1 p G4 ∧ CR U1 9 ta tn (strs [sb, sa, sc, sd]) ∧ tn = 4) := by
    have hr := HTX.out.1
    have hc := HTX.out.2
    rw [rise_ps, H7g.out.2.2.2.2.1] at hr
    rw [shown_ps, H7g.out.2.2.2.2.1, riseP_one hr rise4, txs4] at hc
    exact ⟨below_tr H7g.out.1 HB2.out, H7g.out.2.2.2.1.below HB2.out, hc, hc.1.symm⟩
  clear HTX HB2
  go_wp2_with (first
    | (with_reducible change wpList _ _ _ ({ dst := some 56, op := _, type := _, pos := _, after := _, guard := _ } :: _) _ _
       refine Hid.out ?_)
    | fail)
  show wpList _ _ _ _ _ _
  obtain ⟨U2, hU2⟩ : ∃ U, U1.alloc (.cells (strs [sb, sa, sc, sd]).toArray 9) = U := ⟨_, rfl⟩
  obtain ⟨z2, hz2⟩ : ∃ z, U1.heap.size = z := ⟨_, rfl⟩
  have K2 : Hid (Below w.heap.size w U2 ∧ GAt U2 p G4 ∧ CR U2 9 ta tn (strs [sb, sa, sc, sd]) ∧ tn = 4 ∧ CR U2 9 (some ⟨z2, 0, none⟩) 4 (strs [sb, sa, sc, sd])) := by
    have hb : Below U1.heap.size U1 U2 := by rw [← hU2]; exact below_al _ _
    exact ⟨below_tr K1.out.1 hb, K1.out.2.1.below hb, K1.out.2.2.1.below hb, K1.out.2.2.2, by rw [← hU2, ← hz2]; exact cr_strs U1 [sb, sa, sc, sd]⟩
  refine wpList_bsW (by rfl) 36 4 _ rfl #[(0, .string sb), (1, .string sa), (2, .string sc), (3, .string sd)] (by simp only [List.map_toArray, List.map_cons, List.map_nil]; rfl) (.slice (some ⟨U1.heap.size, 0, none⟩) 4 4) (U1.alloc (.cells (strs [sb, sa, sc, sd]).toArray 9)) (bs94 sb sa sc sd U1) ?_
  rw [hU2, hz2]
  clear hU2 hz2 K1 H7g
  go_wp2_with fail
  refine (texts_is U2 ta (some ⟨z2, 0, none⟩) tn 4 tc 4 [sb, sa, sc, sd] [sb, sa, sc, sd] K2.out.2.2.1 K2.out.2.2.2.2 (by have := K2.out.2.2.2.1; omega) (by omega) true (by simp)).mono ?_
  rintro e U3 ⟨rfl, hb⟩
  have K3 : Hid (Below w.heap.size w U3 ∧ GAt U3 p G4 ∧ G4.ps = q4p) := ⟨below_tr K2.out.1 hb, K2.out.2.1.below hb, HP4.out⟩
  clear hb K2
  go_wp2_with fail
  refine (conflicts_is K3.out.2.1 F4 HAC.out).mono ?_
  rintro e U4 ⟨vs', rfl, HR4, HB4⟩
  have K4 : Hid (Below w.heap.size w U4 ∧ GAt U4 p G4) := ⟨below_tr K3.out.1 HB4.out, K3.out.2.1.below HB4.out⟩
  have hcf : G4.conf vs' = 1 := by
    have hr := HR4.out
    rw [rise_ps, K3.out.2.2] at hr
    rw [conf_ps, K3.out.2.2, riseP_one hr rise4, conf4]
  rw [hcf]
  clear HR4 HB4 hcf
  go_wp2_with fail
  refine (len_is K4.out.2).mono ?_
  rintro e U5 ⟨rfl, rfl⟩
  have hl4 : (G4.ls.length : Int) = 4 := by rw [ls_ps, K3.out.2.2, len4]; rfl
  rw [hl4]
  clear hl4
  go_wp2
  go_ret
  exact ⟨rfl, K4.out.1⟩
end Go.Proofs.Ytjcihaohpbmogaa.Oct

/- Layer 11 (lines): the laws' arguments. -/
namespace Go.Proofs.Ytjcihaohpbmogaa.Oct
open Go.RowKit Go.ChangeShapes Go.WideShapes Go.ChangeAt Go.Deep
set_option maxRecDepth 100000
set_option linter.unusedSimpArgs false
set_option linter.unusedVariables false

instance : Inhabited Vx := ⟨vTop⟩
theorem cut_at (cs : List Value) (a n b : Nat) (h : a + n = b) : cs.drop a = (cs.drop a).take n ++ cs.drop b := by
  subst h
  rw [← List.drop_drop, List.take_append_drop]
theorem cut_last (cs : List Value) (a n : Nat) (h : cs.length = a + n) : cs.drop a = (cs.drop a).take n := by
  rw [List.take_of_length_le (by rw [List.length_drop]; omega)]
section
variable {H : Type} {enc : TypeId × Value → H} {w : World}

theorem mem_weightsAll {P : Program} {e : TypeId} {d : DataW H} {n : Nat} (hn : n ∈ d.weights P e) : ∀ {ds : List (DataW H)}, d ∈ ds → n ∈ DataW.weightsAll P e ds
  | [], h => by cases h
  | d0 :: r, h => by
    simp only [DataW.weightsAll, List.mem_append]
    rcases List.mem_cons.1 h with rfl | h
    · exact .inl hn
    · exact .inr (mem_weightsAll hn h)
/-- a hash that was read -/
theorem view_hash {n : Nat} {cs : List Value} {x : DataW H × List MemPlace} (h : DataW.trod enc Try.prog w 0 (fun _ => true) true n 32 cs = some x) : ∃ hh : Hs, hh.length = 32 ∧ cs = U hh := by
  obtain ⟨xs, m, _, _, hl, hxl, hf⟩ := DataW.trod_array Try.underlying32 h
  have hl' : cs.length = 32 := by rw [hl]; kernel_rfl
  have c5 : Try.prog.cellsOf 5 = 1 := by kernel_rfl
  rw [c5] at hf
  have each : ∀ i, i < 32 → ∃ c : UInt8, cs[i]? = some (.int .u8 (c.toNat : Int)) := by
    intro i hi
    have h1 := hf i hi
    rw [List.getElem?_eq_getElem (by omega)] at h1
    obtain ⟨k, hk, _, hw⟩ := DataW.trod_int Try.underlying5 h1
    have hb := bounds_u8 hw
    refine ⟨UInt8.ofNat k.toNat, ?_⟩
    have : cs[i]? = some (.int .u8 k) := by
      rw [Nat.mul_one] at hk
      have := congrArg (·[0]?) hk
      simpa [List.getElem?_take, List.getElem?_drop] using this
    rw [this, UInt8.toNat_ofNat']
    congr 2
    omega
  obtain ⟨G, hG⟩ := choose_lt each
  refine ⟨(List.range 32).map G, by simp, ?_⟩
  apply List.ext_getElem?
  intro i
  by_cases hi : i < 32
  · rw [hG i hi]; simp [U, hi]
  · rw [List.getElem?_eq_none (by omega), List.getElem?_eq_none (by simp [U]; omega)]
/-- cells that were read are a range -/
theorem range_of_cells {b off n : Nat} {cs : List Value} (h : w.cells? 0 ⟨b, off, none⟩ n = some cs) : w.rangeAt b off cs := by
  obtain ⟨_, hlen, hcell⟩ := World.cells?_some h
  intro j v hj
  have hlt := (List.getElem?_eq_some_iff.1 hj).1
  have := hcell j (by omega)
  rw [Addr.add_lit] at this
  rw [← hj]
  exact this
theorem view_vx {fuel : Nat} {cs : List Value} {x : DataW H × List MemPlace} (h : DataW.trod enc Try.prog w 0 (fun _ => true) true fuel 34 cs = some x) :
    ∃ v : Vx, Vk v ∧ cs = v.cells := by
  obtain ⟨ys, k, hk, hxy, hcl, hxl, hf⟩ := DataW.trod_struct Try.underlying34 h
  have hcl' : cs.length = 33 := by rw [hcl]; kernel_rfl
  have hxl' : ys.length = 2 := hxl
  obtain ⟨y0, y1, rfl⟩ : ∃ y0 y1, ys = [y0, y1] := by
    rcases ys with _ | ⟨y0, _ | ⟨y1, _ | ⟨z, l⟩⟩⟩ <;> simp at hxl'
    exact ⟨y0, y1, rfl⟩
  have g0 := hf 0 _ rfl
  change DataW.trod enc Try.prog w 0 _ true k 32 ((cs.drop 0).take (Try.prog.cellsOf 32)) = some y0 at g0
  rw [show Try.prog.cellsOf 32 = 32 by kernel_rfl] at g0
  obtain ⟨f0, b0, e0⟩ := view_hash g0
  have g1 := hf 1 _ rfl
  change DataW.trod enc Try.prog w 0 _ true k 3 ((cs.drop 32).take (Try.prog.cellsOf 3)) = some y1 at g1
  rw [show Try.prog.cellsOf 3 = 1 by kernel_rfl] at g1
  obtain ⟨f1, e1, _, b1⟩ := DataW.trod_int Try.underlying3 g1
  have hcs : cs = (cs.drop 0).take 32 ++ ((cs.drop 32).take 1) :=
    (List.drop_zero (l := cs)).symm.trans ((cut_at cs 0 32 32 rfl).trans (congrArg ((cs.drop 0).take 32 ++ ·) (cut_last cs 32 1 hcl')))
  rw [e0, e1] at hcs
  exact ⟨⟨f0, f1⟩, ⟨b0, b1⟩, hcs⟩
theorem view_vs {fuel : Nat} {cs : List Value} {x : DataW H × List MemPlace} (h : DataW.trod enc Try.prog w 0 (fun _ => true) true fuel 35 cs = some x) (hx : ∀ n ∈ x.1.weights Try.prog 35, n ≤ reachBytes) :
    ∃ a len cap hs, cs = [.slice a len cap] ∧ VsR w a len hs ∧ len ≤ cap ∧ cap ≤ maxLen ∧ len ≤ 140737488355328 := by
  rcases open_slice Try.underlying35 h with ⟨hcs, _⟩ | ⟨ad, len, cap, m, n, D, Pl, hcs, _, hl, hm, hmm, hd, hr⟩
  · exact ⟨none, 0, 0, [], hcs, ⟨rfl, by simp, fun h => absurd h (by omega)⟩, Nat.le_refl _, by unfold maxLen; omega, by omega⟩
  · refine ⟨some ad, len, cap, ?_⟩
    simp at hmm
    have ce : Try.prog.cellsOf 34 = 33 := by kernel_rfl
    rw [ce] at hr
    have hsp : 0 < len → ad.spot = none := fun hp => by
      obtain ⟨cs, h1, _⟩ := hr 0 (by omega)
      obtain ⟨_, hlen, hcell⟩ := World.cells?_some h1
      have h0 := hcell 0 (by omega)
      rw [List.getElem?_eq_getElem (by omega)] at h0
      have := World.cell?_spot h0
      simpa [Addr.add] using this
    have each : ∀ i, i < len → ∃ x   : Vx, Vk x ∧ ∃ b off, ad = ⟨b, off, none⟩ ∧ b < w.heap.size ∧ w.rangeAt b (off + i * 33) x.cells := by
      intro i hi
      obtain ⟨cs, h1, h2⟩ := hr i (by omega)
      obtain ⟨hh, hhl, rfl⟩ := view_vx h2
      obtain ⟨b, off, spot⟩ := ad
      have hspot : spot = none := hsp (by omega)
      subst hspot
      rw [Addr.add_lit] at h1
      have hra := range_of_cells h1
      refine ⟨hh, hhl, b, off, rfl, ?_, hra⟩
      have e0 := hra 32 _ (Vx.line hhl.1)
      have := World.block_lt_of_cell? w _ e0
      simpa using this
    obtain ⟨G, hG⟩ := choose_lt each
    refine ⟨(List.range len).map G, hcs, ⟨by simp, ?_, fun hp => ?_⟩, hl, hm, ?_⟩
    · intro h hh
      obtain ⟨i, hi, rfl⟩ := List.mem_map.1 hh
      exact (hG i (List.mem_range.1 hi)).1
    · obtain ⟨_, b, off, e1, e2, _⟩ := hG 0 hp
      refine ⟨b, off, by rw [e1], e2, fun i x hi => ?_⟩
      have hlt : i < len := by
        have := (List.getElem?_eq_some_iff.1 hi).1
        simpa using this
      have e : G i = x := by simpa [List.getElem?_map, List.getElem?_range hlt] using hi
      subst e
      obtain ⟨_, b', off', f1, _, f3⟩ := hG i hlt
      rw [e1] at f1
      cases f1
      exact f3
    · have hmem : (len + (m - len)) * Try.prog.bytesOf 34 ∈ x.1.weights Try.prog 35 := by
        rw [hd]
        simp [DataW.weights, Try.underlying35]
      have := hx _ hmem
      rw [show Try.prog.bytesOf 34 = 40 by kernel_rfl] at this
      simp only [reachBytes] at this
      omega
theorem fld_str {n : Nat} {cs : List Value} {x : DataW H × List MemPlace} (h : DataW.trod enc Try.prog w 0 (fun _ => true) true n 9 cs = some x) (hx : ∀ k ∈ x.1.weights Try.prog 9, k ≤ reachBytes) :
    ∃ s : ByteArray, cs = [.string s] ∧ s.size ≤ 140737488355328 := by
  obtain ⟨s, hs, hd, _⟩ := DataW.trod_string Try.underlying9 h
  refine ⟨s, by simpa using hs, ?_⟩
  have hmem : s.size ∈ x.1.weights Try.prog 9 := by
    rw [hd]
    simp [DataW.weights]
  have := hx _ hmem
  simp only [reachBytes] at this
  omega
theorem view_strs {fuel : Nat} {cs : List Value} {x : DataW H × List MemPlace} (h : DataW.trod enc Try.prog w 0 (fun _ => true) true fuel 36 cs = some x) (hx : ∀ n ∈ x.1.weights Try.prog 36, n ≤ reachBytes) :
    ∃ a len cap l, cs = [.slice a len cap] ∧ TsR w a len l ∧ (∀ t ∈ l, t.size ≤ 140737488355328) ∧ len ≤ cap ∧ cap ≤ maxLen ∧ len ≤ 140737488355328 := by
  rcases open_slice Try.underlying36 h with ⟨hcs, _⟩ | ⟨ad, len, cap, m, n, D, Pl, hcs, _, hl, hm, hmm, hd, hr⟩
  · exact ⟨none, 0, 0, [], hcs, ⟨rfl, fun h => absurd h (by omega)⟩, by simp, Nat.le_refl _, by unfold maxLen; omega, by omega⟩
  · refine ⟨some ad, len, cap, ?_⟩
    simp at hmm
    have hw : (len + (m - len)) * 16 ∈ x.1.weights Try.prog 36 := by
      rw [hd]
      simp only [DataW.weights, Try.underlying36]
      rw [show Try.prog.bytesOf 9 = 16 by kernel_rfl]
      simp
    have hsz := hx _ hw
    simp only [reachBytes] at hsz
    have ce : Try.prog.cellsOf 9 = 1 := by kernel_rfl
    rw [ce] at hr
    have hsp : 0 < len → ad.spot = none := fun hp => by
      obtain ⟨cs, h1, _⟩ := hr 0 (by omega)
      obtain ⟨_, hlen, hcell⟩ := World.cells?_some h1
      have h0 := hcell 0 (by omega)
      rw [List.getElem?_eq_getElem (by omega)] at h0
      have := World.cell?_spot h0
      simpa [Addr.add] using this
    have each : ∀ i, i < len → ∃ x : ByteArray, x.size ≤ 140737488355328 ∧ ∃ b off, ad = ⟨b, off, none⟩ ∧ b < w.heap.size ∧ w.cell? ⟨b, off + i, none⟩ = some (.string x) := by
      intro i hi
      obtain ⟨cs, h1, h2⟩ := hr i (by omega)
      obtain ⟨_, hlen, hcell⟩ := World.cells?_some h1
      have hmem : ∀ q ∈ (D i, Pl i).1.weights Try.prog 9, q ≤ reachBytes := fun q hq => by
        refine hx q ?_
        rw [hd]
        simp only [DataW.weights, Try.underlying36]
        exact List.mem_cons.2 (.inr (List.mem_append.2 (.inl (mem_weightsAll hq (List.mem_map.2 ⟨i, List.mem_range.2 hi, rfl⟩)))))
      obtain ⟨f0, e, b0⟩ := fld_str (x := (D i, Pl i)) h2 hmem
      subst e
      obtain ⟨b, off, spot⟩ := ad
      have hs := hsp (by omega)
      simp only at hs
      subst hs
      rw [Addr.add_lit] at h1
      have hra := range_of_cells h1
      have e0 := hra 0 _ rfl
      refine ⟨f0, b0, b, off, rfl, ?_, by simpa using e0⟩
      have := World.block_lt_of_cell? w _ e0
      simpa using this
    obtain ⟨G, hG⟩ := choose_lt (p := fun i (x : ByteArray) => x.size ≤ 140737488355328 ∧ ∃ b off, ad = ⟨b, off, none⟩ ∧ b < w.heap.size ∧ w.cell? ⟨b, off + i, none⟩ = some (.string x)) each
    refine ⟨(List.range len).map G, hcs, ⟨by simp, fun hp => ?_⟩, ?_, hl, hm, by omega⟩
    · obtain ⟨_, b, off, e1, e2, _⟩ := hG 0 hp
      refine ⟨b, off, by rw [e1], e2, fun i x hi => ?_⟩
      have hlt : i < len := by
        have := (List.getElem?_eq_some_iff.1 hi).1
        simpa using this
      have e : G i = x := by simpa [List.getElem?_map, List.getElem?_range hlt] using hi
      subst e
      obtain ⟨_, b', off', f1, _, f3⟩ := hG i hlt
      rw [e1] at f1
      cases f1
      exact f3
    · intro t ht
      obtain ⟨i, hi, rfl⟩ := List.mem_map.1 ht
      exact (hG i (List.mem_range.1 hi)).1
/-- an act -/
structure AV where
  k : Int
  up : Vx
  dn : Vx
  ia : Option Addr
  inn : Nat
  ic : Nat
  ids : List Vx
  ta : Option Addr
  tn : Nat
  tc : Nat
  ts : List BA
  by_ : Hs
def AV.cells (a : AV) : List Value := [iv a.k] ++ (a.up.cells ++ (a.dn.cells ++ ([.slice a.ia a.inn a.ic] ++ ([.slice a.ta a.tn a.tc] ++ U a.by_))))
/-- what is known of an act that was read -/
def AR (w : World) (a : AV) : Prop := Vk a.up ∧ Vk a.dn ∧ VsR w a.ia a.inn a.ids ∧ TsR w a.ta a.tn a.ts ∧ a.by_.length = 32 ∧ a.inn ≤ a.ic ∧ a.ic ≤ maxLen ∧ a.inn ≤ 140737488355328 ∧ a.tn ≤ a.tc ∧ a.tc ≤ maxLen ∧ a.tn ≤ 140737488355328 ∧ (Lit.int .i64 a.k).wf = true
theorem view_act {fuel : Nat} {cs : List Value} {x : DataW H × List MemPlace} (h : DataW.trod enc Try.prog w 0 (fun _ => true) true fuel 38 cs = some x) (hx : ∀ n ∈ x.1.weights Try.prog 38, n ≤ reachBytes) :
    ∃ a : AV, cs = a.cells ∧ AR w a := by
  obtain ⟨ys, k, hk, hxy, hcl, hxl, hf⟩ := DataW.trod_struct Try.underlying38 h
  have hcl' : cs.length = 101 := by rw [hcl]; kernel_rfl
  have hxl' : ys.length = 6 := hxl
  obtain ⟨y0, y1, y2, y3, y4, y5, rfl⟩ : ∃ y0 y1 y2 y3 y4 y5, ys = [y0, y1, y2, y3, y4, y5] := by
    rcases ys with _ | ⟨y0, _ | ⟨y1, _ | ⟨y2, _ | ⟨y3, _ | ⟨y4, _ | ⟨y5, _ | ⟨z, l⟩⟩⟩⟩⟩⟩⟩ <;> simp at hxl'
    exact ⟨y0, y1, y2, y3, y4, y5, rfl⟩
  have g0 := hf 0 _ rfl
  change DataW.trod enc Try.prog w 0 _ true k 3 ((cs.drop 0).take (Try.prog.cellsOf 3)) = some y0 at g0
  rw [show Try.prog.cellsOf 3 = 1 by kernel_rfl] at g0
  have w0 : ∀ q ∈ y0.1.weights Try.prog 3, q ≤ reachBytes := fun q hq => hx q (by
    rw [show x.1 = DataW.agg [y0.1, y1.1, y2.1, y3.1, y4.1, y5.1] from congrArg Prod.fst hxy]
    simp only [DataW.weights, Try.underlying38, DataW.weightsEach, List.map, List.mem_append]
    exact .inl hq)
  have g1 := hf 1 _ rfl
  change DataW.trod enc Try.prog w 0 _ true k 34 ((cs.drop 1).take (Try.prog.cellsOf 34)) = some y1 at g1
  rw [show Try.prog.cellsOf 34 = 33 by kernel_rfl] at g1
  have w1 : ∀ q ∈ y1.1.weights Try.prog 34, q ≤ reachBytes := fun q hq => hx q (by
    rw [show x.1 = DataW.agg [y0.1, y1.1, y2.1, y3.1, y4.1, y5.1] from congrArg Prod.fst hxy]
    simp only [DataW.weights, Try.underlying38, DataW.weightsEach, List.map, List.mem_append]
    exact .inr (.inl hq))
  have g2 := hf 2 _ rfl
  change DataW.trod enc Try.prog w 0 _ true k 34 ((cs.drop 34).take (Try.prog.cellsOf 34)) = some y2 at g2
  rw [show Try.prog.cellsOf 34 = 33 by kernel_rfl] at g2
  have w2 : ∀ q ∈ y2.1.weights Try.prog 34, q ≤ reachBytes := fun q hq => hx q (by
    rw [show x.1 = DataW.agg [y0.1, y1.1, y2.1, y3.1, y4.1, y5.1] from congrArg Prod.fst hxy]
    simp only [DataW.weights, Try.underlying38, DataW.weightsEach, List.map, List.mem_append]
    exact .inr (.inr (.inl hq)))
  have g3 := hf 3 _ rfl
  change DataW.trod enc Try.prog w 0 _ true k 35 ((cs.drop 67).take (Try.prog.cellsOf 35)) = some y3 at g3
  rw [show Try.prog.cellsOf 35 = 1 by kernel_rfl] at g3
  have w3 : ∀ q ∈ y3.1.weights Try.prog 35, q ≤ reachBytes := fun q hq => hx q (by
    rw [show x.1 = DataW.agg [y0.1, y1.1, y2.1, y3.1, y4.1, y5.1] from congrArg Prod.fst hxy]
    simp only [DataW.weights, Try.underlying38, DataW.weightsEach, List.map, List.mem_append]
    exact .inr (.inr (.inr (.inl hq))))
  have g4 := hf 4 _ rfl
  change DataW.trod enc Try.prog w 0 _ true k 36 ((cs.drop 68).take (Try.prog.cellsOf 36)) = some y4 at g4
  rw [show Try.prog.cellsOf 36 = 1 by kernel_rfl] at g4
  have w4 : ∀ q ∈ y4.1.weights Try.prog 36, q ≤ reachBytes := fun q hq => hx q (by
    rw [show x.1 = DataW.agg [y0.1, y1.1, y2.1, y3.1, y4.1, y5.1] from congrArg Prod.fst hxy]
    simp only [DataW.weights, Try.underlying38, DataW.weightsEach, List.map, List.mem_append]
    exact .inr (.inr (.inr (.inr (.inl hq)))))
  have g5 := hf 5 _ rfl
  change DataW.trod enc Try.prog w 0 _ true k 32 ((cs.drop 69).take (Try.prog.cellsOf 32)) = some y5 at g5
  rw [show Try.prog.cellsOf 32 = 32 by kernel_rfl] at g5
  have w5 : ∀ q ∈ y5.1.weights Try.prog 32, q ≤ reachBytes := fun q hq => hx q (by
    rw [show x.1 = DataW.agg [y0.1, y1.1, y2.1, y3.1, y4.1, y5.1] from congrArg Prod.fst hxy]
    simp only [DataW.weights, Try.underlying38, DataW.weightsEach, List.map, List.mem_append]
    exact .inr (.inr (.inr (.inr (.inr (.inl hq))))))
  obtain ⟨f0, e0, _, b0⟩ := DataW.trod_int Try.underlying3 g0
  obtain ⟨f1, b1, e1⟩ := view_vx g1
  obtain ⟨f2, b2, e2⟩ := view_vx g2
  obtain ⟨a3, n3, c3, l3, e3, r3, q3, m3, z3⟩ := view_vs g3 w3
  obtain ⟨a4, n4, c4, l4, e4, r4, t4, q4, m4, z4⟩ := view_strs g4 w4
  obtain ⟨f5, b5, e5⟩ := view_hash g5
  have hcs : cs = (cs.drop 0).take 1 ++ ((cs.drop 1).take 33 ++ ((cs.drop 34).take 33 ++ ((cs.drop 67).take 1 ++ ((cs.drop 68).take 1 ++ ((cs.drop 69).take 32))))) :=
    (List.drop_zero (l := cs)).symm.trans ((cut_at cs 0 1 1 rfl).trans (congrArg ((cs.drop 0).take 1 ++ ·) ((cut_at cs 1 33 34 rfl).trans (congrArg ((cs.drop 1).take 33 ++ ·) ((cut_at cs 34 33 67 rfl).trans (congrArg ((cs.drop 34).take 33 ++ ·) ((cut_at cs 67 1 68 rfl).trans (congrArg ((cs.drop 67).take 1 ++ ·) ((cut_at cs 68 1 69 rfl).trans (congrArg ((cs.drop 68).take 1 ++ ·) (cut_last cs 69 32 hcl')))))))))))
  rw [e0, e1, e2, e3, e4, e5] at hcs
  exact ⟨⟨f0, f1, f2, a3, n3, c3, l3, a4, n4, c4, l4, f5⟩, hcs, b1, b2, r3, r4, b5, q3, m3, z3, q4, m4, z4, b0⟩
theorem view_actv {fuel : Nat} {xs : Array Value} {x : DataW H × List MemPlace} (h : DataW.trod enc Try.prog w 0 (fun _ => true) true fuel 38 (Value.agg xs).cells.toList = some x) (hs : xs.size = Try.prog.cellsOf 38) (hw : ∀ n ∈ x.1.weights Try.prog 38, n ≤ reachBytes) :
    ∃ a : AV, xs = a.cells.toArray ∧ AR w a := by
  obtain ⟨a, e, hp⟩ := view_act h hw
  refine ⟨a, ?_, hp⟩
  rw [← e]
  simp [Value.cells]
end
end Go.Proofs.Ytjcihaohpbmogaa.Oct

/- Layer 11 (lines): a graph that no call made: the law. -/
namespace Go.Proofs.Ytjcihaohpbmogaa.Oct
open Go.RowKit
set_option maxRecDepth 100000
set_option linter.unusedSimpArgs false
set_option linter.unusedVariables false
set_option linter.unusedSectionVars false

theorem AV.len {a : AV} (hu : a.up.ok) (hd : a.dn.ok) (hy : a.by_.length = 32) : a.cells.length = 101 := by
  unfold AV.cells
  simp [Vx.len hu, Vx.len hd, U_length, hy]
theorem AV.one (a : AV) : ∀ v ∈ a.cells, v.oneCell' = true := by
  intro v hv
  unfold AV.cells at hv
  simp only [List.mem_append, List.mem_singleton] at hv
  rcases hv with rfl | h | h | rfl | rfl | h
  · rfl
  · exact Vx.one _ v h
  · exact Vx.one _ v h
  · rfl
  · rfl
  · exact U_one _ v h
theorem info38 {L : List Value} (h : L.length = 101) : (Try.prog.info? 38).map (·.size) = some L.length := by rw [h]; show _ = some 101; kernel_rfl
theorem AV.ranges {w : World} {d : Nat} {a : AV} (h : Blk w d 38 a.cells) (hu : a.up.ok) (hd : a.dn.ok) : w.cell? ⟨d, 0, none⟩ = some (iv a.k) ∧ w.rangeAt d 1 a.up.cells ∧ w.rangeAt d 34 a.dn.cells ∧ w.cell? ⟨d, 67, none⟩ = some (.slice a.ia a.inn a.ic) ∧ w.cell? ⟨d, 68, none⟩ = some (.slice a.ta a.tn a.tc) ∧ w.rangeAt d 69 (U a.by_) := by
  have h0 := h.range0
  unfold AV.cells at h0
  have h1 := rangeAt_right h0
  have h2 := rangeAt_right h1
  have h3 := rangeAt_right h2
  have h4 := rangeAt_right h3
  have h5 := rangeAt_right h4
  simp only [List.length_singleton, Vx.len hu, Vx.len hd] at h1 h2 h3 h4 h5
  refine ⟨?_, by simpa using rangeAt_left h1, by simpa using rangeAt_left h2, ?_, ?_, by simpa using h5⟩
  · have := rangeAt_left h0 0 _ rfl
    simpa using this
  · have := rangeAt_left h3 0 _ rfl
    simpa using this
  · have := rangeAt_left h4 0 _ rfl
    simpa using this
theorem wpList_boxW {ops : Array Oper} {rest : List Oper} {o : Oper} {a : Act} {w : World} {Q : Exit → Act → World → Prop} (hw : Region.wanted o (yielded ops a.tmps) = true) (t : TypeId) (x : Operand) (hop : o.op = Op.box t x) (u r : Value) (hx : a.eval x = u) (W' : World) (hr : (Instr.box t u).run Try.prog w = .ok r W')
    (hK : wpList Try.prog ops Q rest (a.put o.dst r) W') : wpList Try.prog ops Q (o :: rest) a w := by
  refine Go.BigFrame.wpList_want hw fun K' hK' => ?_
  unfold Oper.wp execOp
  simp only [hop, hx, hr, Sem.run_bind, Sem.run_pure, Result.andThen_ok]
  exact hK' _ _ hK
theorem built67 : Try.prog.built 67 [] = some #[.map none] := by kernel_rfl
theorem box67 (W : World) : (Instr.box 67 (.agg #[.map none])).run Try.prog W = .ok (.pointer (some ⟨W.heap.size, 0, none⟩)) (W.alloc (.cells [Value.map none].toArray 67)) := by kernel_rfl
theorem bs68 (p q : Option Addr) (W : World) : (Instr.buildSlice 68 2 #[(0, .pointer p), (1, .pointer q)]).run Try.prog W = .ok (.slice (some ⟨W.heap.size, 0, none⟩) 2 2) (W.alloc (.cells [Value.pointer p, .pointer q].toArray 25)) := by kernel_rfl
/-- along the way -/
def NP (w0 V : World) (d : Nat) (a : AV) (g : Value) : Prop := Below w0.heap.size w0 V ∧ Blk V d 38 a.cells ∧ Un V g ∧ VsR V a.ia a.inn a.ids
theorem NP.step {w0 V V' : World} {d : Nat} {a : AV} {g : Value} (h : NP w0 V d a g) (hb : Below V.heap.size V V') : NP w0 V' d a g := ⟨below_tr h.1 hb, h.2.1.below hb h.2.1.lt, h.2.2.1.below hb, h.2.2.2.below hb⟩
set_option maxHeartbeats 8000000 in
theorem nobody_law (w : World) (a : AV) (ha : AR w a) : Calls Try.prog 8 #[.agg a.cells.toArray] w fun e w' => e = .returned (.bool true) ∧ Below w.heap.size w w' := by
  have HA : Hid (Vk a.up ∧ Vk a.dn ∧ a.by_.length = 32 ∧ a.inn ≤ 140737488355328) := ⟨ha.1, ha.2.1, ha.2.2.2.2.1, ha.2.2.2.2.2.2.2.1⟩
  have HVS : Hid (VsR w a.ia a.inn a.ids) := ha.2.2.1
  have hlen := AV.len ha.1.1 ha.2.1.1 ha.2.2.2.2.1
  obtain ⟨CU, hCU⟩ : ∃ C, a.up.cells = C := ⟨_, rfl⟩
  obtain ⟨CD, hCD⟩ : ∃ C, a.dn.cells = C := ⟨_, rfl⟩
  obtain ⟨CY, hCY⟩ : ∃ C, U a.by_ = C := ⟨_, rfl⟩
  have HI : Hid ((Try.prog.info? 34).map (·.size) = some CU.length ∧ (Try.prog.info? 34).map (·.size) = some CD.length ∧ (Try.prog.info? 32).map (·.size) = some CY.length) := ⟨by rw [← hCU]; exact info34 ha.1.1, by rw [← hCD]; exact info34 ha.2.1.1, by rw [← hCY]; exact info32 _ ha.2.2.2.2.1⟩
  have HCU : Hid (a.up.cells = CU) := hCU
  have HCD : Hid (a.dn.cells = CD) := hCD
  have HCY : Hid (U a.by_ = CY) := hCY
  have h1 := AV.one a
  have h2 := Try.underlying38
  have h3 := info38 hlen
  obtain ⟨CT, hCT⟩ : ∃ C, vTop.cells = C := ⟨_, rfl⟩
  obtain ⟨CB, hCB⟩ : ∃ C, vBot.cells = C := ⟨_, rfl⟩
  have hb1 := built34
  have hb2 := built34b
  rw [hCT] at hb1
  rw [hCB] at hb2
  have HCT : Hid (vTop.cells = CT) := hCT
  have HCB : Hid (vBot.cells = CB) := hCB
  have hbx : (Instr.box 38 (.agg a.cells.toArray)).run Try.prog w = .ok (.pointer (some ⟨w.heap.size, 0, none⟩)) (w.alloc (.cells a.cells.toArray 38)) := by
    obtain ⟨i0, hi0, hs0⟩ := Option.map_eq_some_iff.1 h3
    exact run_box 38 (.agg a.cells.toArray) i0 hi0 (by rw [hs0]; simp [Value.cells]) w
  have hk1 : Blk (w.alloc (.cells a.cells.toArray 38)) w.heap.size 38 a.cells := by simpa using Blk.new w a.cells.toArray 38
  have HK1 := hid_of hk1
  clear ha hCU hCD hCY hCT hCB hk1
  obtain ⟨C, hC⟩ : ∃ C, a.cells = C := ⟨_, rfl⟩
  have HC : Hid (a.cells = C) := hC
  rw [hC] at h1 h3 hlen hbx HK1
  rw [hC]
  clear hC
  go_enter Try.func8, Try.ntmps8
  go_wp2_with (first
    | (with_reducible change wpList _ _ _ ({ dst := some 1, op := _, type := _, pos := _, after := _, guard := _ } :: _) _ _
       refine wpList_boxW (by rfl) 38 (.tmp 0) rfl (.agg C.toArray) (.pointer (some ⟨w.heap.size, 0, none⟩)) rfl (w.alloc (.cells C.toArray 38)) hbx ?_)
    | (with_reducible change wpList _ _ _ ({ dst := some 5, op := _, type := _, pos := _, after := _, guard := _ } :: _) _ _
       refine Hid.out ?_)
    | fail)
  show wpList _ _ _ _ _ _
  obtain ⟨d1, hd1⟩ : ∃ d, w.heap.size = d := ⟨_, rfl⟩
  obtain ⟨W1, hW1⟩ : ∃ W, w.alloc (.cells C.toArray 38) = W := ⟨_, rfl⟩
  have S1 : Hid (Below w.heap.size w W1 ∧ Blk W1 d1 38 a.cells) := ⟨by rw [← hW1]; exact below_al _ _, by rw [HC.out, ← hW1, ← hd1]; exact HK1.out⟩
  rw [hW1, hd1]
  clear hW1 hd1 hbx h1 h3 hlen HK1
  obtain ⟨b2, hb2e⟩ : ∃ b, W1.heap.size = b := ⟨_, rfl⟩
  obtain ⟨W2, hW2⟩ : ∃ W, W1.alloc (.cells [Value.map none].toArray 67) = W := ⟨_, rfl⟩
  have hx67 := box67 W1
  rw [hW2, hb2e] at hx67
  have S2 : Hid (Below w.heap.size w W2 ∧ Blk W2 d1 38 a.cells ∧ Blk W2 b2 67 [.map none]) := by
    have hb : Below W1.heap.size W1 W2 := by rw [← hW2]; exact below_al _ _
    exact ⟨below_tr S1.out.1 hb, S1.out.2.below hb S1.out.2.lt, by rw [← hW2, ← hb2e]; exact Blk.new W1 _ _⟩
  clear hW2 hb2e S1
  obtain ⟨gr, hgr⟩ : ∃ b, W2.heap.size = b := ⟨_, rfl⟩
  obtain ⟨W3, hW3⟩ : ∃ W, W2.alloc (.cells [Value.pointer none, .pointer (some ⟨b2, 0, none⟩)].toArray 25) = W := ⟨_, rfl⟩
  have hx68 := bs68 none (some ⟨b2, 0, none⟩) W2
  rw [hW3, hgr] at hx68
  have S3 : Hid (Below w.heap.size w W3 ∧ Blk W3 d1 38 a.cells ∧ Blk W3 b2 67 [.map none] ∧ Blk W3 gr 25 [.pointer none, .pointer (some ⟨b2, 0, none⟩)]) := by
    have hb : Below W2.heap.size W2 W3 := by rw [← hW3]; exact below_al _ _
    exact ⟨below_tr S2.out.1 hb, S2.out.2.1.below hb S2.out.2.1.lt, S2.out.2.2.below hb S2.out.2.2.lt, by rw [← hW3, ← hgr]; exact Blk.new W2 _ _⟩
  clear hW3 hgr S2
  go_wp2_with (first
    | (with_reducible change wpList _ _ _ ({ dst := some 5, op := _, type := _, pos := _, after := _, guard := _ } :: _) _ _
       refine wpList_built rfl 67 _ rfl #[.map none] (by rw [← built67]; first | (simp; done) | (simp; rfl)) ?_)
    | (with_reducible change wpList _ _ _ ({ dst := some 6, op := _, type := _, pos := _, after := _, guard := _ } :: _) _ _
       refine wpList_boxW (by rfl) 67 (.tmp 5) rfl (.agg #[.map none]) (.pointer (some ⟨b2, 0, none⟩)) rfl W2 hx67 ?_)
    | (with_reducible change wpList _ _ _ ({ dst := some 7, op := _, type := _, pos := _, after := _, guard := _ } :: _) _ _
       refine wpList_bsW (by rfl) 68 2 _ rfl #[(0, .pointer none), (1, .pointer (some ⟨b2, 0, none⟩))] (by simp only [List.map_toArray, List.map_cons, List.map_nil]; rfl) (.slice (some ⟨gr, 0, none⟩) 2 2) W3 hx68 ?_)
    | fail)
  clear hx67 hx68
  go_loopw [9] (fun u wr => ∃ i : Nat, u = iv (i : Int) ∧ Hid (i ≤ 2 ∧ Below W3.heap.size W3 wr)) (fun u _ => 2 - (intOf u).toNat)
  case atStart => exact ⟨0, rfl, by omega, Below.refl _ _⟩
  case round =>
    obtain ⟨X, hX⟩ : ∃ X, X = wr := ⟨_, rfl⟩
    subst hX
    obtain ⟨i, rfl, HR⟩ := hrel
    by_cases hi : i < 2
    · have q1 : (i : Int) < 2 := by omega
      have HJ : Hid (i < 2) := hi
      obtain ⟨g, hg, hun⟩ : ∃ g, [Value.pointer none, .pointer (some ⟨b2, 0, none⟩)][i]? = some g ∧ Un W3 g := by
        rcases (show i = 0 ∨ i = 1 by omega) with rfl | rfl
        · exact ⟨_, rfl, .inl rfl⟩
        · exact ⟨_, rfl, .inr ⟨b2, rfl, S3.out.2.2.1⟩⟩
      have cg : X.cell? ⟨gr, i, none⟩ = some g := (S3.out.2.2.2.below HR.out.2 S3.out.2.2.2.lt).cell hg
      have N0 : Hid (NP w X d1 a g) := ⟨below_tr S3.out.1 HR.out.2, S3.out.2.1.below HR.out.2 S3.out.2.1.lt, hun.below HR.out.2, HVS.out.below (below_tr S3.out.1 HR.out.2)⟩
      have HX0 : Hid (Below W3.heap.size W3 X) := HR.out.2
      clear hg hun hi HR
      have R0 := hid_of (AV.ranges N0.out.2.1 HA.out.1.1 HA.out.2.1.1)
      rw [HCU.out, HCD.out, HCY.out] at R0
      have c67 : X.cell? ⟨d1, 67, none⟩ = some (.slice a.ia a.inn a.ic) := R0.out.2.2.2.1
      have c68 : X.cell? ⟨d1, 68, none⟩ = some (.slice a.ta a.tn a.tc) := R0.out.2.2.2.2.1
      go_wp2_with (first
        | (with_reducible change wpList _ _ _ ({ dst := some 15, op := _, type := _, pos := _, after := _, guard := _ } :: _) _ _
           refine wpList_load_want rfl 34 (.tmp 14) rfl d1 1 rfl CU _ R0.out.2.1 Try.underlying34 rfl HI.out.1 ?_)
        | (with_reducible change wpList _ _ _ ({ dst := some 17, op := _, type := _, pos := _, after := _, guard := _ } :: _) _ _
           refine wpList_load_want rfl 34 (.tmp 16) rfl d1 34 rfl CD _ R0.out.2.2.1 Try.underlying34 rfl HI.out.2.1 ?_)
        | fail)
      clear cg
      refine (add_un N0.out.2.2.1 a.up a.dn HA.out.1 HA.out.2.1 a.ia a.inn a.ic a.ids N0.out.2.2.2 HA.out.2.2.2 _ CU CD HCU.out HCD.out).mono ?_
      rintro e V1 ⟨rfl, hb⟩
      have B1 : Hid (Below W3.heap.size W3 V1) := HX0.out.trans (hb.mono HX0.out.size)
      have N1 : Hid (NP w V1 d1 a g) := N0.out.step hb
      clear hb c67 c68 R0
      have R1 := hid_of (AV.ranges N1.out.2.1 HA.out.1.1 HA.out.2.1.1)
      rw [HCU.out, HCD.out, HCY.out] at R1
      have c67 : V1.cell? ⟨d1, 67, none⟩ = some (.slice a.ia a.inn a.ic) := R1.out.2.2.2.1
      have c68 : V1.cell? ⟨d1, 68, none⟩ = some (.slice a.ta a.tn a.tc) := R1.out.2.2.2.2.1
      go_wp2_with (first
        | fail)
      refine (drop_un N1.out.2.2.1 a.ia a.inn a.ic a.ids N1.out.2.2.2 HA.out.2.2.2).mono ?_
      rintro e V2 ⟨rfl, hb⟩
      have B2 : Hid (Below W3.heap.size W3 V2) := B1.out.trans (hb.mono B1.out.size)
      have N2 : Hid (NP w V2 d1 a g) := N1.out.step hb
      clear hb c67 c68 R1
      have R2 := hid_of (AV.ranges N2.out.2.1 HA.out.1.1 HA.out.2.1.1)
      rw [HCU.out, HCD.out, HCY.out] at R2
      have c67 : V2.cell? ⟨d1, 67, none⟩ = some (.slice a.ia a.inn a.ic) := R2.out.2.2.2.1
      have c68 : V2.cell? ⟨d1, 68, none⟩ = some (.slice a.ta a.tn a.tc) := R2.out.2.2.2.2.1
      go_wp2_with (first
        | (with_reducible change wpList _ _ _ ({ dst := some 34, op := _, type := _, pos := _, after := _, guard := _ } :: _) _ _
           refine wpList_load_want rfl 34 (.tmp 33) rfl d1 1 rfl CU _ R2.out.2.1 Try.underlying34 rfl HI.out.1 ?_)
        | (with_reducible change wpList _ _ _ ({ dst := some 36, op := _, type := _, pos := _, after := _, guard := _ } :: _) _ _
           refine wpList_load_want rfl 32 (.tmp 35) rfl d1 69 rfl CY _ R2.out.2.2.2.2.2 Try.underlying32 rfl HI.out.2.2 ?_)
        | fail)
      refine (kill_un N2.out.2.2.1 a.up HA.out.1 a.by_ HA.out.2.2.1 CU HCU.out CY HCY.out).mono ?_
      rintro e V3 ⟨rfl, hb⟩
      have B3 : Hid (Below W3.heap.size W3 V3) := B2.out.trans (hb.mono B2.out.size)
      have N3 : Hid (NP w V3 d1 a g) := N2.out.step hb
      clear hb c67 c68 R2
      have R3 := hid_of (AV.ranges N3.out.2.1 HA.out.1.1 HA.out.2.1.1)
      rw [HCU.out, HCD.out, HCY.out] at R3
      have c67 : V3.cell? ⟨d1, 67, none⟩ = some (.slice a.ia a.inn a.ic) := R3.out.2.2.2.1
      have c68 : V3.cell? ⟨d1, 68, none⟩ = some (.slice a.ta a.tn a.tc) := R3.out.2.2.2.2.1
      go_wp2_with (first
        | (with_reducible change wpList _ _ _ ({ dst := some 43, op := _, type := _, pos := _, after := _, guard := _ } :: _) _ _
           refine wpList_load_want rfl 34 (.tmp 42) rfl d1 1 rfl CU _ R3.out.2.1 Try.underlying34 rfl HI.out.1 ?_)
        | (with_reducible change wpList _ _ _ ({ dst := some 45, op := _, type := _, pos := _, after := _, guard := _ } :: _) _ _
           refine wpList_load_want rfl 32 (.tmp 44) rfl d1 69 rfl CY _ R3.out.2.2.2.2.2 Try.underlying32 rfl HI.out.2.2 ?_)
        | fail)
      refine (unkill_un N3.out.2.2.1 a.up HA.out.1 a.by_ HA.out.2.2.1 CU HCU.out CY HCY.out).mono ?_
      rintro e V4 ⟨rfl, hb⟩
      have B4 : Hid (Below W3.heap.size W3 V4) := B3.out.trans (hb.mono B3.out.size)
      have N4 : Hid (NP w V4 d1 a g) := N3.out.step hb
      clear hb c67 c68 R3
      have R4 := hid_of (AV.ranges N4.out.2.1 HA.out.1.1 HA.out.2.1.1)
      rw [HCU.out, HCD.out, HCY.out] at R4
      have c67 : V4.cell? ⟨d1, 67, none⟩ = some (.slice a.ia a.inn a.ic) := R4.out.2.2.2.1
      have c68 : V4.cell? ⟨d1, 68, none⟩ = some (.slice a.ta a.tn a.tc) := R4.out.2.2.2.2.1
      go_wp2_with (first
        | (with_reducible change wpList _ _ _ ({ dst := some 51, op := _, type := _, pos := _, after := _, guard := _ } :: _) _ _
           refine wpList_load_want rfl 34 (.tmp 50) rfl d1 1 rfl CU _ R4.out.2.1 Try.underlying34 rfl HI.out.1 ?_)
        | fail)
      refine (has_un N4.out.2.2.1 a.up HA.out.1 CU HCU.out).mono ?_
      rintro e V5 ⟨rfl, hb⟩
      have B5 : Hid (Below W3.heap.size W3 V5) := B4.out.trans (hb.mono B4.out.size)
      have N5 : Hid (NP w V5 d1 a g) := N4.out.step hb
      clear hb c67 c68 R4
      have R5 := hid_of (AV.ranges N5.out.2.1 HA.out.1.1 HA.out.2.1.1)
      rw [HCU.out, HCD.out, HCY.out] at R5
      have c67 : V5.cell? ⟨d1, 67, none⟩ = some (.slice a.ia a.inn a.ic) := R5.out.2.2.2.1
      have c68 : V5.cell? ⟨d1, 68, none⟩ = some (.slice a.ta a.tn a.tc) := R5.out.2.2.2.2.1
      go_wp2_with (first
        | (with_reducible change wpList _ _ _ ({ dst := some 55, op := _, type := _, pos := _, after := _, guard := _ } :: _) _ _
           refine wpList_built_want (by rfl) 34 _ rfl CT.toArray (by rw [← hb1]; first | (simp; done) | (simp; rfl)) ?_)
        | (with_reducible change wpList _ _ _ ({ dst := some 56, op := _, type := _, pos := _, after := _, guard := _ } :: _) _ _
           refine wpList_built_want (by rfl) 34 _ rfl CB.toArray (by rw [← hb2]; first | (simp; done) | (simp; rfl)) ?_)
        | fail)
      refine (ahead_un N5.out.2.2.1 vTop vBot vTop_k vBot_k CT CB HCT.out HCB.out).mono ?_
      rintro e V6 ⟨rfl, hb⟩
      have B6 : Hid (Below W3.heap.size W3 V6) := B5.out.trans (hb.mono B5.out.size)
      have N6 : Hid (NP w V6 d1 a g) := N5.out.step hb
      clear hb c67 c68 R5
      go_wp2_with fail
      refine (len_un N6.out.2.2.1).mono ?_
      rintro e Vx_ ⟨rfl, rfl⟩
      go_wp2_with fail
      refine (shown_un N6.out.2.2.1).mono ?_
      rintro e Vx_ ⟨rfl, rfl⟩
      go_wp2_with fail
      refine (text_un N6.out.2.2.1).mono ?_
      rintro e Vx_ ⟨rfl, rfl⟩
      go_wp2_with fail
      refine (conflicts_un N6.out.2.2.1).mono ?_
      rintro e Vx_ ⟨rfl, rfl⟩
      go_wp2_with fail
      refine (clone_un N6.out.2.2.1).mono ?_
      rintro e Vx_ ⟨rfl, rfl⟩
      go_wp2
      refine ⟨⟨i + 1, by simp, HJ.out, B6.out⟩, ?_⟩
      have := HJ.out; simp [intOf]; omega
    · have q1 : ¬ (i : Int) < 2 := by omega
      have HE : Hid (Below w.heap.size w X) := below_tr S3.out.1 HR.out.2
      clear HR hi
      go_wp2_with fail
      refine (lives_is X).mono ?_
      rintro e V ⟨rfl, hb⟩
      have HE2 : Hid (Below w.heap.size w V) := below_tr HE.out hb
      clear hb
      go_wp2
      go_ret
      exact ⟨rfl, HE2.out⟩
end Go.Proofs.Ytjcihaohpbmogaa.Oct
