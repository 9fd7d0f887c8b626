/-
  Layer 11 (lines): Clone.
-/
import Derived.Test.YtjcihaohpbmogaaQpAX
/- Layer 11 (lines): Clone. -/
namespace Go.Proofs.Ytjcihaohpbmogaa.Oct
open Go.RowKit
set_option maxRecDepth 100000
set_option linter.unusedSimpArgs false
set_option linter.unusedVariables false
set_option linter.unusedSectionVars false

set_option maxRecDepth 100000 in
set_option maxHeartbeats 4000000 in
theorem cl7 {Q : Exit → Act → World → Prop} {x0 x1 x2 x6 x7 x8 x9 x10 x11 x12 x13 x14 x15 x16 x17 x18 x19 x20 x21 x22 x23 x24 x25 x26 x27 : Value} {ds : List Deferred} {A : World} {q d4 lb m : Nat} {y : Vx} {l : Ln} {M : Kv Vx}
    (HL : Hid (q < A.heap.size ∧ d4 < A.heap.size)) (HN : Hid ((¬ q = m) ∧ ¬ d4 = m)) (c0 : A.cell? ⟨q, 0, none⟩ = some (.map (some m))) (HR : Hid (A.rangeAt d4 0 y.cells)) (HV : Hid (Vk y)) (HM : Hid (MP A m M)) (HCOPY : Hid (∀ V, Below A.heap.size A V → Calls Try.prog 31 #[.pointer (some ⟨lb, 0, none⟩)] V fun e w' => CopyP V l e w'))
    (hQ : ∀ V l', Keep (fun k => k = m) A V → MP V m (kput M y (.pointer (some ⟨l'.blk, 0, none⟩))) → (l'.p = l.p ∧ (∀ k ∈ l'.bl, A.heap.size ≤ k) ∧ l'.bl.Nodup ∧ (∀ x ∈ l'.hp, x.2.at V x.1) ∧ LnOk l') → Q .normal { tmps := #[x0, x1, x2, .pointer (some ⟨q, 0, none⟩), .pointer (some ⟨d4, 0, none⟩), .pointer (some ⟨lb, 0, none⟩), x6, x7, x8, x9, x10, x11, x12, x13, x14, x15, x16, x17, x18, x19, .pointer (some ⟨q, 0, none⟩), .pointer (some ⟨q, 0, none⟩), .pointer (some ⟨q, 0, none⟩), .map (some m), .agg y.cells.toArray, .pointer (some ⟨lb, 0, none⟩), .pointer (some ⟨l'.blk, 0, none⟩), x27], defers := ds } V) :
    (Code.region 7 #[{ dst := some 20, op := Op.move (Operand.tmp 3), type := 25, pos := "lines.go:96", after := #[], guard := none }, { dst := some 21, op := Op.nilCheck (Operand.tmp 20), type := 0, pos := "lines.go:96", after := #[{ on := 0, ground := Ground.data }], guard := none }, { dst := some 22, op := Op.fieldAddr 67 (Operand.tmp 21) 0, type := 0, pos := "lines.go:96", after := #[{ on := 1, ground := Ground.data }], guard := none }, { dst := some 23, op := Op.load 65 (Operand.tmp 22), type := 65, pos := "lines.go:96", after := #[{ on := 2, ground := Ground.data }], guard := none }, { dst := some 24, op := Op.load 34 (Operand.tmp 4), type := 34, pos := "lines.go:96", after := #[], guard := none }, { dst := some 25, op := Op.move (Operand.tmp 5), type := 71, pos := "lines.go:96", after := #[], guard := none }, { dst := some 26, op := Op.call { callee := Callee.value (Operand.func 31), args := #[Operand.tmp 25], argTypes := #[71] }, type := 71, pos := "lines.go:96", after := #[{ on := 5, ground := Ground.data }], guard := none }, { dst := none, op := Op.mapUpdate 65 (Operand.tmp 23) (Operand.tmp 24) (Operand.tmp 26), type := 0, pos := "lines.go:96", after := #[{ on := 3, ground := Ground.data }, { on := 4, ground := Ground.data }, { on := 6, ground := Ground.data }, { on := 6, ground := Ground.chain }, { on := 0, ground := Ground.phase }, { on := 1, ground := Ground.phase }, { on := 2, ground := Ground.phase }, { on := 3, ground := Ground.phase }, { on := 4, ground := Ground.phase }, { on := 5, ground := Ground.phase }, { on := 6, ground := Ground.phase }], guard := none }] true).wp Try.prog Q { tmps := #[x0, x1, x2, .pointer (some ⟨q, 0, none⟩), .pointer (some ⟨d4, 0, none⟩), .pointer (some ⟨lb, 0, none⟩), x6, x7, x8, x9, x10, x11, x12, x13, x14, x15, x16, x17, x18, x19, x20, x21, x22, x23, x24, x25, x26, x27], defers := ds } A := by
  refine Code.wp_mono (Q := fun x a' w' => match x with | .normal => Q .normal a' w' | _ => False) (by intro x a' w' h; cases x <;> first | exact h | exact h.elim) ?_
  refine wp_region_held (S := fun V => Keep (fun k => k = m) A V) (by kernel_rfl) ?_
  have hS0 : Hid (Keep (fun k => k = m) A A.drew) := (Keep.refl _ A).drew
  change wpAnyH Try.prog .any _ _ (fun V => Keep (fun k => k = m) A V) 8 (Array.replicate 8 false) _ A.drew
  obtain ⟨V0, hV0⟩ : ∃ V0, A.drew = V0 := ⟨_, rfl⟩
  rw [hV0]
  rw [hV0] at hS0
  have hL0 : Hid (Below A.heap.size A V0) := by
    show Below _ _ _
    rw [← hV0]
    exact below_drew0 A
  clear hV0
  refine wpAnyH_take (i := 0) (oi := { dst := some 20, op := Op.move (Operand.tmp 3), type := 25, pos := "lines.go:96", after := #[], guard := none }) (v := .pointer (some ⟨q, 0, none⟩)) rfl (by kernel_rfl) (by kernel_rfl) (by kernel_rfl) (fun _ _ _ h => h.elim) (Or.inl ⟨by rfl, ?y1⟩) hS0.out ?_
  case y1 =>
    intro V hV
    go_simp
  simp only [Act.put, List.setIfInBounds_toArray, List.set_cons_zero, List.set_cons_succ]
  refine wpAnyH_take (i := 1) (oi := { dst := some 21, op := Op.nilCheck (Operand.tmp 20), type := 0, pos := "lines.go:96", after := #[{ on := 0, ground := Ground.data }], guard := none }) (v := .pointer (some ⟨q, 0, none⟩)) rfl (by kernel_rfl) (by kernel_rfl) (by kernel_rfl) (fun _ _ _ h => h.elim) (Or.inl ⟨by rfl, ?y2⟩) hS0.out ?_
  case y2 =>
    intro V hV
    go_simp
  simp only [Act.put, List.setIfInBounds_toArray, List.set_cons_zero, List.set_cons_succ]
  refine wpAnyH_take (i := 2) (oi := { dst := some 22, op := Op.fieldAddr 67 (Operand.tmp 21) 0, type := 0, pos := "lines.go:96", after := #[{ on := 1, ground := Ground.data }], guard := none }) (v := .pointer (some ⟨q, 0, none⟩)) rfl (by kernel_rfl) (by kernel_rfl) (by kernel_rfl) (fun _ _ _ h => h.elim) (Or.inl ⟨by rfl, ?y3⟩) hS0.out ?_
  case y3 =>
    intro V hV
    go_simp
  simp only [Act.put, List.setIfInBounds_toArray, List.set_cons_zero, List.set_cons_succ]
  refine wpAnyH_take (i := 3) (oi := { dst := some 23, op := Op.load 65 (Operand.tmp 22), type := 65, pos := "lines.go:96", after := #[{ on := 2, ground := Ground.data }], guard := none }) (v := .map (some m)) rfl (by kernel_rfl) (by kernel_rfl) (by kernel_rfl) (fun _ _ _ h => h.elim) (Or.inl ⟨by rfl, ?y4⟩) hS0.out ?_
  case y4 =>
    intro V hV
    have hc : V.cell? ⟨q, 0, none⟩ = some (.map (some m)) := (cell_same ((show Keep (fun k => k = m) A V from hV).block _ HL.out.1 HN.out.1)).trans c0
    go_simp
  simp only [Act.put, List.setIfInBounds_toArray, List.set_cons_zero, List.set_cons_succ]
  refine wpAnyH_take (i := 4) (oi := { dst := some 24, op := Op.load 34 (Operand.tmp 4), type := 34, pos := "lines.go:96", after := #[], guard := none }) (v := .agg y.cells.toArray) rfl (by kernel_rfl) (by kernel_rfl) (by kernel_rfl) (fun _ _ _ h => h.elim) (yieldsIf_load_mid (by rfl) _ _ rfl _ _ rfl (y.cells) _ (fun V hV => rangeAt_same (HR.out) ((show Keep (fun k => k = m) A V from hV).block _ (HL.out.2) (HN.out.2))) Try.underlying34 rfl (info34 HV.out.1)) hS0.out ?_
  simp only [Act.put, List.setIfInBounds_toArray, List.set_cons_zero, List.set_cons_succ]
  refine wpAnyH_take (i := 5) (oi := { dst := some 25, op := Op.move (Operand.tmp 5), type := 71, pos := "lines.go:96", after := #[], guard := none }) (v := .pointer (some ⟨lb, 0, none⟩)) rfl (by kernel_rfl) (by kernel_rfl) (by kernel_rfl) (fun _ _ _ h => h.elim) (Or.inl ⟨by rfl, ?y5⟩) hS0.out ?_
  case y5 =>
    intro V hV
    go_simp
  simp only [Act.put, List.setIfInBounds_toArray, List.set_cons_zero, List.set_cons_succ]
  refine wpAnyH_ready (rs := [6]) (by kernel_rfl) (by simp) (AllReadyH.cons (i := 6) (o := { dst := some 26, op := Op.call { callee := Callee.value (Operand.func 31), args := #[Operand.tmp 25], argTypes := #[71] }, type := 71, pos := "lines.go:96", after := #[{ on := 5, ground := Ground.data }], guard := none }) rfl ?_ AllReadyH.nil)
  · intro K1 hK1
    rw [if_pos (by rfl)]
    have HC1 := HCOPY.out V0 hL0.out
    go_wp2_with fail
    refine HC1.mono ?_
    rintro e V1 ⟨l', rfl, hl1⟩
    dsimp only
    clear HC1
    have hL1 : Hid (Below A.heap.size A V1) := below_tr hL0.out hl1.2.2.2.2.2
    have hS1 : Hid (Keep (fun k => k = m) A V1) := Keep.below hL1.out
    have hX1 : Hid (l'.p = l.p ∧ (∀ k ∈ l'.bl, A.heap.size ≤ k) ∧ l'.bl.Nodup ∧ (∀ x ∈ l'.hp, x.2.at V1 x.1) ∧ LnOk l') := ⟨hl1.1, fun k hk => Nat.le_trans (hL0.out).size (hl1.2.1 k hk), hl1.2.2.1, hl1.2.2.2.1, hl1.2.2.2.2.1⟩
    clear hl1
    refine hK1.out _ _ hS1.out ?_
    clear hK1
    intro _
    try simp only [Act.put, List.setIfInBounds_toArray, List.set_cons_zero, List.set_cons_succ]
    refine wpAnyH_ready (rs := [7]) (by kernel_rfl) (by simp) (AllReadyH.cons (i := 7) (o := { dst := none, op := Op.mapUpdate 65 (Operand.tmp 23) (Operand.tmp 24) (Operand.tmp 26), type := 0, pos := "lines.go:96", after := #[{ on := 3, ground := Ground.data }, { on := 4, ground := Ground.data }, { on := 6, ground := Ground.data }, { on := 6, ground := Ground.chain }, { on := 0, ground := Ground.phase }, { on := 1, ground := Ground.phase }, { on := 2, ground := Ground.phase }, { on := 3, ground := Ground.phase }, { on := 4, ground := Ground.phase }, { on := 5, ground := Ground.phase }, { on := 6, ground := Ground.phase }], guard := none }) rfl ?_ AllReadyH.nil)
    · intro K1 hK1
      obtain ⟨V2, r2, p2, g2, _⟩ := (HM.out.same ((hL1.out).block m HM.out.lt)).put (t := 65) (E := 71) (h := y) Try.underlying65 HV.out (.pointer (some ⟨l'.blk, 0, none⟩))
      refine step_mapUp (by rfl) 65 _ _ _ rfl _ _ _ rfl rfl rfl V2 r2 ?_
      have hS2 : Hid (Keep (fun k => k = m) A V2) := (hS1.out).trans (Keep.grown (S := fun k => k = m) g2 rfl) (fun _ h _ => h)
      have hP2 : Hid (MP V2 m (kput M y (.pointer (some ⟨l'.blk, 0, none⟩)))) := p2
      have hX2 : Hid (l'.p = l.p ∧ (∀ k ∈ l'.bl, A.heap.size ≤ k) ∧ l'.bl.Nodup ∧ (∀ x ∈ l'.hp, x.2.at V2 x.1) ∧ LnOk l') := by
        have hx := hX1.out
        refine ⟨hx.1, hx.2.1, hx.2.2.1, fun x hm => ?_, hx.2.2.2.2⟩
        have h1 := hx.2.2.2.1 x hm
        refine Cont.at_same h1 (g2.block x.1 (Cont.at_lt h1) (fun e => ?_))
        have e := Option.some.inj e
        have h2 := hx.2.1 x.1 (by rw [← Ln.hp_bl]; exact List.mem_map.2 ⟨x, hm, rfl⟩)
        have h3 := HM.out.lt
        omega
      clear r2 p2 g2
      refine hK1.out _ _ hS2.out ?_
      clear hK1
      intro _
      try simp only [Act.put, List.setIfInBounds_toArray, List.set_cons_zero, List.set_cons_succ]
      refine wpAnyH_done (by kernel_rfl) ?_ _
      exact hQ V2 l' hS2.out hP2.out hX2.out
/-- a copy of a graph, all of it in new memory -/
def CloneP (w : World) (p : Nat) (G : Gm) (e : Ending) (w' : World) : Prop := ∃ q C, e = .returned (.pointer (some ⟨q, 0, none⟩)) ∧ GAt w' q C ∧ (∀ k ∈ C.bl q, w.heap.size ≤ k) ∧ C.ps.Perm G.ps ∧ Below w.heap.size w w'
/-- where the copying stands -/
def ClI (w : World) (p q r mb : Nat) (G : Gm) (es left : List (Ent Vx)) (C : Gm) (wr : World) : Prop :=
  HMR wr mb r es left ∧ Below w.heap.size w wr ∧ GAt wr q C ∧ (∀ k ∈ C.bl q, w.heap.size ≤ k) ∧ (¬ r ∈ C.bl q) ∧ (C.keys ++ left.map (·.k)).Perm G.keys ∧ ∀ x ∈ C.ps, x ∈ G.ps
theorem cl_perm {G C : Gm} (hn : G.keys.Nodup) (hk : C.keys.Perm G.keys) (hs : ∀ x ∈ C.ps, x ∈ G.ps) : C.ps.Perm G.ps := by
  rw [keys_ps] at hn hk
  rw [keys_ps] at hk
  have hn2 : (keysP C.ps).Nodup := hk.nodup_iff.2 hn
  have nd : ∀ {l : List PL}, (keysP l).Nodup → l.Nodup := fun h => by
    unfold keysP at h
    exact List.Pairwise.of_map (·.v) (fun a b h e => h (e ▸ rfl)) h
  refine (List.perm_ext_iff_of_nodup (nd hn2) (nd hn)).2 fun x => ⟨hs x, fun hx => ?_⟩
  have hm : x.v ∈ keysP C.ps := hk.mem_iff.2 (List.mem_map.2 ⟨x, hx, rfl⟩)
  obtain ⟨y, hy, e⟩ := List.mem_map.1 hm
  have h1 := getP_of hn (hs y hy)
  have h2 := getP_of hn hx
  have e : y.v = x.v := e
  rw [e, h2] at h1
  rw [Option.some.inj h1]
  exact hy
set_option maxHeartbeats 4000000 in
theorem clone_is {w : World} {p : Nat} {G : Gm} (h : GAt w p G) (hne : ∀ l ∈ G.ls, l.p.fr ≠ []) : Calls Try.prog 12 #[.pointer (some ⟨p, 0, none⟩)] w fun e w' => CloneP w p G e w' := by
  have c0 : w.cell? ⟨p, 0, none⟩ = some (.map (some G.mb)) := h.blk.cell rfl
  obtain ⟨es, hes, hkv⟩ := h.mp
  have HS : Hid (GAt w p G ∧ HM w G.mb es ∧ es.map (fun e => (e.k, e.v)) = linesKv G.ls) := ⟨h, hes, hkv⟩
  have HES : Hid (∀ e ∈ es, ∃ l ∈ G.ls, e.k = l.p.v ∧ e.v = .pointer (some ⟨l.blk, 0, none⟩)) := by
    intro e he
    have h1 : (e.k, e.v) ∈ linesKv G.ls := by rw [← hkv]; exact List.mem_map.2 ⟨e, he, rfl⟩
    unfold linesKv at h1
    obtain ⟨l, hl, h2⟩ := List.mem_map.1 h1
    exact ⟨l, hl, (congrArg Prod.fst h2).symm, (congrArg Prod.snd h2).symm⟩
  have HKE : Hid (es.map (·.k) = G.keys) := by
    have := congrArg (List.map Prod.fst) hkv
    rw [List.map_map] at this
    unfold linesKv at this
    rw [List.map_map] at this
    exact this
  have HNE : Hid (∀ l ∈ G.ls, l.p.fr ≠ []) := hne
  obtain ⟨Z, hZ, HZ⟩ := zval34
  clear h hes hkv hne
  generalize hmb : G.mb = mb at c0
  have HMB : Hid (G.mb = mb) := hmb
  clear hmb
  go_enter Try.func12, Try.ntmps12
  go_wp2_with fail
  refine (made_is HS.out.1).mono ?_
  rintro e w1 ⟨rfl, rfl⟩
  go_wp2_with fail
  refine (new_is w).mono ?_
  rintro e W1 ⟨q, C0, rfl, HG, HB1⟩
  have H1 : Hid (GAt W1 q C0 ∧ C0.ps = [] ∧ (∀ k ∈ C0.bl q, w.heap.size ≤ k) ∧ Below w.heap.size w W1) := ⟨HG.out.1, HG.out.2.1, HG.out.2.2, HB1.out⟩
  have c1 : W1.cell? ⟨p, 0, none⟩ = some (.map (some mb)) := (cell_same (HB1.out.block p HS.out.1.blk.lt)).trans c0
  clear HG HB1 c0
  go_wp2_with (with_reducible change wpList _ _ _ ({ dst := some 14, op := _, type := _, pos := _, after := _, guard := _ } :: _) _ _; refine Hid.out ?_)
  show wpList _ _ _ _ _ _
  obtain ⟨r, hr⟩ : ∃ r, W1.heap.size = r := ⟨_, rfl⟩
  have HR0 : Hid (W1.heap.size = r) := hr
  refine wpList_range rfl 65 (.tmp 13) rfl (K := Vx) (E := 71) Try.underlying65 mb es rfl (by rw [← HMB.out]; exact HS.out.2.1.below H1.out.2.2.2 HS.out.2.1.lt) ?_
  intro w2 r1 r2 r3
  rw [hr] at r1
  rw [hr]
  have H2 : Hid (ClI w p q r mb G es es C0 w2) := by
    refine ⟨r1, below_tr H1.out.2.2.2 r2, H1.out.1.below r2, H1.out.2.2.1, fun hm => ?_, ?_, fun x hx => ?_⟩
    · have := H1.out.1.lt r hm
      omega
    · have e : C0.keys = [] := by rw [keys_ps, H1.out.2.1]; rfl
      rw [e, List.nil_append, HKE.out]
    · rw [H1.out.2.1] at hx
      cases hx
  clear r1 r2 r3 hr c1
  simp only [Act.put, List.setIfInBounds_toArray, List.set_cons_zero, List.set_cons_succ]
  go_wp2
  go_loopw [4] (fun u wr => ∃ (left : List (Ent Vx)) (C : Gm), Hid (ClI w p q r mb G es left C wr)) (fun _ wr => wr.rangeLeft mb r)
  case atStart => exact ⟨es, C0, H2.out⟩
  case round =>
    obtain ⟨V, hV⟩ : ∃ V, V = wr := ⟨_, rfl⟩
    subst hV
    obtain ⟨left, C, HI⟩ := hrel
    clear H2
    have HLL : Hid (V.rangeLeft mb r = left.length) := HI.out.1.left
    rcases HI.out.1.next 0 with ⟨h0, hrun⟩ | ⟨e, left', w3, he, hp, hrun, h3, hg3, hz3, hen⟩
    · have HE : Hid (CloneP w p G (.returned (.pointer (some ⟨q, 0, none⟩))) V) := by
        obtain ⟨_, h2, h4, h5, _, h6, h7⟩ := HI.out
        rw [h0, List.map_nil, List.append_nil] at h6
        exact ⟨q, C, rfl, h4, h5, cl_perm HS.out.1.nodup h6 h7, h2⟩
      clear h0
      go_wp2_with fail
      clear hrun
      go_wp2
      go_ret
      exact HE.out
    · have hrun' : (Instr.next (.pointer (some ⟨r, 0, none⟩)) false 0).run Try.prog V = .ok (.tuple #[.bool true, .agg e.k.cells.toArray, e.v]) w3 := hrun
      have hen' : (Instr.entry (.pointer (some ⟨r, 0, none⟩))).run Try.prog w3 = .ok (.tuple #[.agg e.k.cells.toArray, e.v]) w3 := hen
      have hek : e ∈ es := by
        obtain ⟨clock, seen, _, _, hl, _⟩ := HI.out.1
        rw [hl] at he
        exact (List.mem_filter.1 he).1
      obtain ⟨l, hl, hk, hv⟩ := HES.out e hek
      have hwr : w.heap.size ≤ r := by rw [← HR0.out]; exact H1.out.2.2.2.size
      have hBw : Below w.heap.size w w3 := HI.out.2.1.grown hg3 HI.out.2.1.size (fun j hj => by have e := Option.some.inj hj; omega)
      have ho := HS.out.1.ok l hl
      have hgc : GAt w3 q C := HI.out.2.2.1.keep (Keep.grown (S := fun k => k = r) hg3 rfl) (fun k hk e => HI.out.2.2.2.2.1 (e ▸ hk))
      have HE : Hid (l ∈ G.ls ∧ Vk l.p.v ∧ left'.length < left.length) := ⟨hl, ho.v, by rw [hp.length_eq]; simp⟩
      have HE2 : Hid (HMR w3 mb r es left' ∧ Below w.heap.size w w3 ∧ GAt w3 q C ∧ (∀ k ∈ C.bl q, w.heap.size ≤ k) ∧ (¬ r ∈ C.bl q) ∧ (C.keys ++ l.p.v :: left'.map (·.k)).Perm G.keys ∧ ∀ x ∈ C.ps, x ∈ G.ps) := by
        refine ⟨h3, hBw, hgc, HI.out.2.2.2.1, HI.out.2.2.2.2.1, ?_, HI.out.2.2.2.2.2.2⟩
        have h9 := HI.out.2.2.2.2.2.1
        have h8 := hp.map (·.k)
        rw [List.map_cons, hk] at h8
        exact (List.Perm.append_left _ h8.symm).trans h9
      rw [hk, hv] at hrun' hen'
      clear hrun hen he hp h3 hg3 hz3 hek hl hk hv hBw ho hgc HI hwr
      go_wp2_with (first
        | (with_reducible change wpList _ _ _ ({ dst := none, op := Op.store 34 _ _, type := _, pos := _, after := _, guard := _ } :: _) _ _
           refine Hid.out ?_)
        | fail)
      show wpList _ _ _ _ _ _
      refine wpList_store_fresh rfl 34 (.tmp 4) (.tmp 18) rfl Z l.p.v.cells 34 rfl rfl (by rw [Vx.len HE.out.2.1.1, HZ.out]) (info34 HE.out.2.1.1) (Vx.one l.p.v) ?_
      obtain ⟨U1, hU1⟩ : ∃ W, w3.alloc (.cells l.p.v.cells.toArray 34) = W := ⟨_, rfl⟩
      obtain ⟨d4, hd4⟩ : ∃ g, w3.heap.size = g := ⟨_, rfl⟩
      have S1 : Hid (HMR U1 mb r es left' ∧ Below w.heap.size w U1 ∧ GAt U1 q C ∧ Blk U1 d4 34 l.p.v.cells ∧ (¬ d4 ∈ C.bl q) ∧ (∀ k ∈ C.bl q, w.heap.size ≤ k)) := by
        have hbl : Below w3.heap.size w3 U1 := by rw [← hU1]; exact below_al _ _
        refine ⟨HE2.out.1.below hbl, below_tr HE2.out.2.1 hbl, HE2.out.2.2.1.below hbl, by rw [← hU1, ← hd4]; exact Blk.new w3 _ _, fun hm => ?_, HE2.out.2.2.2.1⟩
        have := HE2.out.2.2.1.lt d4 hm
        omega
      rw [hU1, hd4]
      clear hU1 hd4 hrun' hen'
      obtain ⟨lb, hlb⟩ : ∃ b, l.blk = b := ⟨_, rfl⟩
      have HLB := hid_of hlb
      rw [hlb]
      clear hlb
      go_wp2_with fail
      have hmem : C.mb ∈ C.bl q := by rw [Gm.bl_eq]; simp
      have hmn : ¬ q = C.mb := fun e => S1.out.2.2.1.mbp e.symm
      have HCOPY : Hid (∀ V, Below U1.heap.size U1 V → Calls Try.prog 31 #[.pointer (some ⟨lb, 0, none⟩)] V fun e w' => CopyP V l e w') := fun V hb => by
        rw [← HLB.out]
        exact copy_is (HS.out.1.below (below_tr S1.out.2.1 hb)) HE.out.1 (HNE.out l HE.out.1)
      refine cl7 (m := C.mb) (y := l.p.v) (l := l) (M := linesKv C.ls) ⟨S1.out.2.2.1.blk.lt, S1.out.2.2.2.1.lt⟩ ⟨hmn, fun e => S1.out.2.2.2.2.1 (e ▸ hmem)⟩ (S1.out.2.2.1.blk.cell rfl) S1.out.2.2.2.1.range0 HE.out.2.1 S1.out.2.2.1.mp HCOPY ?_
      intro U2 l' hkp hmp hx
      have hkn : l.p.v ∉ C.ls.map (·.p.v) := by
        have h1 : (C.keys ++ l.p.v :: left'.map (·.k)).Nodup := HE2.out.2.2.2.2.2.1.nodup_iff.2 HS.out.1.nodup
        rw [List.nodup_append] at h1
        exact fun hm => h1.2.2 _ hm _ (by simp) rfl
      have hfew : C.ls.length < 512 := by
        have h1 := HE2.out.2.2.2.2.2.1.length_eq
        have h2 := HS.out.1.few
        rw [List.length_append, List.length_cons] at h1
        have h3 : G.keys.length = G.ls.length := List.length_map ..
        have h4 : C.keys.length = C.ls.length := List.length_map ..
        omega
      have hmp2 : MP U2 C.mb (linesKv (C.ls ++ [l'])) := by
        rw [kput_new hkn] at hmp
        have e : linesKv (C.ls ++ [l']) = linesKv C.ls ++ [(l.p.v, .pointer (some ⟨l'.blk, 0, none⟩))] := by
          unfold linesKv
          rw [List.map_append, List.map_cons, List.map_nil, hx.1]
        rw [e]
        exact hmp
      have hga := S1.out.2.2.1.push hkp hmp2 hx.2.1 hx.2.2.1 hx.2.2.2.1 hx.2.2.2.2 hfew
      have hsz : w.heap.size ≤ U1.heap.size := S1.out.2.1.size
      have HN : Hid (ClI w p q r mb G es left' { C with ls := C.ls ++ [l'] } U2) := by
        have hmbw : mb < w.heap.size := by rw [← HMB.out]; exact HS.out.1.mp.lt
        have hcm : w.heap.size ≤ C.mb := S1.out.2.2.2.2.2 _ hmem
        refine ⟨S1.out.1.same (hkp.block mb S1.out.1.lt.1 (fun e => by omega)) (hkp.block r S1.out.1.lt.2.1 (fun e => HE2.out.2.2.2.2.1 (e ▸ hmem))), S1.out.2.1.trans (hkp.toBelow hsz (fun k hk => by omega)), hga.1, fun k hk => ?_, fun hm => ?_, ?_, fun x hm => ?_⟩
        · rcases hga.2.1 k hk with h | h
          · exact S1.out.2.2.2.2.2 k h
          · omega
        · rcases hga.2.1 r hm with h | h
          · exact HE2.out.2.2.2.2.1 h
          · have := S1.out.1.lt.2.1
            omega
        · have e : Gm.keys { C with ls := C.ls ++ [l'] } = C.keys ++ [l.p.v] := by
            unfold Gm.keys
            rw [List.map_append, List.map_cons, List.map_nil, hx.1]
          rw [e, List.append_assoc]
          exact HE2.out.2.2.2.2.2.1
        · unfold Gm.ps at hm
          rw [List.map_append, List.mem_append] at hm
          rcases hm with hm | hm
          · exact HE2.out.2.2.2.2.2.2 x hm
          · rw [List.map_cons, List.map_nil, List.mem_singleton] at hm
            rw [hm, hx.1]
            exact List.mem_map.2 ⟨l, HE.out.1, rfl⟩
      clear hkp hmp hx hkn hfew hmp2 hga hsz hmem hmn HCOPY
      go_wp2
      refine ⟨⟨left', _, HN.out⟩, ?_⟩
      rw [HLL.out, HN.out.1.left]
      exact HE.out.2.2
end Go.Proofs.Ytjcihaohpbmogaa.Oct
