/-
  Layer 11 (lines): Add.
-/
import Derived.Test.YtjcihaohpbmogaaQpBD
/- Layer 11 (lines): Add. -/
namespace Go.Proofs.Ytjcihaohpbmogaa.Oct
open Go.RowKit
set_option maxRecDepth 100000
set_option linter.unusedSimpArgs false
set_option linter.unusedVariables false
set_option linter.unusedSectionVars false

/-- texts that can be read -/
def TsR (w : World) (a : Option Addr) (n : Nat) (ts : List BA) : Prop :=
  ts.length = n ∧ (0 < n → ∃ g off, a = some ⟨g, off, none⟩ ∧ g < w.heap.size ∧ ∀ i s, ts[i]? = some s → w.cell? ⟨g, off + i, none⟩ = some (.string s))
theorem cell_same {w w' : World} {g i : Nat} (h : w'.heap[g]? = w.heap[g]?) : w'.cell? ⟨g, i, none⟩ = w.cell? ⟨g, i, none⟩ := by simp only [World.cell?, h]
theorem TsR.below {w w' : World} {a : Option Addr} {n : Nat} {ts : List BA} (h : TsR w a n ts) (hb : Below w.heap.size w w') : TsR w' a n ts := by
  refine ⟨h.1, fun hp => ?_⟩
  obtain ⟨g, off, e, h1, h2⟩ := h.2 hp
  exact ⟨g, off, e, Nat.lt_of_lt_of_le h1 hb.size, fun i s hi => (cell_same (hb.block g h1)).trans (h2 i s hi)⟩
abbrev BA0 : BA := ⟨#[]⟩
def abv (up : Vx) (ids : List Vx) : Nat → Vx
  | 0 => up
  | i + 1 => ids.getD i vTop
/-- a new line -/
def newP (up dn : Vx) (ids : List Vx) (ts : List BA) (i : Nat) : PL := ⟨ids.getD i vTop, ts.getD i BA0, [abv up ids i], ids.getD (i + 1) dn, []⟩
/-- what an addition leaves -/
def addP (ps : List PL) (up dn : Vx) (ids : List Vx) (ts : List BA) : List PL :=
  (ps ++ (List.range ids.length).map (newP up dn ids ts)).map fun q => if q.v = dn then { q with fr := q.fr ++ [abv up ids ids.length] } else q
theorem kput_new {ls : List Ln} {v : Vx} {x : Value} (h : v ∉ ls.map (·.p.v)) : kput (linesKv ls) v x = linesKv ls ++ [(v, x)] := by
  unfold kput khas kget
  have : (linesKv ls).find? (fun x => x.1 == v) = none := by
    rw [List.find?_eq_none]
    intro x hx
    unfold linesKv at hx
    obtain ⟨l, hl, rfl⟩ := List.mem_map.1 hx
    have : l.p.v ≠ v := fun e => h (List.mem_map.2 ⟨l, hl, e⟩)
    simpa using this
  rw [this]
  rfl
theorem mp_ne_cell {K : Type} [MK K] {w : World} {m : Nat} {l : Kv K} (h : MP w m l) {g i : Nat} {v : Value} (hc : w.cell? ⟨g, i, none⟩ = some v) : g ≠ m := by
  rintro rfl
  obtain ⟨es, ⟨clock, hb, _⟩, _⟩ := h
  simp only [World.cell?, hb] at hc
  cases hc
theorem VsR.keepm {w w' : World} {a : Option Addr} {n m : Nat} {vs : List Vx} {K : Type} [MK K] {l : Kv K} (h : VsR w a n vs) (hm : MP w m l) (hk : Keep (fun k => k = m) w w') : VsR w' a n vs := by
  refine ⟨h.1, h.2.1, fun hp => ?_⟩
  obtain ⟨g, off, e, h1, h2⟩ := h.2.2 hp
  refine ⟨g, off, e, Nat.lt_of_lt_of_le h1 hk.size, fun i x hx => rangeAt_same (h2 i x hx) (hk.block g h1 ?_)⟩
  obtain ⟨x0, hx0⟩ : ∃ x, vs[0]? = some x := ⟨_, List.getElem?_eq_getElem (by rw [h.1]; exact hp)⟩
  have hc := h2 0 x0 hx0 32 (iv x0.n) (Vx.line (h.2.1 x0 (List.mem_of_getElem? hx0)).1)
  exact mp_ne_cell hm hc
theorem TsR.keepm {w w' : World} {a : Option Addr} {n m : Nat} {ts : List BA} {K : Type} [MK K] {l : Kv K} (h : TsR w a n ts) (hm : MP w m l) (hk : Keep (fun k => k = m) w w') : TsR w' a n ts := by
  refine ⟨h.1, fun hp => ?_⟩
  obtain ⟨g, off, e, h1, h2⟩ := h.2 hp
  obtain ⟨x0, hx0⟩ : ∃ x, ts[0]? = some x := ⟨_, List.getElem?_eq_getElem (by rw [h.1]; exact hp)⟩
  exact ⟨g, off, e, Nat.lt_of_lt_of_le h1 hk.size, fun i s hs => (cell_same (hk.block g h1 (mp_ne_cell hm (h2 0 x0 hx0)))).trans (h2 i s hs)⟩
theorem hid_of {P : Prop} (h : P) : Hid P := h
theorem abv_k {up : Vx} {ids : List Vx} (hu : Vk up) (hi : ∀ v ∈ ids, Vk v) : ∀ i, Vk (abv up ids i)
  | 0 => hu
  | i + 1 => by
    show Vk (ids.getD i vTop)
    rw [List.getD_eq_getElem?_getD]
    cases h : ids[i]? with
    | none => exact vTop_k
    | some v => exact hi v (List.mem_of_getElem? h)
theorem wpList_store_all {ops : Array Oper} {rest : List Oper} {op : Oper} {a : Act} {w : World} {Q : Exit → Act → World → Prop} (hgd : op.guard = none) (x y : Operand) (ho : op.op = .store 34 x y)
    (b : Nat) (u v : Vx) (hu : u.ok) (hv : v.ok) (hx : a.eval x = .pointer (some ⟨b, 0, none⟩)) (hy : a.eval y = .agg v.cells.toArray)
    (hb : Blk w b 34 u.cells) (h : ∀ w', Blk w' b 34 v.cells → w.grownBy w' (some b) → wpList Try.prog ops Q rest (a.put op.dst undef) w') : wpList Try.prog ops Q (op :: rest) a w := by
  refine wpList_store_blk hgd 34 x y ho b 0 34 u.cells v.cells hx hy hb (by rw [Vx.len hu, Vx.len hv]; omega) (info34 hv) (Vx.one v) ?_
  intro w' h1 h2
  exact h w' (blk_all h1.out (by rw [Vx.len hu, Vx.len hv])) h2.out
set_option maxRecDepth 100000 in
set_option maxHeartbeats 4000000 in
theorem ad14 {Q : Exit → Act → World → Prop} {x1 x2 x3 x4 x5 x6 x8 x9 x10 x11 x12 x13 x14 x15 x16 x17 x18 x19 x20 x21 x22 x23 x24 x25 x26 x27 x28 x29 x30 x31 x32 x33 x34 x35 x36 x37 x38 x39 x40 x41 x42 x43 x44 x45 x46 x47 x48 x49 x50 x51 x52 x53 x54 x55 x56 x57 x58 x59 x60 x61 x62 x63 x64 x65 x66 x67 x68 x69 x70 x71 x72 x73 x74 x75 x76 x77 x78 : Value} {ds : List Deferred} {A : World} {d p m : Nat} {y : Vx} {q : Value}
    (HL : Hid (d < A.heap.size)) (HP : Hid (p < A.heap.size)) (HR : Hid (A.rangeAt d 0 y.cells)) (HV : Hid y.ok) (c0 : A.cell? ⟨p, 0, none⟩ = some (.map (some m))) (HK : Hid (∀ V, Below A.heap.size A V → (Instr.lookup 65 (.map (some m)) (.agg y.cells.toArray) false).run Try.prog V = .ok q V))
    (hQ : ∀ V1, Below A.heap.size A V1 → Q .normal { tmps := #[.pointer (some ⟨p, 0, none⟩), x1, x2, x3, x4, x5, x6, .pointer (some ⟨d, 0, none⟩), x8, x9, x10, x11, x12, x13, x14, x15, q, x17, x18, x19, x20, x21, x22, x23, x24, x25, x26, x27, x28, x29, x30, x31, x32, x33, x34, x35, x36, x37, x38, x39, x40, x41, x42, x43, x44, x45, x46, x47, x48, x49, x50, x51, x52, x53, x54, x55, x56, x57, x58, x59, x60, .pointer (some ⟨p, 0, none⟩), .pointer (some ⟨p, 0, none⟩), .pointer (some ⟨p, 0, none⟩), .map (some m), .agg y.cells.toArray, q, x67, x68, x69, x70, x71, x72, x73, x74, x75, x76, x77, x78], defers := ds } V1) :
    (Code.region 14 #[{ dst := some 61, op := Op.move (Operand.tmp 0), type := 25, pos := "change.go:23", after := #[], guard := none }, { dst := some 62, op := Op.nilCheck (Operand.tmp 61), type := 0, pos := "change.go:23", after := #[{ on := 0, ground := Ground.data }], guard := none }, { dst := some 63, op := Op.fieldAddr 67 (Operand.tmp 62) 0, type := 0, pos := "change.go:23", after := #[{ on := 1, ground := Ground.data }], guard := none }, { dst := some 64, op := Op.load 65 (Operand.tmp 63), type := 65, pos := "change.go:23", after := #[{ on := 2, ground := Ground.data }], guard := none }, { dst := some 65, op := Op.load 34 (Operand.tmp 7), type := 34, pos := "change.go:23", after := #[], guard := none }, { dst := some 66, op := Op.lookup 65 (Operand.tmp 64) (Operand.tmp 65) false, type := 71, pos := "change.go:23", after := #[{ on := 3, ground := Ground.data }, { on := 4, ground := Ground.data }], guard := none }, { dst := some 16, op := Op.assign (Operand.tmp 66), type := 71, pos := "change.go:23", after := #[{ on := 5, ground := Ground.data }, { on := 0, ground := Ground.phase }, { on := 1, ground := Ground.phase }, { on := 2, ground := Ground.phase }, { on := 3, ground := Ground.phase }, { on := 4, ground := Ground.phase }, { on := 5, ground := Ground.phase }], guard := none }] true).wp Try.prog Q { tmps := #[.pointer (some ⟨p, 0, none⟩), x1, x2, x3, x4, x5, x6, .pointer (some ⟨d, 0, none⟩), x8, x9, x10, x11, x12, x13, x14, x15, x16, x17, x18, x19, x20, x21, x22, x23, x24, x25, x26, x27, x28, x29, x30, x31, x32, x33, x34, x35, x36, x37, x38, x39, x40, x41, x42, x43, x44, x45, x46, x47, x48, x49, x50, x51, x52, x53, x54, x55, x56, x57, x58, x59, x60, x61, x62, x63, x64, x65, x66, x67, x68, x69, x70, x71, x72, x73, x74, x75, x76, x77, x78], defers := ds } A := by
  refine Code.wp_mono (Q := fun x a' w' => match x with | .normal => Q .normal a' w' | _ => False) (by intro x a' w' h; cases x <;> first | exact h | exact h.elim) ?_
  refine wp_region_held (S := fun V => Below A.heap.size A V) (by kernel_rfl) ?_
  have hS0 : Hid (Below A.heap.size A A.drew) := below_drew0 A
  change wpAnyH Try.prog .any _ _ (fun V => Below A.heap.size A V) 7 (Array.replicate 7 false) _ A.drew
  obtain ⟨V0, hV0⟩ : ∃ V0, A.drew = V0 := ⟨_, rfl⟩
  rw [hV0]
  rw [hV0] at hS0
  clear hV0
  refine wpAnyH_take (i := 0) (oi := { dst := some 61, op := Op.move (Operand.tmp 0), type := 25, pos := "change.go:23", after := #[], guard := none }) (v := .pointer (some ⟨p, 0, none⟩)) rfl (by kernel_rfl) (by kernel_rfl) (by kernel_rfl) (fun _ _ _ h => h.elim) (Or.inl ⟨by rfl, ?y1⟩) hS0.out ?_
  case y1 =>
    intro V hV
    go_simp
  simp only [Act.put, List.setIfInBounds_toArray, List.set_cons_zero, List.set_cons_succ]
  refine wpAnyH_take (i := 1) (oi := { dst := some 62, op := Op.nilCheck (Operand.tmp 61), type := 0, pos := "change.go:23", after := #[{ on := 0, ground := Ground.data }], guard := none }) (v := .pointer (some ⟨p, 0, none⟩)) rfl (by kernel_rfl) (by kernel_rfl) (by kernel_rfl) (fun _ _ _ h => h.elim) (Or.inl ⟨by rfl, ?y2⟩) hS0.out ?_
  case y2 =>
    intro V hV
    go_simp
  simp only [Act.put, List.setIfInBounds_toArray, List.set_cons_zero, List.set_cons_succ]
  refine wpAnyH_take (i := 2) (oi := { dst := some 63, op := Op.fieldAddr 67 (Operand.tmp 62) 0, type := 0, pos := "change.go:23", after := #[{ on := 1, ground := Ground.data }], guard := none }) (v := .pointer (some ⟨p, 0, none⟩)) rfl (by kernel_rfl) (by kernel_rfl) (by kernel_rfl) (fun _ _ _ h => h.elim) (Or.inl ⟨by rfl, ?y3⟩) hS0.out ?_
  case y3 =>
    intro V hV
    go_simp
  simp only [Act.put, List.setIfInBounds_toArray, List.set_cons_zero, List.set_cons_succ]
  refine wpAnyH_take (i := 3) (oi := { dst := some 64, op := Op.load 65 (Operand.tmp 63), type := 65, pos := "change.go:23", after := #[{ on := 2, ground := Ground.data }], guard := none }) (v := .map (some m)) rfl (by kernel_rfl) (by kernel_rfl) (by kernel_rfl) (fun _ _ _ h => h.elim) (Or.inl ⟨by rfl, ?y4⟩) hS0.out ?_
  case y4 =>
    intro V hV
    have hc : V.cell? ⟨p, 0, none⟩ = some (.map (some m)) := (hV.cell (p := ⟨p, 0, none⟩) HP.out).trans c0
    go_simp
  simp only [Act.put, List.setIfInBounds_toArray, List.set_cons_zero, List.set_cons_succ]
  refine wpAnyH_take (i := 4) (oi := { dst := some 65, op := Op.load 34 (Operand.tmp 7), type := 34, pos := "change.go:23", after := #[], guard := none }) (v := .agg y.cells.toArray) rfl (by kernel_rfl) (by kernel_rfl) (by kernel_rfl) (fun _ _ _ h => h.elim) (yieldsIf_load_mid (by rfl) _ _ rfl _ _ rfl (y.cells) _ (fun V hV => rangeAt_same (HR.out) ((show Below A.heap.size A V from hV).block _ (HL.out))) Try.underlying34 rfl (info34 HV.out)) hS0.out ?_
  simp only [Act.put, List.setIfInBounds_toArray, List.set_cons_zero, List.set_cons_succ]
  refine wpAnyH_take (i := 5) (oi := { dst := some 66, op := Op.lookup 65 (Operand.tmp 64) (Operand.tmp 65) false, type := 71, pos := "change.go:23", after := #[{ on := 3, ground := Ground.data }, { on := 4, ground := Ground.data }], guard := none }) (v := q) rfl (by kernel_rfl) (by kernel_rfl) (by kernel_rfl) (fun _ _ _ h => h.elim) (Or.inl ⟨by rfl, ?y5⟩) hS0.out ?_
  case y5 =>
    intro V hV
    exact yl_lookup V 65 _ _ false _ _ _ rfl rfl rfl (HK.out V hV)
  simp only [Act.put, List.setIfInBounds_toArray, List.set_cons_zero, List.set_cons_succ]
  refine wpAnyH_take (i := 6) (oi := { dst := some 16, op := Op.assign (Operand.tmp 66), type := 71, pos := "change.go:23", after := #[{ on := 5, ground := Ground.data }, { on := 0, ground := Ground.phase }, { on := 1, ground := Ground.phase }, { on := 2, ground := Ground.phase }, { on := 3, ground := Ground.phase }, { on := 4, ground := Ground.phase }, { on := 5, ground := Ground.phase }], guard := none }) (v := q) rfl (by kernel_rfl) (by kernel_rfl) (by kernel_rfl) (fun _ _ _ h => h.elim) (Or.inl ⟨by rfl, ?y6⟩) hS0.out ?_
  case y6 =>
    intro V hV
    go_simp
  simp only [Act.put, List.setIfInBounds_toArray, List.set_cons_zero, List.set_cons_succ]
  refine wpAnyH_done (by kernel_rfl) ?_ _
  exact hQ V0 hS0.out
theorem GAt.ln_nd {w : World} {p : Nat} {G : Gm} (h : GAt w p G) {l : Ln} (hl : l ∈ G.ls) : l.bl.Nodup := by
  obtain ⟨A, B, hG⟩ := ls_split hl
  have h0 := h.nd
  rw [Gm.bl_eq, hG, flat_split] at h0
  simp only [List.nodup_cons] at h0
  have h1 := h0.2.2
  rw [List.nodup_append] at h1
  have h2 := h1.2.1
  rw [List.nodup_append] at h2
  exact h2.1
/-- a step more to a line -/
theorem GAt.step {w w' : World} {p : Nat} {G : Gm} (h : GAt w p G) {l : Ln} (hl : l ∈ G.ls) {x : Vx} (hx : Vk x) {g' c' : Nat} (hk : Keep (fun k => k = l.blk ∨ k = l.rb) w w') (hb : Blk w' l.blk 86 (l.cells.set 1 (.slice (some ⟨g', 0, none⟩) (l.p.fr.length + 1) c'))) (ho : OV 0 w' (.slice (some ⟨g', 0, none⟩) (l.p.fr.length + 1) c') (l.p.fr.length + 1) (l.p.fr ++ [x])) (hg : g' = l.rb ∨ w.heap.size ≤ g') (hn : l.p.fr.length < 100000) :
    ∃ G', GAfter w p G G' w' ∧ G'.mb = G.mb ∧ G'.ps = G.ps.map fun q => if q.v = l.p.v then { q with fr := q.fr ++ [x] } else q := by
  obtain ⟨A, B, hG⟩ := ls_split hl
  obtain ⟨rest, r1, r2, r3, r4⟩ := ho.blk
  have hok := h.ok l hl
  have hnd := h.ln_nd hl
  have hlt : ∀ k ∈ l.bl, k < w.heap.size := fun k hk => h.lt k (Gm.bl_ln hl hk)
  have hkb : ∀ k, l.kb = some k → k ≠ l.blk ∧ k ≠ l.rb := fun k hk => by
    unfold Ln.bl at hnd
    rw [hk] at hnd
    simp only [List.nodup_cons, List.mem_cons, List.not_mem_nil, or_false, not_or] at hnd
    exact ⟨fun e => hnd.1.2 e.symm, fun e => hnd.2.1 e.symm⟩
  have h1 := h.turn (l' := ⟨{ l.p with fr := l.p.fr ++ [x] }, l.blk, g', c', rest, l.kb⟩) (w' := w') hG (hk.mono fun j _ hj => by
      unfold Ln.bl
      rcases hj with e | e <;> simp [e]) rfl rfl
    (fun k hk2 => by
      unfold Ln.bl at hk2 ⊢
      simp only [List.mem_cons] at hk2 ⊢
      rcases hk2 with e | e | e
      · exact .inl (.inl e)
      · rcases hg with e2 | e2
        · exact .inl (.inr (.inl (e.trans e2)))
        · exact .inr (e ▸ e2)
      · exact .inl (.inr (.inr e)))
    (by
      rcases hg with e | e
      · rw [e]; exact hnd
      · unfold Ln.bl at hnd hlt ⊢
        simp only [List.nodup_cons, List.mem_cons, not_or] at hnd hlt ⊢
        have a1 := hlt l.blk (.inl rfl)
        exact ⟨⟨fun e2 => by omega, hnd.1.2⟩, fun e2 => by have := hlt g' (.inr (.inr e2)); omega, hnd.2.2⟩)
    (fun y hy => by
      unfold Ln.hp at hy
      simp only [List.mem_cons] at hy
      rcases hy with rfl | rfl | hy
      · show Blk w' l.blk 86 _
        have : (Ln.cells ⟨{ l.p with fr := l.p.fr ++ [x] }, l.blk, g', c', rest, l.kb⟩) = l.cells.set 1 (.slice (some ⟨g', 0, none⟩) (l.p.fr.length + 1) c') := by
          unfold Ln.cells
          simp
        rw [this]
        exact hb
      · exact r1
      · unfold killHp at hy
        cases hkk : l.kb with
        | none => rw [hkk] at hy; cases hy
        | some k =>
          rw [hkk] at hy
          simp only [List.mem_cons, List.not_mem_nil, or_false] at hy
          subst hy
          exact (h.kl hl hkk).same (hk.block k (h.kl hl hkk).lt (fun e => e.elim (hkb k hkk).1 (hkb k hkk).2)))
    ⟨hok.v, ho.2, hok.down, by simp, r2, by simpa using r3, r4, by simp; omega, hok.no⟩
  refine ⟨_, h1, rfl, ?_⟩
  have hn2 := h.nodup
  unfold Gm.keys at hn2
  unfold Gm.ps
  rw [hG] at hn2 ⊢
  rw [List.map_append, List.map_cons, List.nodup_append] at hn2
  have hA : ∀ y ∈ A, y.p.v ≠ l.p.v := fun y hy e => hn2.2.2 y.p.v (List.mem_map.2 ⟨y, hy, rfl⟩) l.p.v (by simp) e
  have hB : ∀ y ∈ B, y.p.v ≠ l.p.v := fun y hy e => (List.nodup_cons.1 hn2.2.1).1 (List.mem_map.2 ⟨y, hy, e⟩)
  simp only [List.map_append, List.map_cons, List.map_map]
  congr 1
  · exact List.map_congr_left fun y hy => by simp [hA y hy]
  · have e1 : B.map ((fun q : PL => if q.v = l.p.v then { q with fr := q.fr ++ [x] } else q) ∘ fun l => l.p) = B.map (fun l => l.p) := List.map_congr_left fun y hy => by simp [hB y hy]
    rw [e1]
    simp
set_option maxHeartbeats 8000000 in
theorem add_is {w : World} {p : Nat} {G : Gm} (h : GAt w p G) (hT : G.tied) (hlen : ∀ l ∈ G.ls, l.p.fr.length < 100000) (up dn : Vx) (hu : Vk up) (hd : Vk dn) (a : Option Addr) (n c : Nat) (ids : List Vx) (hr : VsR w a n ids) (hn : n ≤ 140737488355328) (ta : Option Addr) (tn tc : Nat) (ts : List BA) (ht : TsR w ta tn ts) (AH : Bool) (hAH : AH = true ↔ G.ahd up dn) (E : Int) (hE : G.addE AH up dn ids tn = E) (XA XB : List Value) (hXA : up.cells = XA) (hXB : dn.cells = XB) :
    Calls Try.prog 22 #[.pointer (some ⟨p, 0, none⟩), .agg XA.toArray, .agg XB.toArray, .slice a n c, .slice ta tn tc] w fun e w' => e = .returned (iv E) ∧ ∃ G', GAfter w p G G' w' ∧ G'.mb = G.mb ∧ G'.ps = if E = 0 then addP G.ps up dn ids ts else G.ps := by
  subst hXA
  subst hXB
  obtain ⟨d6, hdd6⟩ : ∃ d, w.heap.size = d := ⟨_, rfl⟩
  obtain ⟨W1, hWd6⟩ : ∃ W, w.alloc (.cells up.cells.toArray 34) = W := ⟨_, rfl⟩
  have bd6 : Below w.heap.size w W1 := by rw [← hWd6]; exact below_al _ _
  have kd6 : Blk W1 d6 34 up.cells := by rw [← hWd6, ← hdd6]; exact Blk.new w _ _
  obtain ⟨d7, hdd7⟩ : ∃ d, W1.heap.size = d := ⟨_, rfl⟩
  obtain ⟨W2, hWd7⟩ : ∃ W, W1.alloc (.cells dn.cells.toArray 34) = W := ⟨_, rfl⟩
  have bd7 : Below W1.heap.size W1 W2 := by rw [← hWd7]; exact below_al _ _
  have kd7 : Blk W2 d7 34 dn.cells := by rw [← hWd7, ← hdd7]; exact Blk.new W1 _ _
  have HT : Hid (G.tied ∧ Vk up ∧ Vk dn ∧ n ≤ 140737488355328 ∧ (AH = true ↔ G.ahd up dn) ∧ (∀ l ∈ G.ls, l.p.fr.length < 100000) ∧ G.addE AH up dn ids tn = E) := ⟨hT, hu, hd, hn, hAH, hlen, hE⟩
  have S0 : Hid (Below w.heap.size w W2 ∧ Blk W2 d6 34 up.cells ∧ Blk W2 d7 34 dn.cells ∧ GAt W2 p G ∧ VsR W2 a n ids ∧ TsR W2 ta tn ts ∧ w.heap.size ≤ d7) := ⟨below_tr bd6 bd7, kd6.below bd7 kd6.lt, kd7, h.below (below_tr bd6 bd7), hr.below (below_tr bd6 bd7), ht.below (below_tr bd6 bd7), by rw [← hdd7]; exact bd6.size⟩
  have q0 : (n : Int) ≤ 140737488355328 := by omega
  have h1 := Vx.one up
  have h1b := Vx.one dn
  have h2 := Try.underlying34
  have h3 := info34 hu.1
  have h3b := info34 hd.1
  have h4 := Vx.len hu.1
  have h4b := Vx.len hd.1
  have HGW : Hid (GAt w p G) := h
  have HRW : Hid (VsR w a n ids ∧ TsR w ta tn ts) := ⟨hr, ht⟩
  clear bd6 bd7 kd6 kd7 h hT hu hd hr ht hn hAH hlen hE
  go_enter Try.func22, Try.ntmps22
  go_wp2_with (first
    | (with_reducible change wpList _ _ _ ({ dst := some 18, op := _, type := _, pos := _, after := _, guard := _ } :: _) _ _
       refine wpList_load_want rfl 34 (.tmp 6) rfl d6 0 rfl up.cells _ S0.out.2.1.range0 Try.underlying34 rfl (info34 HT.out.2.1.1) ?_)
    | (with_reducible change wpList _ _ _ ({ dst := some 19, op := _, type := _, pos := _, after := _, guard := _ } :: _) _ _
       refine wpList_load_want rfl 34 (.tmp 7) rfl d7 0 rfl dn.cells _ S0.out.2.2.1.range0 Try.underlying34 rfl (info34 HT.out.2.2.1.1) ?_)
    | fail)
  clear hWd6 hWd7 hdd6 hdd7 h1 h1b h3 h3b h4 h4b
  refine (checkAdd_is S0.out.2.2.2.1 HT.out.1 up dn HT.out.2.1 HT.out.2.2.1 a n c ids S0.out.2.2.2.2.1 HT.out.2.2.2.1 ta tn tc AH HT.out.2.2.2.2.1 E HT.out.2.2.2.2.2.2 up.cells dn.cells rfl rfl).mono ?_
  rintro e V ⟨rfl, hb⟩
  have S1 : Hid (Below w.heap.size w V ∧ Blk V d6 34 up.cells ∧ Blk V d7 34 dn.cells ∧ GAt V p G ∧ VsR V a n ids ∧ TsR V ta tn ts ∧ w.heap.size ≤ d7) := ⟨below_tr S0.out.1 hb, S0.out.2.1.below hb S0.out.2.1.lt, S0.out.2.2.1.below hb S0.out.2.2.1.lt, S0.out.2.2.2.1.below hb, S0.out.2.2.2.2.1.below hb, S0.out.2.2.2.2.2.1.below hb, S0.out.2.2.2.2.2.2⟩
  clear hb
  by_cases hE0 : E = 0
  · subst hE0
    have HA : Hid (mayBe ids = true ∧ tn = ids.length ∧ (∀ v ∈ ids, v ∉ G.keys) ∧ ids.length + G.ls.length ≤ 512 ∧ ids.Nodup) := by
      have h0 := HT.out.2.2.2.2.2.2
      unfold Gm.addE at h0
      split at h0
      · cases h0
      · rename_i h1
        simp only [not_or, Bool.not_eq_false, Decidable.not_not] at h1
        split at h0
        · cases h0
        · rename_i h2
          split at h0
          · cases h0
          · split at h0
            · cases h0
            · split at h0
              · cases h0
              · refine ⟨h1.1, h1.2, fun v hv hk => h2 (List.any_eq_true.2 ⟨v, hv, decide_eq_true hk⟩), by omega, ?_⟩
                have h3 := h1.1
                unfold mayBe at h3
                simp only [Bool.and_eq_true, decide_eq_true_eq] at h3
                exact (idSet_full ids).1 h3.1.2
    have HL : Hid (ids.length = n ∧ tn = n) := ⟨S1.out.2.2.2.2.1.1, HA.out.2.1.trans S1.out.2.2.2.2.1.1⟩
    obtain ⟨Z, hZ, HZ⟩ := zval34
    go_wp2_with (first
      | (with_reducible change wpList _ _ _ ({ dst := some 26, op := _, type := _, pos := _, after := _, guard := _ } :: _) _ _
         refine wpList_load_want rfl 34 (.tmp 6) rfl d6 0 rfl up.cells _ S1.out.2.1.range0 Try.underlying34 rfl (info34 HT.out.2.1.1) ?_)
      | (with_reducible change wpList _ _ _ ({ dst := none, op := Op.store 34 _ _, type := _, pos := _, after := _, guard := _ } :: _) _ _
         refine Hid.out ?_)
      | fail)
    show wpList _ _ _ _ _ _
    refine wpList_store_fresh rfl 34 (.tmp 12) (.tmp 26) rfl Z up.cells 34 rfl rfl (by rw [Vx.len HT.out.2.1.1, HZ.out]) (info34 HT.out.2.1.1) (Vx.one up) ?_
    obtain ⟨V3, hV3⟩ : ∃ W, V.alloc (.cells up.cells.toArray 34) = W := ⟨_, rfl⟩
    obtain ⟨d12, hd12⟩ : ∃ g, V.heap.size = g := ⟨_, rfl⟩
    have hbld12 : Below V.heap.size V V3 := by rw [← hV3]; exact below_al _ _
    have hkd12 : Blk V3 d12 34 up.cells := by rw [← hV3, ← hd12]; exact Blk.new _ _ _
    have hgd12 : V.heap.size ≤ d12 := by rw [← hd12]; exact Nat.le_refl _
    rw [hV3, hd12]
    clear hV3 hd12
    have S3 : Hid (Below w.heap.size w V3 ∧ Blk V3 d7 34 dn.cells ∧ GAt V3 p G ∧ VsR V3 a n ids ∧ TsR V3 ta n ts ∧ w.heap.size ≤ d7 ∧ Blk V3 d12 34 up.cells ∧ w.heap.size ≤ d12 ∧ d7 < d12) := ⟨below_tr S1.out.1 hbld12, S1.out.2.2.1.below hbld12 S1.out.2.2.1.lt, S1.out.2.2.2.1.below hbld12, S1.out.2.2.2.2.1.below hbld12, by rw [← HL.out.2]; exact S1.out.2.2.2.2.2.1.below hbld12, S1.out.2.2.2.2.2.2, hkd12, Nat.le_trans S1.out.1.size hgd12, Nat.lt_of_lt_of_le S1.out.2.2.1.lt hgd12⟩
    clear hbld12 hkd12 hgd12
    go_wp2
    go_loopw [29] (fun u wr => ∃ (i : Nat) (Gi : Gm), u = iv (i : Int) ∧ Hid (i ≤ n ∧ Keep (fun k => k = G.mb) w wr ∧ GAt wr p Gi ∧ Gi.mb = G.mb ∧ Gi.ps = G.ps ++ (List.range i).map (newP up dn ids ts) ∧ (∀ k ∈ Gi.bl p, (k ∈ G.bl p ∨ w.heap.size ≤ k) ∧ k ≠ d7 ∧ k ≠ d12) ∧ Blk wr d7 34 dn.cells ∧ Blk wr d12 34 (abv up ids i).cells)) (fun u _ => n - (intOf u).toNat)
    case atStart => exact ⟨0, G, rfl, ⟨Nat.zero_le _, Keep.below S3.out.1, S3.out.2.2.1, rfl, by simp, fun k hk => ⟨.inl hk, fun e => by have := HGW.out.lt k hk; have := S3.out.2.2.2.2.2.1; omega, fun e => by have := HGW.out.lt k hk; have := S3.out.2.2.2.2.2.2.2.1; omega⟩, S3.out.2.1, S3.out.2.2.2.2.2.2.1⟩⟩
    case round =>
      obtain ⟨U, hU⟩ : ∃ U, U = wr := ⟨_, rfl⟩
      subst hU
      obtain ⟨i, Gi, rfl, HI⟩ := hrel
      have HAB : Hid (Vk (abv up ids i)) := abv_k HT.out.2.1 S3.out.2.2.2.1.2.1 i
      by_cases hi : i < n
      · obtain ⟨y, hy⟩ : ∃ y, ids[i]? = some y := ⟨_, List.getElem?_eq_getElem (by rw [HL.out.1]; exact hi)⟩
        have HVS : Hid (VsR U a n ids ∧ TsR U ta n ts) := ⟨HRW.out.1.keepm HGW.out.mp HI.out.2.1, by have := HRW.out.2.keepm HGW.out.mp HI.out.2.1; rw [HL.out.2] at this; exact this⟩
        have HY : Hid (i < n ∧ ids[i]? = some y ∧ y.ok ∧ Vk y) := ⟨hi, hy, (HVS.out.1.2.1 y (List.mem_of_getElem? hy)).1, HVS.out.1.2.1 y (List.mem_of_getElem? hy)⟩
        obtain ⟨gb, off, rfl, hg, hel⟩ := HVS.out.1.2.2 (by omega)
        obtain ⟨tg, to, rfl, htg, htel⟩ := HVS.out.2.2 (by omega)
        obtain ⟨s, hs⟩ : ∃ s, ts[i]? = some s := ⟨_, List.getElem?_eq_getElem (by rw [HVS.out.2.1]; exact hi)⟩
        have HR : Hid (U.rangeAt gb (off + i * 33) y.cells ∧ gb < U.heap.size ∧ tg < U.heap.size ∧ U.cell? ⟨tg, to + i, none⟩ = some (.string s) ∧ ts[i]? = some s) := ⟨hel i y hy, hg, htg, htel i s hs, hs⟩
        have HEL : Hid (∀ j v, ids[j]? = some v → U.rangeAt gb (off + j * 33) v.cells) := hel
        have q1 : (i : Int) < (n : Int) := by omega
        clear hel hy hi hg htg htel hs
        go_wp2_with (first
          | (with_reducible change wpList _ _ _ ({ dst := some 33, op := _, type := _, pos := _, after := _, guard := _ } :: _) _ _
             refine wpList_load_want rfl 34 (.tmp 32) rfl gb (off + i * 33) rfl y.cells _ HR.out.1 Try.underlying34 rfl (info34 HY.out.2.2.1) ?_)
          | (with_reducible change wpList _ _ _ ({ dst := none, op := Op.store 34 _ _, type := _, pos := _, after := _, guard := _ } :: _) _ _
             refine Hid.out ?_)
          | fail)
        show wpList _ _ _ _ _ _
        refine wpList_store_fresh rfl 34 (.tmp 14) (.tmp 33) rfl Z y.cells 34 rfl rfl (by rw [Vx.len HY.out.2.2.1, HZ.out]) (info34 HY.out.2.2.1) (Vx.one y) ?_
        obtain ⟨U2, hU2⟩ : ∃ W, U.alloc (.cells y.cells.toArray 34) = W := ⟨_, rfl⟩
        obtain ⟨d14, hd14⟩ : ∃ g, U.heap.size = g := ⟨_, rfl⟩
        have hbld14 : Below U.heap.size U U2 := by rw [← hU2]; exact below_al _ _
        have hkd14 : Blk U2 d14 34 y.cells := by rw [← hU2, ← hd14]; exact Blk.new _ _ _
        have hgd14 : U.heap.size ≤ d14 := by rw [← hd14]; exact Nat.le_refl _
        rw [hU2, hd14]
        clear hU2 hd14
        have S4 : Hid (Below U.heap.size U U2 ∧ Blk U2 d14 34 y.cells ∧ U.heap.size ≤ d14) := ⟨hbld14, hkd14, hgd14⟩
        clear hbld14 hkd14 hgd14
        go_wp2_with (first
          | (with_reducible change wpList _ _ _ ({ dst := some 34, op := _, type := _, pos := _, after := _, guard := _ } :: _) _ _
             refine wpList_load_want rfl 34 (.tmp 7) rfl d7 0 rfl dn.cells _ ((HI.out.2.2.2.2.2.2.1.below S4.out.1 HI.out.2.2.2.2.2.2.1.lt).range0) Try.underlying34 rfl (info34 HT.out.2.2.1.1) ?_)
          | (with_reducible change wpList _ _ _ ({ dst := none, op := Op.store 34 _ _, type := _, pos := _, after := _, guard := _ } :: _) _ _
             refine Hid.out ?_)
          | fail)
        show wpList _ _ _ _ _ _
        refine wpList_store_fresh rfl 34 (.tmp 15) (.tmp 34) rfl Z dn.cells 34 rfl rfl (by rw [Vx.len HT.out.2.2.1.1, HZ.out]) (info34 HT.out.2.2.1.1) (Vx.one dn) ?_
        obtain ⟨U3, hU3⟩ : ∃ W, U2.alloc (.cells dn.cells.toArray 34) = W := ⟨_, rfl⟩
        obtain ⟨d15, hd15⟩ : ∃ g, U2.heap.size = g := ⟨_, rfl⟩
        have hbld15 : Below U2.heap.size U2 U3 := by rw [← hU3]; exact below_al _ _
        have hkd15 : Blk U3 d15 34 dn.cells := by rw [← hU3, ← hd15]; exact Blk.new _ _ _
        have hgd15 : U2.heap.size ≤ d15 := by rw [← hd15]; exact Nat.le_refl _
        rw [hU3, hd15]
        clear hU3 hd15
        have S5 : Hid (Below U.heap.size U U3 ∧ Blk U3 d14 34 y.cells ∧ U.heap.size ≤ d14 ∧ Blk U3 d15 34 dn.cells ∧ d14 < d15) := ⟨below_tr S4.out.1 hbld15, S4.out.2.1.below hbld15 S4.out.2.1.lt, S4.out.2.2, hkd15, Nat.lt_of_lt_of_le S4.out.2.1.lt hgd15⟩
        clear hbld15 hkd15 hgd15
        by_cases hi1 : i + 1 < n
        · have q2 : (i : Int) + 1 < (n : Int) := by omega
          obtain ⟨z, hz⟩ : ∃ z, ids[i + 1]? = some z := ⟨_, List.getElem?_eq_getElem (by rw [HL.out.1]; exact hi1)⟩
          have HZZ : Hid (ids[i + 1]? = some z ∧ Vk z ∧ U3.rangeAt gb (off + (i + 1) * 33) z.cells) := ⟨hz, HVS.out.1.2.1 z (List.mem_of_getElem? hz), rangeAt_same (HEL.out (i + 1) z hz) (S5.out.1.block gb HR.out.2.1)⟩
          clear hz hi1
          go_wp2_with (first
            | (with_reducible change wpList _ _ _ ({ dst := some 44, op := _, type := _, pos := _, after := _, guard := _ } :: _) _ _
               refine wpList_load_want rfl 34 (.tmp 43) rfl gb (off + (i + 1) * 33) rfl z.cells _ HZZ.out.2.2 Try.underlying34 rfl (info34 HZZ.out.2.1.1) ?_)
            | (with_reducible change wpList _ _ _ ({ dst := none, op := Op.store 34 _ _, type := _, pos := _, after := _, guard := _ } :: _) _ _
               refine Hid.out ?_)
            | fail)
          show wpList _ _ _ _ _ _
          refine wpList_store_all rfl (.tmp 15) (.tmp 44) rfl d15 dn z HT.out.2.2.1.1 HZZ.out.2.1.1 rfl rfl S5.out.2.2.2.1 ?_
          intro U4 hk4 hg4
          go_wp2
          have S6 : Hid (Keep (fun k => k = G.mb) w U4 ∧ GAt U4 p Gi ∧ Blk U4 d7 34 dn.cells ∧ Blk U4 d12 34 (abv up ids i).cells ∧ Blk U4 d14 34 y.cells ∧ Blk U4 d15 34 z.cells ∧ ids.getD (i + 1) dn = z ∧ Vk z ∧ tg < U4.heap.size ∧ U4.cell? ⟨tg, to + i, none⟩ = some (.string s) ∧ U.heap.size ≤ U4.heap.size ∧ tg ≠ G.mb) := by
            have hb := S5.out.1
            have hk7 := HI.out.2.2.2.2.2.2.1.below hb HI.out.2.2.2.2.2.2.1.lt
            have hk12 := HI.out.2.2.2.2.2.2.2.below hb HI.out.2.2.2.2.2.2.2.lt
            have hK4 : Below U.heap.size U U4 := hb.grown hg4 hb.size (fun j hj => by cases hj; have := S5.out.2.2.1; have := S5.out.2.2.2.2; omega)
            have n7 : d7 < U.heap.size := HI.out.2.2.2.2.2.2.1.lt
            have n12 : d12 < U.heap.size := HI.out.2.2.2.2.2.2.2.lt
            exact ⟨HI.out.2.1.trans (Keep.below (S := fun _ => False) hK4) (fun _ h _ => h.elim), HI.out.2.2.1.below hK4, HI.out.2.2.2.2.2.2.1.below hK4 n7, HI.out.2.2.2.2.2.2.2.below hK4 n12, (hg4.block d14 S5.out.2.1.lt (fun e => by cases e; have := S5.out.2.2.2.2; omega)).trans S5.out.2.1, hk4, by rw [List.getD_eq_getElem?_getD, HZZ.out.1]; rfl, HZZ.out.2.1, Nat.lt_of_lt_of_le HR.out.2.2.1 hK4.size, (cell_same (hK4.block tg HR.out.2.2.1)).trans HR.out.2.2.2.1, hK4.size, mp_ne_cell HI.out.2.2.1.mp HR.out.2.2.2.1 |> fun h => by rw [HI.out.2.2.2.1] at h; exact h⟩
          have HMB : Hid (Gi.mb = G.mb ∧ G.mb < w.heap.size ∧ w.heap.size ≤ d7 ∧ w.heap.size ≤ d12 ∧ G.mb ≠ d7 ∧ G.mb ≠ d12 ∧ w.heap.size ≤ U.heap.size) := ⟨HI.out.2.2.2.1, HGW.out.mp.lt, S3.out.2.2.2.2.2.1, S3.out.2.2.2.2.2.2.2.1, by have := HGW.out.mp.lt; have := S3.out.2.2.2.2.2.1; omega, by have := HGW.out.mp.lt; have := S3.out.2.2.2.2.2.2.2.1; omega, HI.out.2.1.size⟩
          have hlt : d14 < U4.heap.size ∧ d12 < U4.heap.size ∧ d15 < U4.heap.size := ⟨S6.out.2.2.2.2.1.lt, S6.out.2.2.2.1.lt, S6.out.2.2.2.2.2.1.lt⟩
          have hne : (¬ d14 = G.mb) ∧ (¬ d12 = G.mb) ∧ ¬ d15 = G.mb := ⟨fun e => by have := S5.out.2.2.1; have := HMB.out.2.1; have := HMB.out.2.2.2.2.2.2; omega, fun e => HMB.out.2.2.2.2.2.1 e.symm, fun e => by have := S5.out.2.2.1; have := S5.out.2.2.2.2; have := HMB.out.2.1; have := HMB.out.2.2.2.2.2.2; omega⟩
          have c0 : U4.cell? ⟨p, 0, none⟩ = some (.map (some G.mb)) := by
            have := S6.out.2.1.blk.cell (i := 0) rfl
            rw [HMB.out.1] at this
            exact this
          have hmp := S6.out.2.1.mp
          rw [HMB.out.1] at hmp
          have hpm : p < U4.heap.size ∧ ¬ p = G.mb := ⟨S6.out.2.1.blk.lt, fun e => S6.out.2.1.mbp (HMB.out.1.trans e.symm)⟩
          have q3 : (i : Int) < (tn : Int) := by have := HY.out.1; have := HL.out.2; omega
          refine ad11 hpm ⟨S6.out.2.2.2.2.2.2.2.2.1, S6.out.2.2.2.2.2.2.2.2.2.2.2⟩ hlt hne ⟨S6.out.2.2.2.2.1.range0, S6.out.2.2.2.1.range0, S6.out.2.2.2.2.2.1.range0⟩ ⟨HY.out.2.2.2, HAB.out, S6.out.2.2.2.2.2.2.2.1⟩ c0 S6.out.2.2.2.2.2.2.2.2.2.1 hmp q3 (by have := HY.out.1; have := HL.out.2; omega) ?_
          intro U5 r b2 ⟨k1, k2, k3, k4, k5, k6⟩
          have hys : newP up dn ids ts i = ⟨y, s, [abv up ids i], z, []⟩ := by
            unfold newP
            rw [S6.out.2.2.2.2.2.2.1, List.getD_eq_getElem?_getD, HY.out.2.1, List.getD_eq_getElem?_getD, HR.out.2.2.2.2]
            rfl
          have hyk : y ∉ Gi.ls.map (·.p.v) := by
            have e : Gi.ls.map (·.p.v) = Gi.ps.map (·.v) := by unfold Gm.ps; rw [List.map_map]; rfl
            rw [e, HI.out.2.2.2.2.1, List.map_append]
            intro hm
            rcases List.mem_append.1 hm with hm | hm
            · refine HA.out.2.2.1 y (List.mem_of_getElem? HY.out.2.1) ?_
              unfold Gm.keys
              unfold Gm.ps at hm
              rw [List.map_map] at hm
              exact hm
            · rw [List.map_map] at hm
              obtain ⟨j, hj, hjy⟩ := List.mem_map.1 hm
              rw [List.mem_range] at hj
              have hjn : j < ids.length := by have := HY.out.1; have := HL.out.1; omega
              have e1 : ids[j]? = some y := by
                have : ids.getD j vTop = y := hjy
                rw [List.getD_eq_getElem?_getD, List.getElem?_eq_getElem hjn] at this
                rw [List.getElem?_eq_getElem hjn]
                exact congrArg some this
              have := (List.getElem?_inj hjn HA.out.2.2.2.2).1 (e1.trans HY.out.2.1.symm)
              omega
          have hnl : Gi.ls.length = G.ls.length + i := by
            have := congrArg List.length HI.out.2.2.2.2.1
            unfold Gm.ps at this
            simpa using this
          have hpush := S6.out.2.1.push (l := ⟨⟨y, s, [abv up ids i], z, []⟩, b2, r, 1, [], none⟩) (w' := U5) (by rw [HMB.out.1]; exact k1) (by
              rw [HMB.out.1, kput_new hyk] at *
              have := k6
              rw [show linesKv (Gi.ls ++ [⟨⟨y, s, [abv up ids i], z, []⟩, b2, r, 1, [], none⟩]) = linesKv Gi.ls ++ [(y, .pointer (some ⟨b2, 0, none⟩))] by simp [linesKv]]
              exact this)
            (fun k hk => by
              simp only [Ln.bl, List.mem_cons, List.not_mem_nil, or_false] at hk
              rcases hk with rfl | rfl
              · omega
              · exact k3)
            (by simp only [Ln.bl, List.nodup_cons, List.mem_cons, List.not_mem_nil, or_false, not_false_eq_true, and_true, List.nodup_nil]; omega)
            (fun x hx => by
              simp only [Ln.hp, killHp, List.mem_cons, List.not_mem_nil, or_false] at hx
              rcases hx with rfl | rfl
              · exact k4
              · show Blk U5 r 34 (FV [abv up ids i] ++ [])
                rw [show FV [abv up ids i] ++ [] = (abv up ids i).cells by simp [FV]]
                exact k2)
            ⟨HY.out.2.2.2, by simpa using HAB.out, S6.out.2.2.2.2.2.2.2.1, by simp, by simp [FV, Vx.len HAB.out.1], Nat.le_refl _, by show 1 ≤ maxLen; unfold maxLen; omega, by simp, fun _ => rfl⟩ (by have := HA.out.2.2.2.1; have := HL.out.1; have := HY.out.1; omega)
          rw [← hys] at hpush
          have S7 : Hid (Keep (fun k => k = G.mb) w U5 ∧ Blk U5 d7 34 dn.cells ∧ Blk U5 d12 34 (abv up ids i).cells ∧ Blk U5 d14 34 y.cells ∧ b2 ≠ d12 ∧ r ≠ d12 ∧ U4.heap.size ≤ r) := by
            refine ⟨S6.out.1.trans k1 (fun _ h _ => h), k1.blk S6.out.2.2.1 (fun e => HMB.out.2.2.2.2.1 e.symm), k1.blk S6.out.2.2.2.1 hne.2.1, k1.blk S6.out.2.2.2.2.1 hne.1, fun e => ?_, fun e => ?_, k3⟩
            · have := hlt.2.1
              omega
            · have := hlt.2.1
              omega
          have HPU := hid_of hpush
          have HYS := hid_of hys
          clear k1 k2 k4 k6 hyk hnl hpush hmp c0 hpm q3 hne hys
          go_wp2_with (first
            | (with_reducible change wpList _ _ _ ({ dst := some 59, op := _, type := _, pos := _, after := _, guard := _ } :: _) _ _
               refine wpList_load_want rfl 34 (.tmp 14) rfl d14 0 rfl y.cells _ S7.out.2.2.2.1.range0 Try.underlying34 rfl (info34 HY.out.2.2.1) ?_)
            | (with_reducible change wpList _ _ _ ({ dst := none, op := Op.store 34 _ _, type := _, pos := _, after := _, guard := _ } :: _) _ _
               refine Hid.out ?_)
            | fail)
          show wpList _ _ _ _ _ _
          refine wpList_store_all rfl (.tmp 12) (.tmp 59) rfl d12 (abv up ids i) y HAB.out.1 HY.out.2.2.1 rfl rfl S7.out.2.2.1 ?_
          intro U6 hk6 hg6
          have hGb : ∀ k ∈ (Gm.bl { Gi with ls := Gi.ls ++ [⟨newP up dn ids ts i, b2, r, 1, [], none⟩] } p), (k ∈ G.bl p ∨ w.heap.size ≤ k) ∧ k ≠ d7 ∧ k ≠ d12 := fun k hk => by
            rcases HPU.out.2.1 k hk with e | e
            · exact HI.out.2.2.2.2.2.1 k e
            · have h1 := S6.out.2.2.2.2.2.2.2.2.2.2.1
              have h2 := HMB.out
              have h4 := S6.out.2.2.2.1.lt
              have h5 := S6.out.2.2.1.lt
              refine ⟨.inr (by omega), by omega, by omega⟩
          have S8 : Hid (Keep (fun k => k = G.mb) w U6 ∧ GAt U6 p { Gi with ls := Gi.ls ++ [⟨newP up dn ids ts i, b2, r, 1, [], none⟩] } ∧ Blk U6 d7 34 dn.cells ∧ Blk U6 d12 34 y.cells) := by
            have hK : Keep (fun k => k = d12) U5 U6 := Keep.grown hg6 rfl
            refine ⟨⟨hg6.os.trans S7.out.1.os, hg6.tape.trans S7.out.1.tape, hg6.output.trans S7.out.1.output, Nat.le_trans S7.out.1.size hg6.size, fun k hk hn => ?_⟩, ?_, hg6.block d7 S7.out.2.1.lt (fun e => ?_) |>.trans S7.out.2.1, hk6⟩
            · exact (hg6.block k (Nat.lt_of_lt_of_le hk S7.out.1.size) (fun e => by cases e; have := HMB.out.2.2.2.1; omega)).trans (S7.out.1.block k hk hn)
            · exact HPU.out.1.keep hK (fun k hk e => (hGb k hk).2.2 e)
            · cases e
              have := S3.out.2.2.2.2.2.2.2.2
              omega
          clear hk6 hg6
          go_wp2
          refine ⟨⟨i + 1, _, by simp, ⟨HY.out.1, S8.out.1, S8.out.2.1, HMB.out.1, ?_, hGb, S8.out.2.2.1, ?_⟩⟩, ?_⟩
          · show Gm.ps _ = _
            unfold Gm.ps
            rw [List.map_append]
            have h0 := HI.out.2.2.2.2.1
            unfold Gm.ps at h0
            rw [h0, List.range_succ, List.map_append]
            simp
          · show Blk U6 d12 34 (ids.getD i vTop).cells
            rw [List.getD_eq_getElem?_getD, HY.out.2.1]
            exact S8.out.2.2.2
          · have := HY.out.1; simp [intOf]; omega
        · have q2 : ¬ (i : Int) + 1 < (n : Int) := by omega
          go_wp2_with fail
          have S6 : Hid (Keep (fun k => k = G.mb) w U3 ∧ GAt U3 p Gi ∧ Blk U3 d7 34 dn.cells ∧ Blk U3 d12 34 (abv up ids i).cells ∧ Blk U3 d14 34 y.cells ∧ Blk U3 d15 34 dn.cells ∧ ids.getD (i + 1) dn = dn ∧ Vk dn ∧ tg < U3.heap.size ∧ U3.cell? ⟨tg, to + i, none⟩ = some (.string s) ∧ U.heap.size ≤ U3.heap.size ∧ tg ≠ G.mb) := by
            have hK4 := S5.out.1
            have n7 : d7 < U.heap.size := HI.out.2.2.2.2.2.2.1.lt
            have n12 : d12 < U.heap.size := HI.out.2.2.2.2.2.2.2.lt
            exact ⟨HI.out.2.1.trans (Keep.below (S := fun _ => False) hK4) (fun _ h _ => h.elim), HI.out.2.2.1.below hK4, HI.out.2.2.2.2.2.2.1.below hK4 n7, HI.out.2.2.2.2.2.2.2.below hK4 n12, S5.out.2.1, S5.out.2.2.2.1, by rw [List.getD_eq_getElem?_getD, List.getElem?_eq_none (by rw [HL.out.1]; omega)]; rfl, HT.out.2.2.1, Nat.lt_of_lt_of_le HR.out.2.2.1 hK4.size, (cell_same (hK4.block tg HR.out.2.2.1)).trans HR.out.2.2.2.1, hK4.size, mp_ne_cell HI.out.2.2.1.mp HR.out.2.2.2.1 |> fun h => by rw [HI.out.2.2.2.1] at h; exact h⟩
          have HMB : Hid (Gi.mb = G.mb ∧ G.mb < w.heap.size ∧ w.heap.size ≤ d7 ∧ w.heap.size ≤ d12 ∧ G.mb ≠ d7 ∧ G.mb ≠ d12 ∧ w.heap.size ≤ U.heap.size) := ⟨HI.out.2.2.2.1, HGW.out.mp.lt, S3.out.2.2.2.2.2.1, S3.out.2.2.2.2.2.2.2.1, by have := HGW.out.mp.lt; have := S3.out.2.2.2.2.2.1; omega, by have := HGW.out.mp.lt; have := S3.out.2.2.2.2.2.2.2.1; omega, HI.out.2.1.size⟩
          have hlt : d14 < U3.heap.size ∧ d12 < U3.heap.size ∧ d15 < U3.heap.size := ⟨S6.out.2.2.2.2.1.lt, S6.out.2.2.2.1.lt, S6.out.2.2.2.2.2.1.lt⟩
          have hne : (¬ d14 = G.mb) ∧ (¬ d12 = G.mb) ∧ ¬ d15 = G.mb := ⟨fun e => by have := S5.out.2.2.1; have := HMB.out.2.1; have := HMB.out.2.2.2.2.2.2; omega, fun e => HMB.out.2.2.2.2.2.1 e.symm, fun e => by have := S5.out.2.2.1; have := S5.out.2.2.2.2; have := HMB.out.2.1; have := HMB.out.2.2.2.2.2.2; omega⟩
          have c0 : U3.cell? ⟨p, 0, none⟩ = some (.map (some G.mb)) := by
            have := S6.out.2.1.blk.cell (i := 0) rfl
            rw [HMB.out.1] at this
            exact this
          have hmp := S6.out.2.1.mp
          rw [HMB.out.1] at hmp
          have hpm : p < U3.heap.size ∧ ¬ p = G.mb := ⟨S6.out.2.1.blk.lt, fun e => S6.out.2.1.mbp (HMB.out.1.trans e.symm)⟩
          have q3 : (i : Int) < (tn : Int) := by have := HY.out.1; have := HL.out.2; omega
          refine ad11 hpm ⟨S6.out.2.2.2.2.2.2.2.2.1, S6.out.2.2.2.2.2.2.2.2.2.2.2⟩ hlt hne ⟨S6.out.2.2.2.2.1.range0, S6.out.2.2.2.1.range0, S6.out.2.2.2.2.2.1.range0⟩ ⟨HY.out.2.2.2, HAB.out, S6.out.2.2.2.2.2.2.2.1⟩ c0 S6.out.2.2.2.2.2.2.2.2.2.1 hmp q3 (by have := HY.out.1; have := HL.out.2; omega) ?_
          intro U5 r b2 ⟨k1, k2, k3, k4, k5, k6⟩
          have hys : newP up dn ids ts i = ⟨y, s, [abv up ids i], dn, []⟩ := by
            unfold newP
            rw [S6.out.2.2.2.2.2.2.1, List.getD_eq_getElem?_getD, HY.out.2.1, List.getD_eq_getElem?_getD, HR.out.2.2.2.2]
            rfl
          have hyk : y ∉ Gi.ls.map (·.p.v) := by
            have e : Gi.ls.map (·.p.v) = Gi.ps.map (·.v) := by unfold Gm.ps; rw [List.map_map]; rfl
            rw [e, HI.out.2.2.2.2.1, List.map_append]
            intro hm
            rcases List.mem_append.1 hm with hm | hm
            · refine HA.out.2.2.1 y (List.mem_of_getElem? HY.out.2.1) ?_
              unfold Gm.keys
              unfold Gm.ps at hm
              rw [List.map_map] at hm
              exact hm
            · rw [List.map_map] at hm
              obtain ⟨j, hj, hjy⟩ := List.mem_map.1 hm
              rw [List.mem_range] at hj
              have hjn : j < ids.length := by have := HY.out.1; have := HL.out.1; omega
              have e1 : ids[j]? = some y := by
                have : ids.getD j vTop = y := hjy
                rw [List.getD_eq_getElem?_getD, List.getElem?_eq_getElem hjn] at this
                rw [List.getElem?_eq_getElem hjn]
                exact congrArg some this
              have := (List.getElem?_inj hjn HA.out.2.2.2.2).1 (e1.trans HY.out.2.1.symm)
              omega
          have hnl : Gi.ls.length = G.ls.length + i := by
            have := congrArg List.length HI.out.2.2.2.2.1
            unfold Gm.ps at this
            simpa using this
          have hpush := S6.out.2.1.push (l := ⟨⟨y, s, [abv up ids i], dn, []⟩, b2, r, 1, [], none⟩) (w' := U5) (by rw [HMB.out.1]; exact k1) (by
              rw [HMB.out.1, kput_new hyk] at *
              have := k6
              rw [show linesKv (Gi.ls ++ [⟨⟨y, s, [abv up ids i], dn, []⟩, b2, r, 1, [], none⟩]) = linesKv Gi.ls ++ [(y, .pointer (some ⟨b2, 0, none⟩))] by simp [linesKv]]
              exact this)
            (fun k hk => by
              simp only [Ln.bl, List.mem_cons, List.not_mem_nil, or_false] at hk
              rcases hk with rfl | rfl
              · omega
              · exact k3)
            (by simp only [Ln.bl, List.nodup_cons, List.mem_cons, List.not_mem_nil, or_false, not_false_eq_true, and_true, List.nodup_nil]; omega)
            (fun x hx => by
              simp only [Ln.hp, killHp, List.mem_cons, List.not_mem_nil, or_false] at hx
              rcases hx with rfl | rfl
              · exact k4
              · show Blk U5 r 34 (FV [abv up ids i] ++ [])
                rw [show FV [abv up ids i] ++ [] = (abv up ids i).cells by simp [FV]]
                exact k2)
            ⟨HY.out.2.2.2, by simpa using HAB.out, S6.out.2.2.2.2.2.2.2.1, by simp, by simp [FV, Vx.len HAB.out.1], Nat.le_refl _, by show 1 ≤ maxLen; unfold maxLen; omega, by simp, fun _ => rfl⟩ (by have := HA.out.2.2.2.1; have := HL.out.1; have := HY.out.1; omega)
          rw [← hys] at hpush
          have S7 : Hid (Keep (fun k => k = G.mb) w U5 ∧ Blk U5 d7 34 dn.cells ∧ Blk U5 d12 34 (abv up ids i).cells ∧ Blk U5 d14 34 y.cells ∧ b2 ≠ d12 ∧ r ≠ d12 ∧ U3.heap.size ≤ r) := by
            refine ⟨S6.out.1.trans k1 (fun _ h _ => h), k1.blk S6.out.2.2.1 (fun e => HMB.out.2.2.2.2.1 e.symm), k1.blk S6.out.2.2.2.1 hne.2.1, k1.blk S6.out.2.2.2.2.1 hne.1, fun e => ?_, fun e => ?_, k3⟩
            · have := hlt.2.1
              omega
            · have := hlt.2.1
              omega
          have HPU := hid_of hpush
          have HYS := hid_of hys
          clear k1 k2 k4 k6 hyk hnl hpush hmp c0 hpm q3 hne hys
          go_wp2_with (first
            | (with_reducible change wpList _ _ _ ({ dst := some 59, op := _, type := _, pos := _, after := _, guard := _ } :: _) _ _
               refine wpList_load_want rfl 34 (.tmp 14) rfl d14 0 rfl y.cells _ S7.out.2.2.2.1.range0 Try.underlying34 rfl (info34 HY.out.2.2.1) ?_)
            | (with_reducible change wpList _ _ _ ({ dst := none, op := Op.store 34 _ _, type := _, pos := _, after := _, guard := _ } :: _) _ _
               refine Hid.out ?_)
            | fail)
          show wpList _ _ _ _ _ _
          refine wpList_store_all rfl (.tmp 12) (.tmp 59) rfl d12 (abv up ids i) y HAB.out.1 HY.out.2.2.1 rfl rfl S7.out.2.2.1 ?_
          intro U6 hk6 hg6
          have hGb : ∀ k ∈ (Gm.bl { Gi with ls := Gi.ls ++ [⟨newP up dn ids ts i, b2, r, 1, [], none⟩] } p), (k ∈ G.bl p ∨ w.heap.size ≤ k) ∧ k ≠ d7 ∧ k ≠ d12 := fun k hk => by
            rcases HPU.out.2.1 k hk with e | e
            · exact HI.out.2.2.2.2.2.1 k e
            · have h1 := S6.out.2.2.2.2.2.2.2.2.2.2.1
              have h2 := HMB.out
              have h4 := S6.out.2.2.2.1.lt
              have h5 := S6.out.2.2.1.lt
              refine ⟨.inr (by omega), by omega, by omega⟩
          have S8 : Hid (Keep (fun k => k = G.mb) w U6 ∧ GAt U6 p { Gi with ls := Gi.ls ++ [⟨newP up dn ids ts i, b2, r, 1, [], none⟩] } ∧ Blk U6 d7 34 dn.cells ∧ Blk U6 d12 34 y.cells) := by
            have hK : Keep (fun k => k = d12) U5 U6 := Keep.grown hg6 rfl
            refine ⟨⟨hg6.os.trans S7.out.1.os, hg6.tape.trans S7.out.1.tape, hg6.output.trans S7.out.1.output, Nat.le_trans S7.out.1.size hg6.size, fun k hk hn => ?_⟩, ?_, hg6.block d7 S7.out.2.1.lt (fun e => ?_) |>.trans S7.out.2.1, hk6⟩
            · exact (hg6.block k (Nat.lt_of_lt_of_le hk S7.out.1.size) (fun e => by cases e; have := HMB.out.2.2.2.1; omega)).trans (S7.out.1.block k hk hn)
            · exact HPU.out.1.keep hK (fun k hk e => (hGb k hk).2.2 e)
            · cases e
              have := S3.out.2.2.2.2.2.2.2.2
              omega
          clear hk6 hg6
          go_wp2
          refine ⟨⟨i + 1, _, by simp, ⟨HY.out.1, S8.out.1, S8.out.2.1, HMB.out.1, ?_, hGb, S8.out.2.2.1, ?_⟩⟩, ?_⟩
          · show Gm.ps _ = _
            unfold Gm.ps
            rw [List.map_append]
            have h0 := HI.out.2.2.2.2.1
            unfold Gm.ps at h0
            rw [h0, List.range_succ, List.map_append]
            simp
          · show Blk U6 d12 34 (ids.getD i vTop).cells
            rw [List.getD_eq_getElem?_getD, HY.out.2.1]
            exact S8.out.2.2.2
          · have := HY.out.1; simp [intOf]; omega
      · obtain rfl : i = n := by have := HI.out.1; omega
        have q1 : ¬ (i : Int) < (i : Int) := by omega
        have HN : Hid (addP G.ps up dn ids ts = Gi.ps.map fun q => if q.v = dn then { q with fr := q.fr ++ [abv up ids i] } else q) := by
          show addP _ _ _ _ _ = _
          unfold addP
          rw [HL.out.1, ← HI.out.2.2.2.2.1]
        have c0 : U.cell? ⟨p, 0, none⟩ = some (.map (some Gi.mb)) := HI.out.2.2.1.blk.cell rfl
        have HLK : Hid (∀ V4, Below U.heap.size U V4 → (Instr.lookup 65 (.map (some Gi.mb)) (.agg dn.cells.toArray) false).run Try.prog V4 = .ok (ptrOf (Gi.get dn)) V4) := fun V4 hV => HI.out.2.2.1.look2 HT.out.2.2.1 V4 (hV.block _ HI.out.2.2.1.mp.lt)
        generalize hmb : Gi.mb = mb at c0 HLK
        go_wp2_with fail
        refine ad14 HI.out.2.2.2.2.2.2.1.lt HI.out.2.2.1.blk.lt HI.out.2.2.2.2.2.2.1.range0 HT.out.2.2.1.1 c0 HLK ?_
        intro U5 hb
        have HA5 : Hid (GAfter w p G Gi U5 ∧ GAt U5 p Gi ∧ Blk U5 d12 34 (abv up ids i).cells ∧ (∀ k ∈ Gi.bl p, k ≠ d12) ∧ Gi.mb = G.mb) := by
          have hg5 := HI.out.2.2.1.below hb
          refine ⟨⟨hg5, fun k hk => (HI.out.2.2.2.2.2.1 k hk).1, (HI.out.2.1.mono fun j _ hj => ?_).trans (Keep.below (S := fun _ => False) hb) (fun _ h _ => h.elim)⟩, hg5, HI.out.2.2.2.2.2.2.2.below hb HI.out.2.2.2.2.2.2.2.lt, fun k hk => (HI.out.2.2.2.2.2.1 k hk).2.2, HI.out.2.2.2.1⟩
          rw [Gm.bl_eq, hj]
          simp
        clear hb c0 HLK hmb
        cases hgd : Gi.get dn with
        | none =>
          have HR0 : Hid (addP G.ps up dn ids ts = Gi.ps) := by
            show _ = _
            rw [HN.out]
            have hnk := get_none hgd
            have e : (Gi.ps.map fun q => if q.v = dn then { q with fr := q.fr ++ [abv up ids i] } else q) = Gi.ps.map id := List.map_congr_left fun q hq => by
              have : q.v ≠ dn := fun e => hnk (by obtain ⟨l, hl, rfl⟩ := List.mem_map.1 hq; exact List.mem_map.2 ⟨l, hl, e⟩)
              rw [if_neg this]
              rfl
            rw [e, List.map_id]
          clear hgd
          unfold ptrOf
          go_wp2
          go_ret
          exact ⟨rfl, Gi, HA5.out.1, HA5.out.2.2.2.2, by simpa using HR0.out.symm⟩
        | some l =>
          have hgl := get_mem hgd
          have HGL : Hid (l ∈ Gi.ls ∧ l.p.v = dn ∧ l.p.fr.length < 100000 ∧ l.blk ≠ l.rb) := by
            refine ⟨hgl.1, hgl.2, ?_, fun e => ?_⟩
            · have h0 : l.p ∈ Gi.ps := List.mem_map.2 ⟨l, hgl.1, rfl⟩
              rw [HI.out.2.2.2.2.1] at h0
              rcases List.mem_append.1 h0 with h0 | h0
              · obtain ⟨l0, h1, h2⟩ := List.mem_map.1 h0
                rw [← h2]
                exact HT.out.2.2.2.2.2.1 l0 h1
              · obtain ⟨j, _, h2⟩ := List.mem_map.1 h0
                rw [← h2]
                show 1 < 100000
                omega
            · have h0 := HA5.out.2.1.ln_nd hgl.1
              unfold Ln.bl at h0
              simp only [List.nodup_cons, List.mem_cons, not_or] at h0
              exact h0.1.1 e
          clear hgd hgl
          unfold ptrOf
          go_wp2_with fail
          refine ad16 (LC := l.cells) (fr := l.p.fr) ⟨HA5.out.2.2.1.lt, fun e => ?_⟩ HA5.out.2.2.1.range0 HAB.out ⟨HA5.out.2.1.ln HGL.out.1, HA5.out.2.1.ov HGL.out.1⟩ rfl (by have := HGL.out.2.2.1; show _ ≤ _; omega) HGL.out.2.2.2 (HA5.out.2.1.ln HGL.out.1).lt ?_
          · rcases e with e | e
            · exact HA5.out.2.2.2.1 l.blk (Gm.bl_ln HGL.out.1 (by simp [Ln.bl])) e.symm
            · exact HA5.out.2.2.2.1 l.rb (Gm.bl_ln HGL.out.1 (by simp [Ln.bl])) e.symm
          intro U6 r g' c' ⟨k1, k2, k3, k4⟩
          obtain ⟨G2, t1, t2, t3⟩ := HA5.out.2.1.step HGL.out.1 HAB.out k1 k2 k3 k4 HGL.out.2.2.1
          have HF : Hid (GAfter w p G G2 U6 ∧ G2.mb = G.mb ∧ G2.ps = addP G.ps up dn ids ts) := ⟨HA5.out.1.trans t1, t2.trans HA5.out.2.2.2.2, by rw [t3, HN.out, HGL.out.2.1]⟩
          clear k1 k2 k3 k4 t1 t2 t3
          go_wp2
          go_ret
          exact ⟨rfl, G2, HF.out.1, HF.out.2.1, by simpa using HF.out.2.2⟩
  · have q8 : (E != 0) = true := by simpa using hE0
    go_wp2
    go_ret
    exact ⟨rfl, G, GAfter.same HGW.out S1.out.1, rfl, by simp [hE0]⟩
end Go.Proofs.Ytjcihaohpbmogaa.Oct
