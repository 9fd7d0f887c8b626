/-
  Layer 11 (lines): slices.DeleteFunc.
  Layer 11 (lines): leave.
-/
import Derived.Test.YtjcihaohpbmogaaQpAR
/- Layer 11 (lines): slices.DeleteFunc. -/
namespace Go.Proofs.Ytjcihaohpbmogaa.Oct
open Go.RowKit
set_option maxRecDepth 100000
set_option linter.unusedSimpArgs false
set_option linter.unusedVariables false
set_option linter.unusedSectionVars false

theorem FV_take (W : List Vx) (h : ∀ v ∈ W, Vk v) (i : Nat) (hi : i ≤ W.length) : FV W = FV (W.take i) ++ FV (W.drop i) ∧ (FV (W.take i)).length = i * 33 := by
  refine ⟨by rw [← FV_append, List.take_append_drop], ?_⟩
  rw [FV_len _ (fun v hv => h v (List.mem_of_mem_take hv)), List.length_take, Nat.min_eq_left hi]
theorem FV_set (W : List Vx) (h : ∀ v ∈ W, Vk v) (rest : List Value) (i : Nat) (hi : i < W.length) (v : Vx) (hv : Vk v) : (FV W ++ rest).take (i * 33) ++ v.cells ++ (FV W ++ rest).drop (i * 33 + v.cells.length) = FV (W.set i v) ++ rest := by
  have h1 := FV_take W h i (by omega)
  have h2 := FV_take W h (i + 1) (by omega)
  have e1 : (FV W ++ rest).take (i * 33) = FV (W.take i) := by
    rw [h1.1, List.append_assoc, List.take_left' h1.2]
  have e2 : (FV W ++ rest).drop (i * 33 + v.cells.length) = FV (W.drop (i + 1)) ++ rest := by
    rw [Vx.len hv.1, show i * 33 + 33 = (i + 1) * 33 by omega, h2.1, List.append_assoc, List.drop_left' h2.2]
  rw [e1, e2, List.set_eq_take_append_cons_drop, if_pos hi, FV_append, show FV (v :: W.drop (i + 1)) = v.cells ++ FV (W.drop (i + 1)) from rfl]
  simp only [List.append_assoc]
theorem FV_at2 {W : List Vx} {rest : List Value} (h : ∀ v ∈ W, Vk v) {w : World} {g : Nat} (hb : Blk w g 34 (FV W ++ rest)) {i : Nat} {v : Vx} (hv : W[i]? = some v) : w.rangeAt g (i * 33) v.cells := by
  intro j x hj
  refine hb.cell ?_
  have h1 := FV_at W h i v hv j x hj
  rw [List.getElem?_append_left (List.getElem?_eq_some_iff.1 h1).1]
  exact h1
theorem zeros34 (n : Nat) : (Builtin.zeroCells vTop.cells.toArray n).toList = FV (List.replicate n vTop) := by
  have hk : ∀ v ∈ List.replicate n vTop, Vk v := fun v hv => by rw [List.eq_of_mem_replicate hv]; exact vTop_k
  have hl := FV_len _ hk
  rw [List.length_replicate] at hl
  have h33 : vTop.cells.length = 33 := Vx.len vTop_ok
  apply List.ext_getElem?
  intro j
  by_cases hj : j < n * 33
  · have hq : j / 33 < n := by omega
    have hr : j % 33 < 33 := Nat.mod_lt _ (by omega)
    have h1 := FV_at _ hk (j / 33) vTop (by rw [List.getElem?_replicate, if_pos hq]) (j % 33) (vTop.cells[j % 33]'(by omega)) (List.getElem?_eq_getElem (by omega))
    rw [show j / 33 * 33 + j % 33 = j by omega] at h1
    rw [h1]
    simp [Builtin.zeroCells, h33, hj, hr]
  · rw [List.getElem?_eq_none (by simp [Builtin.zeroCells, h33]; omega), List.getElem?_eq_none (by rw [hl]; omega)]
theorem zero34t (W : World) : (zeroValue 34).run Try.prog W = .ok (.agg vTop.cells.toArray) W := by kernel_rfl
theorem run_clear34 (w : World) (ty : TypeId) (g o m c : Nat) (L : List Value) (hb : Blk w g 34 L) (hm : 0 < m) (hl : o + m * 33 ≤ L.length) : (Builtin.clear_ #[35] ty #[.slice (some ⟨g, o, none⟩) m c]).run Try.prog w = .ok (.tuple #[]) (w.setCells g o (FV (List.replicate m vTop))) := by
  have hk : ∀ v ∈ List.replicate m vTop, Vk v := fun v hv => by rw [List.eq_of_mem_replicate hv]; exact vTop_k
  have hfl := FV_len _ hk
  rw [List.length_replicate] at hfl
  have hst := run_storeCells_cells (P := Try.prog) g o (FV (List.replicate m vTop)) 0 w (fun j hj => by rw [show o + 0 + j = o + j by omega, hb.cell (List.getElem?_eq_getElem (l := L) (i := o + j) (by omega))]; rfl) (fun j hj => hb.free _) (FV_one _)
  simp only [Nat.add_zero] at hst
  obtain ⟨m', rfl⟩ : ∃ k, m = k + 1 := ⟨m - 1, by omega⟩
  have hz := zero34t
  have hzz := zeros34 (m' + 1)
  generalize FV (List.replicate (m' + 1) vTop) = F at hst hzz ⊢
  generalize vTop.cells = Z at hz hzz
  simp [Builtin.clear_, run_underlying Try.underlying35, hz, Value.cells, hzz, hst]
theorem fst_cases (p : Vx → Bool) (vs : List Vx) : (fstAt p vs = -1 ∧ ∀ x ∈ vs, p x = false) ∨ ∃ (i : Nat) (x : Vx), fstAt p vs = (i : Int) ∧ vs[i]? = some x ∧ p x = true ∧ ∀ j y, j < i → vs[j]? = some y → p y = false := by
  by_cases h : ∃ x ∈ vs, p x = true
  · right
    obtain ⟨i, hi⟩ : ∃ i, vs.findIdx? p = some i := by
      cases h1 : vs.findIdx? p with
      | none =>
        rw [List.findIdx?_eq_none_iff] at h1
        obtain ⟨x, hx, hp⟩ := h
        rw [h1 x hx] at hp
        cases hp
      | some i => exact ⟨i, rfl⟩
    have h2 := hi
    rw [List.findIdx?_eq_some_iff_getElem] at h2
    obtain ⟨hlt, hp, hn⟩ := h2
    refine ⟨i, vs[i], by unfold fstAt; rw [hi], List.getElem?_eq_getElem hlt, hp, fun j y hj hy => ?_⟩
    have h3 := hn j hj
    obtain ⟨hj', rfl⟩ := List.getElem?_eq_some_iff.1 hy
    simpa using h3
  · left
    have h' : ∀ x ∈ vs, p x = false := fun x hx => by
      cases hp : p x with
      | false => rfl
      | true => exact absurd ⟨x, hx, hp⟩ h
    exact ⟨fstAt_no h', h'⟩
theorem wpList_clear {ops : Array Oper} {rest : List Oper} {o : Oper} {a : Act} {w : World} {Q : Exit → Act → World → Prop} (hg : o.guard = none) (x : Operand) (hop : o.op = .call { callee := .builtin .clear, args := #[x], argTypes := #[35] }) (v : Value) (hx : a.eval x = v) (r : Value) (W' : World) (hr : (Builtin.clear_ #[35] o.type #[v]).run Try.prog w = .ok r W')
    (hK : wpList Try.prog ops Q rest (a.put o.dst r) W') : wpList Try.prog ops Q (o :: rest) a w := by
  refine wpList_plain hg fun K' hK' => ?_
  unfold Oper.wp execOp
  simp only [hop, resolve, invoke, builtin, Sem.run_bind, Sem.run_pure, Result.andThen_ok, List.map_toArray, List.map_cons, List.map_nil, hx, hr]
  exact hK' _ _ hK
/-- a predicate that may be called while a row is written -/
def PredK (w : World) (gr : Nat) (g : FuncId) (R C : Array Value) (p : Vx → Bool) (vs : List Vx) : Prop :=
  (∀ args W, (callFunc g args).run Try.prog W = .ok (.enter g args) W) ∧ ∀ V x, Keep (fun k => k = gr) w V → x ∈ vs → Calls Try.prog g (R ++ #[.agg x.cells.toArray] ++ C) V fun e V' => e = .returned (.bool (p x)) ∧ Below V.heap.size V V'
theorem PredK.below {w : World} {gr : Nat} {g : FuncId} {R C : Array Value} {p : Vx → Bool} {vs : List Vx} (h : PredK w gr g R C p vs) : PredV w g R C p vs := ⟨h.1, fun V x hb hx => h.2 V x (Keep.below hb) hx⟩
set_option maxHeartbeats 4000000 in
theorem delf_is (w : World) (gr n c : Nat) (vs : List Vx) (rest : List Value) (hb : Blk w gr 34 (FV vs ++ rest)) (hv : ∀ v ∈ vs, Vk v) (hn : vs.length = n) (hc : n ≤ c) (hcm : n ≤ 100000000) (g : FuncId) (R C : Array Value) (p : Vx → Bool) (hp : PredK w gr g R C p vs) :
    Calls Try.prog 74 #[.slice (some ⟨gr, 0, none⟩) n c, .func (.func g) R C] w fun e w' => ∃ m rest', e = .returned (.slice (some ⟨gr, 0, none⟩) m c) ∧ Hid (Keep (fun k => k = gr) w w' ∧ Blk w' gr 34 (FV (vs.filter fun x => !p x) ++ rest') ∧ (vs.filter fun x => !p x).length = m ∧ (FV (vs.filter fun x => !p x) ++ rest').length = (FV vs ++ rest).length) := by
  have HS : Hid (Blk w gr 34 (FV vs ++ rest) ∧ (∀ v ∈ vs, Vk v) ∧ vs.length = n ∧ n ≤ c ∧ n ≤ 100000000 ∧ PredK w gr g R C p vs) := ⟨hb, hv, hn, hc, hcm, hp⟩
  have HVS : Hid (VsR w (some ⟨gr, 0, none⟩) n vs) := by rw [← hn]; exact hb.vs hv
  have q0 : (n : Int) ≤ 100000000 := by omega
  have q00 : (n : Int) ≤ (c : Int) := by omega
  have hent := hp.1
  obtain ⟨Z, hZ, HZ⟩ := zval34
  clear hb hv hn hp
  go_enter Try.func74, Try.ntmps74
  go_wp2_with fail
  refine (indexF_is w (some ⟨gr, 0, none⟩) n c vs HVS.out g R C p HS.out.2.2.2.2.2.below (by omega) _ rfl).mono ?_
  rintro e W1 ⟨rfl, hb1⟩
  rcases fst_cases p vs with ⟨hf, hno⟩ | ⟨i, x, hf, hx, hpx, hno⟩
  · have hfl : vs.filter (fun x => !p x) = vs := List.filter_eq_self.2 fun x hx => by simp [hno x hx]
    have HE : Hid (Keep (fun k => k = gr) w W1 ∧ Blk W1 gr 34 (FV vs ++ rest) ∧ vs.length = n) := ⟨Keep.below hb1, HS.out.1.below hb1 HS.out.1.lt, HS.out.2.2.1⟩
    rw [hf]
    clear hf hno hb1 hent
    go_wp2
    go_ret
    rw [hfl]
    exact ⟨n, rest, rfl, HE.out.1, HE.out.2.1, HE.out.2.2, rfl⟩
  · rw [hf]
    have hin : i < n := by rw [← HS.out.2.2.1]; exact (List.getElem?_eq_some_iff.1 hx).1
    have HI0 : Hid (Keep (fun k => k = gr) w W1 ∧ Blk W1 gr 34 (FV vs ++ rest) ∧ vs.take i = (vs.take (i + 1)).filter (fun x => !p x) ∧ i < n) := by
      refine ⟨Keep.below hb1, HS.out.1.below hb1 HS.out.1.lt, ?_, hin⟩
      rw [List.take_add_one, hx, List.filter_append]
      have h1 : (vs.take i).filter (fun x => !p x) = vs.take i := List.filter_eq_self.2 fun y hy => by
        obtain ⟨j, hj⟩ := List.getElem?_of_mem hy
        have hji : j < i := by
          have := (List.getElem?_eq_some_iff.1 hj).1
          rw [List.length_take] at this
          omega
        rw [List.getElem?_take_of_lt hji] at hj
        simp [hno j y hji hj]
      rw [h1]
      simp [hpx]
    have q1 : ¬ (i : Int) = -1 := by omega
    have q2 : (i : Int) ≤ 100000000 := by omega
    clear hf hx hpx hno hb1 hin
    have hbq : ((i : Int) == -1) = false := by simp
    go_wp2
    clear hbq
    go_loopw [5, 6] (fun u v wr => ∃ (i j : Nat) (Wl : List Vx), u = iv (i : Int) ∧ v = iv (j : Int) ∧ Hid (i < j ∧ j ≤ n ∧ Wl.length = n ∧ Wl.take i = (vs.take j).filter (fun x => !p x) ∧ Wl.drop j = vs.drop j ∧ ∀ x ∈ Wl, Vk x) ∧ Hid (Keep (fun k => k = gr) w wr ∧ Blk wr gr 34 (FV Wl ++ rest))) (fun _ v _ => n - (intOf v).toNat)
    case atStart => exact ⟨i, i + 1, vs, rfl, by simp, ⟨Nat.lt_succ_self i, HI0.out.2.2.2, HS.out.2.2.1, HI0.out.2.2.1, rfl, HS.out.2.1⟩, HI0.out.1, HI0.out.2.1⟩
    case round =>
      obtain ⟨V, hV⟩ : ∃ V, V = wr := ⟨_, rfl⟩
      subst hV
      obtain ⟨i2, j, Wl, rfl, rfl, HP, HB⟩ := hrel
      clear HI0 q1 q2
      by_cases hj : j < n
      · obtain ⟨y, hy⟩ : ∃ y, vs[j]? = some y := ⟨_, List.getElem?_eq_getElem (by rw [HS.out.2.2.1]; exact hj)⟩
        have hwy : Wl[j]? = some y := by
          have h1 := congrArg (·[0]?) HP.out.2.2.2.2.1
          simp only [List.getElem?_drop, Nat.add_zero] at h1
          rw [h1, hy]
        have HY : Hid (j < n ∧ vs[j]? = some y ∧ Wl[j]? = some y ∧ Vk y ∧ y ∈ vs) := ⟨hj, hy, hwy, HS.out.2.1 y (List.mem_of_getElem? hy), List.mem_of_getElem? hy⟩
        have HR : Hid (V.rangeAt gr (j * 33) y.cells) := FV_at2 HP.out.2.2.2.2.2 HB.out.2 hwy
        have q3 : (j : Int) < (n : Int) := by omega
        have q4 : (j : Int) ≤ 100000000 := by omega
        clear hy hwy hj
        go_wp2_with (first
          | (with_reducible change wpList _ _ _ ({ dst := some 25, op := _, type := _, pos := _, after := _, guard := _ } :: _) _ _
             refine wpList_load_want rfl 34 (.tmp 24) rfl gr (j * 33) rfl y.cells _ HR.out Try.underlying34 rfl (info34 HY.out.2.2.2.1.1) ?_)
          | (with_reducible change wpList _ _ _ ({ dst := none, op := Op.store 34 _ _, type := _, pos := _, after := _, guard := _ } :: _) _ _
             refine Hid.out ?_)
          | fail)
        show wpList _ _ _ _ _ _
        refine wpList_store_fresh rfl 34 (.tmp 7) (.tmp 25) rfl Z y.cells 34 rfl rfl (by rw [Vx.len HY.out.2.2.2.1.1, HZ.out]) (info34 HY.out.2.2.2.1.1) (Vx.one y) ?_
        obtain ⟨U1, hU1⟩ : ∃ W, V.alloc (.cells y.cells.toArray 34) = W := ⟨_, rfl⟩
        obtain ⟨d7, hd7⟩ : ∃ g, V.heap.size = g := ⟨_, rfl⟩
        have S1 : Hid (Keep (fun k => k = gr) w U1 ∧ Blk U1 gr 34 (FV Wl ++ rest) ∧ Blk U1 d7 34 y.cells ∧ d7 ≠ gr) := by
          have hbl : Below V.heap.size V U1 := by rw [← hU1]; exact below_al _ _
          refine ⟨HB.out.1.trans (Keep.below (S := fun k => k = gr) hbl) (fun _ h _ => h), HB.out.2.below hbl HB.out.2.lt, by rw [← hU1, ← hd7]; exact Blk.new V _ _, ?_⟩
          have := HB.out.2.lt
          omega
        rw [hU1, hd7]
        clear hU1 hd7 HR HB
        obtain ⟨B, hB⟩ : ∃ B, p y = B := ⟨_, rfl⟩
        have HBB := hid_of hB
        clear hB
        go_wp2_with (first
          | (with_reducible change wpList _ _ _ ({ dst := some 27, op := _, type := _, pos := _, after := _, guard := _ } :: _) _ _
             refine wpList_load_want rfl 34 (.tmp 7) rfl d7 0 rfl y.cells _ S1.out.2.2.1.range0 Try.underlying34 rfl (info34 HY.out.2.2.2.1.1) ?_)
          | fail)
        refine (HS.out.2.2.2.2.2.2 U1 y S1.out.1 HY.out.2.2.2.2).mono ?_
        rintro e U2 ⟨he, hb⟩
        rw [HBB.out] at he
        subst he
        have S2 : Hid (Keep (fun k => k = gr) w U2 ∧ Blk U2 gr 34 (FV Wl ++ rest) ∧ Blk U2 d7 34 y.cells) := ⟨S1.out.1.trans (Keep.below (S := fun k => k = gr) hb) (fun _ h _ => h), S1.out.2.1.below hb S1.out.2.1.lt, S1.out.2.2.1.below hb S1.out.2.2.1.lt⟩
        clear hb S1
        have HT : Hid ((vs.take (j + 1)).filter (fun x => !p x) = (vs.take j).filter (fun x => !p x) ++ (if B then [] else [y])) := by
          show _ = _
          rw [List.take_add_one, HY.out.2.1, List.filter_append]
          congr 1
          cases B <;> simp [HBB.out]
        cases B with
        | true =>
          have HN : Hid (i2 < j + 1 ∧ j + 1 ≤ n ∧ Wl.length = n ∧ Wl.take i2 = (vs.take (j + 1)).filter (fun x => !p x) ∧ Wl.drop (j + 1) = vs.drop (j + 1) ∧ ∀ x ∈ Wl, Vk x) := by
            refine ⟨by have := HP.out.1; omega, HY.out.1, HP.out.2.2.1, by rw [HT.out, HP.out.2.2.2.1]; simp, ?_, HP.out.2.2.2.2.2⟩
            have := congrArg (List.drop 1) HP.out.2.2.2.2.1
            simpa [List.drop_drop] using this
          go_wp2
          refine ⟨⟨i2, j + 1, Wl, rfl, by simp, HN.out, S2.out.1, S2.out.2.1⟩, ?_⟩
          have := HY.out.1; simp [intOf]; omega
        | false =>
          have hi2 : i2 < n := by have := HP.out.1; have := HY.out.1; omega
          have q5 : (i2 : Int) < (n : Int) := by omega
          have q6 : (i2 : Int) ≤ 100000000 := by omega
          clear hi2
          go_wp2_with (first
            | (with_reducible change wpList _ _ _ ({ dst := some 32, op := _, type := _, pos := _, after := _, guard := _ } :: _) _ _
               refine wpList_load_want rfl 34 (.tmp 7) rfl d7 0 rfl y.cells _ S2.out.2.2.range0 Try.underlying34 rfl (info34 HY.out.2.2.2.1.1) ?_)
            | (with_reducible change wpList _ _ _ ({ dst := none, op := Op.store 34 _ _, type := _, pos := _, after := _, guard := _ } :: _) _ _
               refine Hid.out ?_)
            | fail)
          show wpList _ _ _ _ _ _
          have hlt : i2 < Wl.length := by have := HP.out.1; have := HY.out.1; have := HP.out.2.2.1; omega
          refine wpList_store_blk rfl 34 (.tmp 33) (.tmp 32) rfl gr (i2 * 33) 34 (FV Wl ++ rest) y.cells rfl rfl S2.out.2.1 (by
            rw [List.length_append, FV_len _ HP.out.2.2.2.2.2, Vx.len HY.out.2.2.2.1.1]
            omega) (info34 HY.out.2.2.2.1.1) (Vx.one y) ?_
          intro U3 r1 r2
          have S3 : Hid (Keep (fun k => k = gr) w U3 ∧ Blk U3 gr 34 (FV (Wl.set i2 y) ++ rest)) := by
            refine ⟨S2.out.1.trans (Keep.grown (S := fun k => k = gr) r2.out rfl) (fun _ h _ => h), ?_⟩
            have h1 := r1.out
            rw [FV_set Wl HP.out.2.2.2.2.2 rest i2 hlt y HY.out.2.2.2.1] at h1
            exact h1
          have HN : Hid (i2 + 1 < j + 1 ∧ j + 1 ≤ n ∧ (Wl.set i2 y).length = n ∧ (Wl.set i2 y).take (i2 + 1) = (vs.take (j + 1)).filter (fun x => !p x) ∧ (Wl.set i2 y).drop (j + 1) = vs.drop (j + 1) ∧ ∀ x ∈ Wl.set i2 y, Vk x) := by
            refine ⟨by have := HP.out.1; omega, HY.out.1, by rw [List.length_set]; exact HP.out.2.2.1, ?_, ?_, fun x hx => ?_⟩
            · rw [HT.out, ← HP.out.2.2.2.1, List.take_add_one, List.take_set_of_le (Nat.le_refl _), List.getElem?_set_self hlt]
              rfl
            · rw [List.drop_set_of_lt (by have := HP.out.1; omega)]
              have := congrArg (List.drop 1) HP.out.2.2.2.2.1
              simpa [List.drop_drop] using this
            · rcases List.mem_or_eq_of_mem_set hx with h | rfl
              · exact HP.out.2.2.2.2.2 x h
              · exact HY.out.2.2.2.1
          clear r1 r2 hlt S2
          go_wp2
          refine ⟨⟨i2 + 1, j + 1, Wl.set i2 y, by simp, by simp, HN.out, S3.out.1, S3.out.2⟩, ?_⟩
          have := HY.out.1; simp [intOf]; omega
      · have q3 : ¬ (j : Int) < (n : Int) := by omega
        obtain rfl : j = n := by have := HP.out.2.1; omega
        have q5 : (i2 : Int) ≤ (j : Int) := by have := HP.out.1; omega
        have q6 : (i2 : Int) ≤ (c : Int) := by omega
        have q7 : ¬ c = i2 := by have := HP.out.1; omega
        go_wp2_with (first
          | (with_reducible change wpList _ _ _ ({ dst := none, op := Op.call _, type := _, pos := _, after := _, guard := _ } :: _) _ _
             refine Hid.out ?_)
          | fail)
        show wpList _ _ _ _ _ _
        have hl := HP.out.2.2.1
        have hij := HP.out.1
        have hfil : Wl.take i2 = vs.filter (fun x => !p x) := by
          have h1 := HP.out.2.2.2.1
          have h2 : vs.take j = vs := List.take_of_length_le (by rw [HS.out.2.2.1]; exact Nat.le_refl _)
          rw [h2] at h1
          exact h1
        have hLL : (FV Wl ++ rest).length = j * 33 + rest.length := by rw [List.length_append, FV_len _ HP.out.2.2.2.2.2, hl]
        have hcl := run_clear34 V 0 gr (i2 * 33) (j - i2) (c - i2) (FV Wl ++ rest) HB.out.2 (by omega) (by rw [hLL]; omega)
        have hkz : ∀ v ∈ List.replicate (j - i2) vTop, Vk v := fun v hv => by rw [List.eq_of_mem_replicate hv]; exact vTop_k
        have hfz := FV_len _ hkz
        rw [List.length_replicate] at hfz
        have hset := Blk.setCells (FV (List.replicate (j - i2) vTop)) (i2 * 33) V (FV Wl ++ rest) HB.out.2 (by rw [hLL, hfz]; omega)
        have ht := FV_take Wl HP.out.2.2.2.2.2 i2 (by omega)
        have htk : (FV Wl ++ rest).take (i2 * 33) = FV (vs.filter fun x => !p x) := by
          rw [ht.1, List.append_assoc, List.take_left' ht.2, hfil]
        rw [htk, List.append_assoc] at hset
        obtain ⟨W9, hW9⟩ : ∃ W, V.setCells gr (i2 * 33) (FV (List.replicate (j - i2) vTop)) = W := ⟨_, rfl⟩
        rw [hW9] at hset hcl
        have HE : Hid (Keep (fun k => k = gr) w W9 ∧ ∃ rest', Blk W9 gr 34 (FV (vs.filter fun x => !p x) ++ rest') ∧ (vs.filter fun x => !p x).length = i2 ∧ (FV (vs.filter fun x => !p x) ++ rest').length = (FV vs ++ rest).length) := by
          refine ⟨HB.out.1.trans (Keep.grown (S := fun k => k = gr) hset.2 rfl) (fun _ h _ => h), _, hset.1, ?_, ?_⟩
          · rw [← hfil, List.length_take]
            omega
          · have e1 := FV_len _ HS.out.2.1
            have e2 : (FV (vs.filter fun x => !p x)).length = i2 * 33 := by rw [← hfil]; exact ht.2
            simp only [List.length_append, List.length_drop, e1, e2, hfz, HS.out.2.2.1, FV_len _ HP.out.2.2.2.2.2, hl]
            omega
        clear hset hkz hfz ht htk hLL hfil hW9
        refine wpList_clear rfl (.tmp 38) rfl _ rfl (.tuple #[]) W9 hcl ?_
        clear hcl
        go_wp2
        go_ret
        obtain ⟨hk, rest', h1, h2, h3⟩ := HE.out
        exact ⟨i2, rest', rfl, hk, h1, h2, h3⟩
end Go.Proofs.Ytjcihaohpbmogaa.Oct

/- Layer 11 (lines): leave. -/
namespace Go.Proofs.Ytjcihaohpbmogaa.Oct
open Go.RowKit
set_option maxRecDepth 100000
set_option linter.unusedSimpArgs false
set_option linter.unusedVariables false
set_option linter.unusedSectionVars false

set_option maxRecDepth 100000 in
set_option maxHeartbeats 4000000 in
theorem lv57 {Q : Exit → Act → World → Prop} {x1 x2 x4 x5 x6 x7 x8 x9 x10 x11 x12 x13 x14 x15 x16 x17 x18 x19 x20 x21 x22 x23 x24 x25 x26 x27 x28 x29 : Value} {ds : List Deferred} {A : World} {p d3 lb m : Nat} {y z : Vx} {q : Value}
    (HL : Hid (p < A.heap.size ∧ d3 < A.heap.size ∧ lb < A.heap.size)) (HR : Hid (A.rangeAt d3 0 y.cells ∧ A.rangeAt lb 2 z.cells)) (HV : Hid (y.ok ∧ z.ok)) (c0 : A.cell? ⟨p, 0, none⟩ = some (.map (some m))) (HK : Hid ((∀ V, Below A.heap.size A V → (Instr.lookup 65 (.map (some m)) (.agg y.cells.toArray) false).run Try.prog V = .ok (.pointer (some ⟨lb, 0, none⟩)) V) ∧ ∀ V, Below A.heap.size A V → (Instr.lookup 65 (.map (some m)) (.agg z.cells.toArray) false).run Try.prog V = .ok q V))
    (hQ : ∀ V1, Below A.heap.size A V1 → Q .normal { tmps := #[.pointer (some ⟨p, 0, none⟩), x1, x2, .pointer (some ⟨d3, 0, none⟩), q, .pointer (some ⟨p, 0, none⟩), .pointer (some ⟨p, 0, none⟩), .pointer (some ⟨p, 0, none⟩), .map (some m), .pointer (some ⟨p, 0, none⟩), .pointer (some ⟨p, 0, none⟩), .pointer (some ⟨p, 0, none⟩), .map (some m), .agg y.cells.toArray, .pointer (some ⟨lb, 0, none⟩), .pointer (some ⟨lb, 0, none⟩), .pointer (some ⟨lb, 2, none⟩), .agg z.cells.toArray, q, x19, x20, x21, x22, x23, x24, x25, x26, x27, x28, x29], defers := ds } V1) :
    (Code.region 1 #[{ dst := some 5, op := Op.move (Operand.tmp 0), type := 25, pos := "change.go:104", after := #[], guard := none }, { dst := some 6, op := Op.nilCheck (Operand.tmp 5), type := 0, pos := "change.go:104", after := #[{ on := 0, ground := Ground.data }], guard := none }, { dst := some 7, op := Op.fieldAddr 67 (Operand.tmp 6) 0, type := 0, pos := "change.go:104", after := #[{ on := 1, ground := Ground.data }], guard := none }, { dst := some 8, op := Op.load 65 (Operand.tmp 7), type := 65, pos := "change.go:104", after := #[{ on := 2, ground := Ground.data }], guard := none }, { dst := some 9, op := Op.move (Operand.tmp 0), type := 25, pos := "change.go:104", after := #[], guard := none }, { dst := some 10, op := Op.nilCheck (Operand.tmp 9), type := 0, pos := "change.go:104", after := #[{ on := 4, ground := Ground.data }], guard := none }, { dst := some 11, op := Op.fieldAddr 67 (Operand.tmp 10) 0, type := 0, pos := "change.go:104", after := #[{ on := 5, ground := Ground.data }], guard := none }, { dst := some 12, op := Op.load 65 (Operand.tmp 11), type := 65, pos := "change.go:104", after := #[{ on := 6, ground := Ground.data }], guard := none }, { dst := some 13, op := Op.load 34 (Operand.tmp 3), type := 34, pos := "change.go:104", after := #[], guard := none }, { dst := some 14, op := Op.lookup 65 (Operand.tmp 12) (Operand.tmp 13) false, type := 71, pos := "change.go:104", after := #[{ on := 7, ground := Ground.data }, { on := 8, ground := Ground.data }], guard := none }, { dst := some 15, op := Op.nilCheck (Operand.tmp 14), type := 0, pos := "change.go:104", after := #[{ on := 9, ground := Ground.data }], guard := none }, { dst := some 16, op := Op.fieldAddr 86 (Operand.tmp 15) 2, type := 0, pos := "change.go:104", after := #[{ on := 10, ground := Ground.data }], guard := none }, { dst := some 17, op := Op.load 34 (Operand.tmp 16), type := 34, pos := "change.go:104", after := #[{ on := 11, ground := Ground.data }], guard := none }, { dst := some 18, op := Op.lookup 65 (Operand.tmp 8) (Operand.tmp 17) false, type := 71, pos := "change.go:104", after := #[{ on := 3, ground := Ground.data }, { on := 12, ground := Ground.data }], guard := none }, { dst := some 4, op := Op.assign (Operand.tmp 18), type := 71, pos := "change.go:104", after := #[{ on := 13, ground := Ground.data }, { on := 0, ground := Ground.phase }, { on := 1, ground := Ground.phase }, { on := 2, ground := Ground.phase }, { on := 3, ground := Ground.phase }, { on := 4, ground := Ground.phase }, { on := 5, ground := Ground.phase }, { on := 6, ground := Ground.phase }, { on := 7, ground := Ground.phase }, { on := 8, ground := Ground.phase }, { on := 9, ground := Ground.phase }, { on := 10, ground := Ground.phase }, { on := 11, ground := Ground.phase }, { on := 12, ground := Ground.phase }, { on := 13, ground := Ground.phase }], guard := none }] true).wp Try.prog Q { tmps := #[.pointer (some ⟨p, 0, none⟩), x1, x2, .pointer (some ⟨d3, 0, none⟩), x4, x5, x6, x7, x8, x9, x10, x11, x12, x13, x14, x15, x16, x17, x18, x19, x20, x21, x22, x23, x24, x25, x26, x27, x28, x29], defers := ds } A := by
  refine Code.wp_mono (Q := fun x a' w' => match x with | .normal => Q .normal a' w' | _ => False) (by intro x a' w' h; cases x <;> first | exact h | exact h.elim) ?_
  refine wp_region_held (S := fun V => Below A.heap.size A V) (by kernel_rfl) ?_
  have hS0 : Hid (Below A.heap.size A A.drew) := below_drew0 A
  change wpAnyH Try.prog .any _ _ (fun V => Below A.heap.size A V) 15 (Array.replicate 15 false) _ A.drew
  obtain ⟨V0, hV0⟩ : ∃ V0, A.drew = V0 := ⟨_, rfl⟩
  rw [hV0]
  rw [hV0] at hS0
  clear hV0
  refine wpAnyH_take (i := 0) (oi := { dst := some 5, op := Op.move (Operand.tmp 0), type := 25, pos := "change.go:104", after := #[], guard := none }) (v := .pointer (some ⟨p, 0, none⟩)) rfl (by kernel_rfl) (by kernel_rfl) (by kernel_rfl) (fun _ _ _ h => h.elim) (Or.inl ⟨by rfl, ?y1⟩) hS0.out ?_
  case y1 =>
    intro V hV
    go_simp
  simp only [Act.put, List.setIfInBounds_toArray, List.set_cons_zero, List.set_cons_succ]
  refine wpAnyH_take (i := 1) (oi := { dst := some 6, op := Op.nilCheck (Operand.tmp 5), type := 0, pos := "change.go:104", after := #[{ on := 0, ground := Ground.data }], guard := none }) (v := .pointer (some ⟨p, 0, none⟩)) rfl (by kernel_rfl) (by kernel_rfl) (by kernel_rfl) (fun _ _ _ h => h.elim) (Or.inl ⟨by rfl, ?y2⟩) hS0.out ?_
  case y2 =>
    intro V hV
    go_simp
  simp only [Act.put, List.setIfInBounds_toArray, List.set_cons_zero, List.set_cons_succ]
  refine wpAnyH_take (i := 2) (oi := { dst := some 7, op := Op.fieldAddr 67 (Operand.tmp 6) 0, type := 0, pos := "change.go:104", after := #[{ on := 1, ground := Ground.data }], guard := none }) (v := .pointer (some ⟨p, 0, none⟩)) rfl (by kernel_rfl) (by kernel_rfl) (by kernel_rfl) (fun _ _ _ h => h.elim) (Or.inl ⟨by rfl, ?y3⟩) hS0.out ?_
  case y3 =>
    intro V hV
    go_simp
  simp only [Act.put, List.setIfInBounds_toArray, List.set_cons_zero, List.set_cons_succ]
  refine wpAnyH_take (i := 3) (oi := { dst := some 8, op := Op.load 65 (Operand.tmp 7), type := 65, pos := "change.go:104", after := #[{ on := 2, ground := Ground.data }], guard := none }) (v := .map (some m)) rfl (by kernel_rfl) (by kernel_rfl) (by kernel_rfl) (fun _ _ _ h => h.elim) (Or.inl ⟨by rfl, ?y4⟩) hS0.out ?_
  case y4 =>
    intro V hV
    have hc : V.cell? ⟨p, 0, none⟩ = some (.map (some m)) := (hV.cell (p := ⟨p, 0, none⟩) HL.out.1).trans c0
    go_simp
  simp only [Act.put, List.setIfInBounds_toArray, List.set_cons_zero, List.set_cons_succ]
  refine wpAnyH_take (i := 4) (oi := { dst := some 9, op := Op.move (Operand.tmp 0), type := 25, pos := "change.go:104", after := #[], guard := none }) (v := .pointer (some ⟨p, 0, none⟩)) rfl (by kernel_rfl) (by kernel_rfl) (by kernel_rfl) (fun _ _ _ h => h.elim) (Or.inl ⟨by rfl, ?y5⟩) hS0.out ?_
  case y5 =>
    intro V hV
    go_simp
  simp only [Act.put, List.setIfInBounds_toArray, List.set_cons_zero, List.set_cons_succ]
  refine wpAnyH_take (i := 5) (oi := { dst := some 10, op := Op.nilCheck (Operand.tmp 9), type := 0, pos := "change.go:104", after := #[{ on := 4, ground := Ground.data }], guard := none }) (v := .pointer (some ⟨p, 0, none⟩)) rfl (by kernel_rfl) (by kernel_rfl) (by kernel_rfl) (fun _ _ _ h => h.elim) (Or.inl ⟨by rfl, ?y6⟩) hS0.out ?_
  case y6 =>
    intro V hV
    go_simp
  simp only [Act.put, List.setIfInBounds_toArray, List.set_cons_zero, List.set_cons_succ]
  refine wpAnyH_take (i := 6) (oi := { dst := some 11, op := Op.fieldAddr 67 (Operand.tmp 10) 0, type := 0, pos := "change.go:104", after := #[{ on := 5, ground := Ground.data }], guard := none }) (v := .pointer (some ⟨p, 0, none⟩)) rfl (by kernel_rfl) (by kernel_rfl) (by kernel_rfl) (fun _ _ _ h => h.elim) (Or.inl ⟨by rfl, ?y7⟩) hS0.out ?_
  case y7 =>
    intro V hV
    go_simp
  simp only [Act.put, List.setIfInBounds_toArray, List.set_cons_zero, List.set_cons_succ]
  refine wpAnyH_take (i := 7) (oi := { dst := some 12, op := Op.load 65 (Operand.tmp 11), type := 65, pos := "change.go:104", after := #[{ on := 6, ground := Ground.data }], guard := none }) (v := .map (some m)) rfl (by kernel_rfl) (by kernel_rfl) (by kernel_rfl) (fun _ _ _ h => h.elim) (Or.inl ⟨by rfl, ?y8⟩) hS0.out ?_
  case y8 =>
    intro V hV
    have hc : V.cell? ⟨p, 0, none⟩ = some (.map (some m)) := (hV.cell (p := ⟨p, 0, none⟩) HL.out.1).trans c0
    go_simp
  simp only [Act.put, List.setIfInBounds_toArray, List.set_cons_zero, List.set_cons_succ]
  refine wpAnyH_take (i := 8) (oi := { dst := some 13, op := Op.load 34 (Operand.tmp 3), type := 34, pos := "change.go:104", after := #[], guard := none }) (v := .agg y.cells.toArray) rfl (by kernel_rfl) (by kernel_rfl) (by kernel_rfl) (fun _ _ _ h => h.elim) (yieldsIf_load_mid (by rfl) _ _ rfl _ _ rfl (y.cells) _ (fun V hV => rangeAt_same (HR.out.1) ((show Below A.heap.size A V from hV).block _ (HL.out.2.1))) Try.underlying34 rfl (info34 HV.out.1)) hS0.out ?_
  simp only [Act.put, List.setIfInBounds_toArray, List.set_cons_zero, List.set_cons_succ]
  refine wpAnyH_take (i := 9) (oi := { dst := some 14, op := Op.lookup 65 (Operand.tmp 12) (Operand.tmp 13) false, type := 71, pos := "change.go:104", after := #[{ on := 7, ground := Ground.data }, { on := 8, ground := Ground.data }], guard := none }) (v := .pointer (some ⟨lb, 0, none⟩)) rfl (by kernel_rfl) (by kernel_rfl) (by kernel_rfl) (fun _ _ _ h => h.elim) (Or.inl ⟨by rfl, ?y9⟩) hS0.out ?_
  case y9 =>
    intro V hV
    exact yl_lookup V 65 _ _ false _ _ _ rfl rfl rfl (HK.out.1 V hV)
  simp only [Act.put, List.setIfInBounds_toArray, List.set_cons_zero, List.set_cons_succ]
  refine wpAnyH_take (i := 10) (oi := { dst := some 15, op := Op.nilCheck (Operand.tmp 14), type := 0, pos := "change.go:104", after := #[{ on := 9, ground := Ground.data }], guard := none }) (v := .pointer (some ⟨lb, 0, none⟩)) rfl (by kernel_rfl) (by kernel_rfl) (by kernel_rfl) (fun _ _ _ h => h.elim) (Or.inl ⟨by rfl, ?y10⟩) hS0.out ?_
  case y10 =>
    intro V hV
    go_simp
  simp only [Act.put, List.setIfInBounds_toArray, List.set_cons_zero, List.set_cons_succ]
  refine wpAnyH_take (i := 11) (oi := { dst := some 16, op := Op.fieldAddr 86 (Operand.tmp 15) 2, type := 0, pos := "change.go:104", after := #[{ on := 10, ground := Ground.data }], guard := none }) (v := .pointer (some ⟨lb, 2, none⟩)) rfl (by kernel_rfl) (by kernel_rfl) (by kernel_rfl) (fun _ _ _ h => h.elim) (Or.inl ⟨by rfl, ?y11⟩) hS0.out ?_
  case y11 =>
    intro V hV
    go_simp
  simp only [Act.put, List.setIfInBounds_toArray, List.set_cons_zero, List.set_cons_succ]
  refine wpAnyH_take (i := 12) (oi := { dst := some 17, op := Op.load 34 (Operand.tmp 16), type := 34, pos := "change.go:104", after := #[{ on := 11, ground := Ground.data }], guard := none }) (v := .agg z.cells.toArray) rfl (by kernel_rfl) (by kernel_rfl) (by kernel_rfl) (fun _ _ _ h => h.elim) (yieldsIf_load_mid (by rfl) _ _ rfl _ _ rfl (z.cells) _ (fun V hV => rangeAt_same (HR.out.2) ((show Below A.heap.size A V from hV).block _ (HL.out.2.2))) Try.underlying34 rfl (info34 HV.out.2)) hS0.out ?_
  simp only [Act.put, List.setIfInBounds_toArray, List.set_cons_zero, List.set_cons_succ]
  refine wpAnyH_take (i := 13) (oi := { dst := some 18, op := Op.lookup 65 (Operand.tmp 8) (Operand.tmp 17) false, type := 71, pos := "change.go:104", after := #[{ on := 3, ground := Ground.data }, { on := 12, ground := Ground.data }], guard := none }) (v := q) rfl (by kernel_rfl) (by kernel_rfl) (by kernel_rfl) (fun _ _ _ h => h.elim) (Or.inl ⟨by rfl, ?y12⟩) hS0.out ?_
  case y12 =>
    intro V hV
    exact yl_lookup V 65 _ _ false _ _ _ rfl rfl rfl (HK.out.2 V hV)
  simp only [Act.put, List.setIfInBounds_toArray, List.set_cons_zero, List.set_cons_succ]
  refine wpAnyH_take (i := 14) (oi := { dst := some 4, op := Op.assign (Operand.tmp 18), type := 71, pos := "change.go:104", after := #[{ on := 13, ground := Ground.data }, { on := 0, ground := Ground.phase }, { on := 1, ground := Ground.phase }, { on := 2, ground := Ground.phase }, { on := 3, ground := Ground.phase }, { on := 4, ground := Ground.phase }, { on := 5, ground := Ground.phase }, { on := 6, ground := Ground.phase }, { on := 7, ground := Ground.phase }, { on := 8, ground := Ground.phase }, { on := 9, ground := Ground.phase }, { on := 10, ground := Ground.phase }, { on := 11, ground := Ground.phase }, { on := 12, ground := Ground.phase }, { on := 13, ground := Ground.phase }], guard := none }) (v := q) rfl (by kernel_rfl) (by kernel_rfl) (by kernel_rfl) (fun _ _ _ h => h.elim) (Or.inl ⟨by rfl, ?y13⟩) hS0.out ?_
  case y13 =>
    intro V hV
    go_simp
  simp only [Act.put, List.setIfInBounds_toArray, List.set_cons_zero, List.set_cons_succ]
  refine wpAnyH_done (by kernel_rfl) ?_ _
  exact hQ V0 hS0.out
theorem same_is (w : World) (d : Nat) (x y : Vx) (hx : x.ok) (hy : y.ok) (hb : Blk w d 34 y.cells) (B : Bool) (hB : eqVx x y = B) : Calls Try.prog 75 #[.agg x.cells.toArray, .pointer (some ⟨d, 0, none⟩)] w fun e w' => e = .returned (.bool B) ∧ Below w.heap.size w w' := by
  obtain ⟨d2, hd2⟩ : ∃ d, w.heap.size = d := ⟨_, rfl⟩
  obtain ⟨W, hW⟩ : ∃ W, w.alloc (.cells x.cells.toArray 34) = W := ⟨_, rfl⟩
  have S0 : Hid (Below w.heap.size w W ∧ Blk W d2 34 x.cells ∧ Blk W d 34 y.cells) := by
    have hbl : Below w.heap.size w W := by rw [← hW]; exact below_al _ _
    exact ⟨hbl, by rw [← hW, ← hd2]; exact Blk.new w _ _, hb.below hbl hb.lt⟩
  have h1 := Vx.one x
  have h2 := Try.underlying34
  have h3 := info34 hx
  have h4 := Vx.len hx
  have HV : Hid (x.ok ∧ y.ok ∧ eqVx x y = B) := ⟨hx, hy, hB⟩
  clear hx hy hb hB
  go_enter Try.func75, Try.ntmps75
  go_wp2_with (first
    | (with_reducible change wpList _ _ _ ({ dst := some 4, op := _, type := _, pos := _, after := _, guard := _ } :: _) _ _
       refine wpList_load_want rfl 34 (.tmp 2) rfl d2 0 rfl x.cells _ S0.out.2.1.range0 Try.underlying34 rfl (info34 HV.out.1) ?_)
    | (with_reducible change wpList _ _ _ ({ dst := some 5, op := _, type := _, pos := _, after := _, guard := _ } :: _) _ _
       refine wpList_load_want rfl 34 (.tmp 1) rfl d 0 rfl y.cells _ S0.out.2.2.range0 Try.underlying34 rfl (info34 HV.out.2.1) ?_)
    | (with_reducible change wpList _ _ _ ({ dst := some 6, op := _, type := _, pos := _, after := _, guard := _ } :: _) _ _
       refine wpList_eqV rfl (.tmp 4) (.tmp 5) rfl x y HV.out.1 HV.out.2.1 B HV.out.2.2 rfl rfl ?_)
    | fail)
  go_ret
  exact ⟨rfl, S0.out.1⟩
def leaveP (ps : List PL) (d id : Vx) : List PL := ps.map fun q => if q.v = d then { q with fr := q.fr.filter fun x => !eqVx x id } else q
theorem leave_ls {A B : List Ln} {l l' : Ln} (id : Vx) (hnd : ((A ++ l :: B).map (·.p.v)).Nodup) (hl : l'.p = { l.p with fr := l.p.fr.filter fun x => !eqVx x id }) : (A ++ l' :: B).map (·.p) = leaveP ((A ++ l :: B).map (·.p)) l.p.v id := by
  unfold leaveP
  rw [List.map_append, List.map_cons, List.map_append, List.map_cons, List.map_append, List.map_cons, if_pos rfl, hl]
  rw [List.map_append, List.map_cons, List.nodup_append] at hnd
  have hA : ∀ x ∈ A, x.p.v ≠ l.p.v := fun x hx e => hnd.2.2 x.p.v (List.mem_map.2 ⟨x, hx, rfl⟩) l.p.v (List.mem_cons_self) e
  have hB : ∀ x ∈ B, x.p.v ≠ l.p.v := fun x hx e => (List.nodup_cons.1 hnd.2.1).1 (e ▸ List.mem_map.2 ⟨x, hx, rfl⟩)
  congr 1
  · rw [List.map_map]
    exact List.map_congr_left fun x hx => by simp [hA x hx]
  · congr 1
    rw [List.map_map]
    exact List.map_congr_left fun x hx => by simp [hB x hx]
set_option maxHeartbeats 4000000 in
theorem leave_is {w : World} {p : Nat} {G : Gm} (h : GAt w p G) (l0 : Ln) (hl0 : l0 ∈ G.ls) (X : List Value) (hX : l0.p.v.cells = X) : Calls Try.prog 57 #[.pointer (some ⟨p, 0, none⟩), .agg X.toArray] w fun e w' => (∃ v, e = .returned v) ∧ ∃ G', GAfter w p G G' w' ∧ G'.mb = G.mb ∧ G'.ps = leaveP G.ps l0.p.down l0.p.v := by
  subst hX
  obtain ⟨d3, hd3⟩ : ∃ d, w.heap.size = d := ⟨_, rfl⟩
  obtain ⟨W1, hW1⟩ : ∃ W, w.alloc (.cells l0.p.v.cells.toArray 34) = W := ⟨_, rfl⟩
  have hok := h.ok l0 hl0
  have hbl : Below w.heap.size w W1 := by rw [← hW1]; exact below_al _ _
  have S0 : Hid (Below w.heap.size w W1 ∧ Blk W1 d3 34 l0.p.v.cells ∧ GAt W1 p G ∧ w.heap.size ≤ d3) := ⟨hbl, by rw [← hW1, ← hd3]; exact Blk.new w _ _, h.below hbl, Nat.le_of_eq hd3⟩
  have HL0 : Hid (l0 ∈ G.ls ∧ Vk l0.p.v ∧ Vk l0.p.down) := ⟨hl0, hok.v, hok.down⟩
  have HG0 : Hid (GAt w p G) := h
  have h1 := Vx.one l0.p.v
  have h2 := Try.underlying34
  have h3 := info34 hok.v.1
  have h4 := Vx.len hok.v.1
  clear h hl0 hok hbl
  go_enter Try.func57, Try.ntmps57
  go_wp2_with fail
  clear h1 h3 h4 hW1 hd3
  have c0 : W1.cell? ⟨p, 0, none⟩ = some (.map (some G.mb)) := S0.out.2.2.1.blk.cell rfl
  have HK : Hid ((∀ V, Below W1.heap.size W1 V → (Instr.lookup 65 (.map (some G.mb)) (.agg l0.p.v.cells.toArray) false).run Try.prog V = .ok (.pointer (some ⟨l0.blk, 0, none⟩)) V) ∧ ∀ V, Below W1.heap.size W1 V → (Instr.lookup 65 (.map (some G.mb)) (.agg l0.p.down.cells.toArray) false).run Try.prog V = .ok (ptrOf (G.get l0.p.down)) V) := by
    refine ⟨fun V hV => ?_, fun V hV => S0.out.2.2.1.look2 HL0.out.2.2 V (hV.block _ S0.out.2.2.1.mp.lt)⟩
    have h9 := S0.out.2.2.1.look2 HL0.out.2.1 V (hV.block _ S0.out.2.2.1.mp.lt)
    rw [get_is S0.out.2.2.1 HL0.out.1] at h9
    exact h9
  refine lv57 (q := ptrOf (G.get l0.p.down)) ⟨S0.out.2.2.1.blk.lt, S0.out.2.1.lt, (S0.out.2.2.1.ln HL0.out.1).lt⟩ ⟨S0.out.2.1.range0, blk_down (S0.out.2.2.1.ln HL0.out.1)⟩ ⟨HL0.out.2.1.1, HL0.out.2.2.1⟩ c0 HK ?_
  intro V1 hb1
  have S1 : Hid (Below w.heap.size w V1 ∧ Blk V1 d3 34 l0.p.v.cells ∧ GAt V1 p G ∧ w.heap.size ≤ d3) := ⟨below_tr S0.out.1 hb1, S0.out.2.1.below hb1 S0.out.2.1.lt, S0.out.2.2.1.below hb1, S0.out.2.2.2⟩
  clear hb1 HK c0 S0
  cases hg : G.get l0.p.down with
  | none =>
    have hnq : l0.p.down ∉ G.keys := get_none hg
    have HE : Hid (leaveP G.ps l0.p.down l0.p.v = G.ps) := by
      show _ = _
      unfold leaveP
      rw [List.map_congr_left (g := id)]
      · simp
      · intro q hq
        rw [if_neg]
        · rfl
        · intro e
          refine hnq ?_
          rw [keys_ps]
          exact List.mem_map.2 ⟨q, hq, e⟩
    have hne := neq71 (none : Option Ln)
    rw [show ptrOf (none : Option Ln) = .pointer none from rfl] at hne ⊢
    clear hg hnq
    go_wp2
    go_end0
    exact ⟨⟨_, rfl⟩, G, .same HG0.out S1.out.1, rfl, HE.out.symm⟩
  | some l =>
    have hl := get_mem hg
    have hok := S1.out.2.2.1.ok l hl.1
    have HL : Hid (l ∈ G.ls ∧ l.p.v = l0.p.down ∧ LnOk l) := ⟨hl.1, hl.2, hok⟩
    obtain ⟨lb, hlb⟩ : ∃ b, l.blk = b := ⟨_, rfl⟩
    have HLB := hid_of hlb
    have c1 : V1.cell? ⟨lb, 1, none⟩ = some (.slice (some ⟨l.rb, 0, none⟩) l.p.fr.length l.cap) := by rw [← hlb]; exact (S1.out.2.2.1.ln hl.1).cell rfl
    rw [show ptrOf (some l) = .pointer (some ⟨lb, 0, none⟩) by rw [← hlb]; rfl]
    obtain ⟨rb, hrb⟩ : ∃ b, l.rb = b := ⟨_, rfl⟩
    have HRB := hid_of hrb
    have HND : Hid (lb ≠ rb ∧ d3 ≠ rb ∧ d3 ≠ lb) := by
      have hnd := S1.out.2.2.1.ln_nd hl.1
      rw [Ln.bl_eq, hlb, hrb] at hnd
      simp only [List.nodup_cons, List.mem_cons, not_or] at hnd
      have a1 := (HG0.out.ln hl.1).lt
      have a2 := (HG0.out.row hl.1).lt
      rw [hlb] at a1
      rw [hrb] at a2
      have := S1.out.2.2.2
      exact ⟨hnd.1.1, by omega, by omega⟩
    rw [hrb] at c1
    clear hlb hrb hg hl hok
    go_wp2_with fail
    have hpk : PredK V1 rb 75 #[] #[.pointer (some ⟨d3, 0, none⟩)] (fun x => eqVx x l0.p.v) l.p.fr := by
      refine ⟨fun args W => Go.Proofs.enters_of Try.func75 (by kernel_rfl) rfl args W, fun V x hk hx => ?_⟩
      have hb := hk.blk S1.out.2.1 HND.out.2.1
      have := same_is V d3 x l0.p.v (HL.out.2.2.fr x hx).1 HL0.out.2.1.1 hb _ rfl
      simpa using this
    have hrow : Blk V1 rb 34 (FV l.p.fr ++ l.rest) := by rw [← HRB.out]; exact S1.out.2.2.1.row HL.out.1
    refine (delf_is V1 rb l.p.fr.length l.cap l.p.fr l.rest hrow HL.out.2.2.fr rfl HL.out.2.2.cap (by have := HL.out.2.2.len; omega) 75 #[] #[.pointer (some ⟨d3, 0, none⟩)] (fun x => eqVx x l0.p.v) hpk).mono ?_
    rintro e V2 ⟨m, rest', rfl, HD⟩
    obtain ⟨fr', hfr'⟩ : ∃ f, (l.p.fr.filter fun x => !eqVx x l0.p.v) = f := ⟨_, rfl⟩
    have HFR := hid_of hfr'
    rw [hfr'] at HD
    have S2 : Hid (Keep (fun k => k = rb) V1 V2 ∧ Blk V2 rb 34 (FV fr' ++ rest') ∧ fr'.length = m ∧ (FV fr' ++ rest').length = l.cap * 33 ∧ Blk V2 lb 86 l.cells) := by
      refine ⟨HD.out.1, HD.out.2.1, HD.out.2.2.1, by rw [HD.out.2.2.2]; exact HL.out.2.2.row, ?_⟩
      rw [← HLB.out]
      exact HD.out.1.blk (S1.out.2.2.1.ln HL.out.1) (by rw [HLB.out]; exact HND.out.1)
    clear hpk hrow HD c1 hfr'
    go_wp2_with (first
      | (with_reducible change wpList _ _ _ ({ dst := none, op := Op.store 35 _ _, type := _, pos := _, after := _, guard := _ } :: _) _ _
         refine Hid.out ?_)
      | fail)
    show wpList _ _ _ _ _ _
    have hc1 : l.cells[1]? = some (.slice (some ⟨l.rb, 0, none⟩) l.p.fr.length l.cap) := rfl
    refine wpList_stc rfl 35 (.tmp 29) (.tmp 27) rfl (by kernel_rfl) (v := .slice (some ⟨rb, 0, none⟩) m l.cap) rfl rfl rfl rfl S2.out.2.2.2.2 (i := 1) hc1 ?_
    intro V3 b1 b2
    have HF : Hid (∃ G', GAfter w p G G' V3 ∧ G'.mb = G.mb ∧ G'.ps = leaveP G.ps l0.p.down l0.p.v) := by
      obtain ⟨C, D, hs⟩ := split_at HL.out.1
      have ho := HL.out.2.2
      have hm := S2.out.2.2.1
      have hkk : Keep (fun k => k ∈ l.bl) V1 V3 := by
        refine (S2.out.1.mono (T := fun k => k ∈ l.bl) (fun j _ e => by rw [e, Ln.bl_eq, HRB.out]; simp)).trans (Keep.grown (S := fun k => k ∈ l.bl) b2 (by rw [Ln.bl_eq, HLB.out]; simp)) (fun _ h _ => h)
      have hmem : ∀ x ∈ fr', x ∈ l.p.fr := fun x hx => by rw [← HFR.out] at hx; exact (List.mem_filter.1 hx).1
      have hle : fr'.length ≤ l.p.fr.length := by rw [← HFR.out]; exact List.length_filter_le _ _
      refine ⟨_, (S1.out.2.2.1.turn (l' := { l with p := { l.p with fr := fr' }, rest := rest' }) hs hkk rfl rfl (fun k hk => .inl hk) (show l.bl.Nodup from S1.out.2.2.1.ln_nd HL.out.1) ?_ ?_).first S1.out.1, rfl, ?_⟩
      · intro x hx
        unfold Ln.hp at hx
        rcases List.mem_cons.1 hx with rfl | hx
        · show Blk V3 l.blk 86 _
          have e : ({ l with p := { l.p with fr := fr' }, rest := rest' } : Ln).cells = l.cells.set 1 (.slice (some ⟨rb, 0, none⟩) m l.cap) := by
            rw [← hm, ← HRB.out]
            rfl
          rw [e, HLB.out]
          exact b1
        rcases List.mem_cons.1 hx with rfl | hx
        · show Blk V3 l.rb 34 _
          rw [HRB.out]
          exact (b2.block rb S2.out.2.1.lt (fun e => HND.out.1 (Option.some.inj e).symm)).trans S2.out.2.1
        · have hx' : x ∈ killHp l.kb l.p.kills := hx
          cases hkb : l.kb with
          | none => rw [hkb] at hx'; cases hx'
          | some k =>
            rw [hkb] at hx'
            simp only [killHp, List.mem_singleton] at hx'
            subst hx'
            have hnd := S1.out.2.2.1.ln_nd HL.out.1
            rw [Ln.bl_eq, hkb, HLB.out, HRB.out] at hnd
            simp only [Option.toList, List.nodup_cons, List.mem_cons, List.not_mem_nil, or_false, not_or] at hnd
            have hkl := S1.out.2.2.1.kl HL.out.1 hkb
            have h2 := hkl.same (S2.out.1.block k hkl.lt (fun e => hnd.2.1 e.symm))
            exact h2.same (b2.block k h2.lt (fun e => hnd.1.2 (Option.some.inj e).symm))
      · exact ⟨ho.v, fun u hu => ho.fr u (hmem u hu), ho.down, trivial, S2.out.2.2.2.1, Nat.le_trans hle ho.cap, ho.big, Nat.le_trans hle ho.len, ho.no⟩
      · have hnd := S1.out.2.2.1.nodup
        unfold Gm.keys at hnd
        rw [hs] at hnd
        have := leave_ls (A := C) (B := D) (l := l) (l' := { l with p := { l.p with fr := fr' }, rest := rest' }) l0.p.v hnd (by rw [HFR.out])
        unfold Gm.ps
        rw [hs, ← HL.out.2.1]
        exact this
    clear b1 b2 hc1 S2
    go_wp2
    go_end0
    exact ⟨⟨_, rfl⟩, HF.out⟩
end Go.Proofs.Ytjcihaohpbmogaa.Oct
