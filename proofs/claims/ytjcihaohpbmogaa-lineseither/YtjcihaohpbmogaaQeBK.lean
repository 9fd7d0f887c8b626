/-
  Layer 11 (lines): slices.DeleteFunc.
-/
import Derived.Test.YtjcihaohpbmogaaQeAQ
/- Layer 11 (lines): slices.DeleteFunc. -/
namespace Go.Proofs.Ytjcihaohpbmogaa.Oct
open Go.RowKit
set_option maxRecDepth 100000
set_option linter.unusedSimpArgs false
set_option linter.unusedVariables false
set_option linter.unusedSectionVars false

theorem FV_take (W : List Vx) (h : ∀ v ∈ W, Vk v) (i : Nat) (hi : i ≤ W.length) : FV W = FV (W.take i) ++ FV (W.drop i) ∧ (FV (W.take i)).length = i * 33 := by
  refine ⟨by rw [← FV_append, List.take_append_drop], ?_⟩
  rw [FV_len _ (fun v hv => h v (List.mem_of_mem_take hv)), List.length_take, Nat.min_eq_left hi]
theorem FV_set (W : List Vx) (h : ∀ v ∈ W, Vk v) (rest : List Value) (i : Nat) (hi : i < W.length) (v : Vx) (hv : Vk v) : (FV W ++ rest).take (i * 33) ++ v.cells ++ (FV W ++ rest).drop (i * 33 + v.cells.length) = FV (W.set i v) ++ rest := by
  have h1 := FV_take W h i (by omega)
  have h2 := FV_take W h (i + 1) (by omega)
  have e1 : (FV W ++ rest).take (i * 33) = FV (W.take i) := by
    rw [h1.1, List.append_assoc, List.take_left' h1.2]
  have e2 : (FV W ++ rest).drop (i * 33 + v.cells.length) = FV (W.drop (i + 1)) ++ rest := by
    rw [Vx.len hv.1, show i * 33 + 33 = (i + 1) * 33 by omega, h2.1, List.append_assoc, List.drop_left' h2.2]
  rw [e1, e2, List.set_eq_take_append_cons_drop, if_pos hi, FV_append, show FV (v :: W.drop (i + 1)) = v.cells ++ FV (W.drop (i + 1)) from rfl]
  simp only [List.append_assoc]
theorem FV_at2 {W : List Vx} {rest : List Value} (h : ∀ v ∈ W, Vk v) {w : World} {g : Nat} (hb : Blk w g 34 (FV W ++ rest)) {i : Nat} {v : Vx} (hv : W[i]? = some v) : w.rangeAt g (i * 33) v.cells := by
  intro j x hj
  refine hb.cell ?_
  have h1 := FV_at W h i v hv j x hj
  rw [List.getElem?_append_left (List.getElem?_eq_some_iff.1 h1).1]
  exact h1
theorem zeros34 (n : Nat) : (Builtin.zeroCells vTop.cells.toArray n).toList = FV (List.replicate n vTop) := by
  have hk : ∀ v ∈ List.replicate n vTop, Vk v := fun v hv => by rw [List.eq_of_mem_replicate hv]; exact vTop_k
  have hl := FV_len _ hk
  rw [List.length_replicate] at hl
  have h33 : vTop.cells.length = 33 := Vx.len vTop_ok
  apply List.ext_getElem?
  intro j
  by_cases hj : j < n * 33
  · have hq : j / 33 < n := by omega
    have hr : j % 33 < 33 := Nat.mod_lt _ (by omega)
    have h1 := FV_at _ hk (j / 33) vTop (by rw [List.getElem?_replicate, if_pos hq]) (j % 33) (vTop.cells[j % 33]'(by omega)) (List.getElem?_eq_getElem (by omega))
    rw [show j / 33 * 33 + j % 33 = j by omega] at h1
    rw [h1]
    simp [Builtin.zeroCells, h33, hj, hr]
  · rw [List.getElem?_eq_none (by simp [Builtin.zeroCells, h33]; omega), List.getElem?_eq_none (by rw [hl]; omega)]
theorem zero34t (W : World) : (zeroValue 34).run Try.prog W = .ok (.agg vTop.cells.toArray) W := by kernel_rfl
theorem run_clear34 (w : World) (ty : TypeId) (g o m c : Nat) (L : List Value) (hb : Blk w g 34 L) (hm : 0 < m) (hl : o + m * 33 ≤ L.length) : (Builtin.clear_ #[35] ty #[.slice (some ⟨g, o, none⟩) m c]).run Try.prog w = .ok (.tuple #[]) (w.setCells g o (FV (List.replicate m vTop))) := by
  have hk : ∀ v ∈ List.replicate m vTop, Vk v := fun v hv => by rw [List.eq_of_mem_replicate hv]; exact vTop_k
  have hfl := FV_len _ hk
  rw [List.length_replicate] at hfl
  have hst := run_storeCells_cells (P := Try.prog) g o (FV (List.replicate m vTop)) 0 w (fun j hj => by rw [show o + 0 + j = o + j by omega, hb.cell (List.getElem?_eq_getElem (l := L) (i := o + j) (by omega))]; rfl) (fun j hj => hb.free _) (FV_one _)
  simp only [Nat.add_zero] at hst
  obtain ⟨m', rfl⟩ : ∃ k, m = k + 1 := ⟨m - 1, by omega⟩
  have hz := zero34t
  have hzz := zeros34 (m' + 1)
  generalize FV (List.replicate (m' + 1) vTop) = F at hst hzz ⊢
  generalize vTop.cells = Z at hz hzz
  simp [Builtin.clear_, run_underlying Try.underlying35, hz, Value.cells, hzz, hst]
theorem fst_cases (p : Vx → Bool) (vs : List Vx) : (fstAt p vs = -1 ∧ ∀ x ∈ vs, p x = false) ∨ ∃ (i : Nat) (x : Vx), fstAt p vs = (i : Int) ∧ vs[i]? = some x ∧ p x = true ∧ ∀ j y, j < i → vs[j]? = some y → p y = false := by
  by_cases h : ∃ x ∈ vs, p x = true
  · right
    obtain ⟨i, hi⟩ : ∃ i, vs.findIdx? p = some i := by
      cases h1 : vs.findIdx? p with
      | none =>
        rw [List.findIdx?_eq_none_iff] at h1
        obtain ⟨x, hx, hp⟩ := h
        rw [h1 x hx] at hp
        cases hp
      | some i => exact ⟨i, rfl⟩
    have h2 := hi
    rw [List.findIdx?_eq_some_iff_getElem] at h2
    obtain ⟨hlt, hp, hn⟩ := h2
    refine ⟨i, vs[i], by unfold fstAt; rw [hi], List.getElem?_eq_getElem hlt, hp, fun j y hj hy => ?_⟩
    have h3 := hn j hj
    obtain ⟨hj', rfl⟩ := List.getElem?_eq_some_iff.1 hy
    simpa using h3
  · left
    have h' : ∀ x ∈ vs, p x = false := fun x hx => by
      cases hp : p x with
      | false => rfl
      | true => exact absurd ⟨x, hx, hp⟩ h
    exact ⟨fstAt_no h', h'⟩
theorem wpList_clear {ops : Array Oper} {rest : List Oper} {o : Oper} {a : Act} {w : World} {Q : Exit → Act → World → Prop} (hg : o.guard = none) (x : Operand) (hop : o.op = .call { callee := .builtin .clear, args := #[x], argTypes := #[35] }) (v : Value) (hx : a.eval x = v) (r : Value) (W' : World) (hr : (Builtin.clear_ #[35] o.type #[v]).run Try.prog w = .ok r W')
    (hK : wpList Try.prog ops Q rest (a.put o.dst r) W') : wpList Try.prog ops Q (o :: rest) a w := by
  refine wpList_plain hg fun K' hK' => ?_
  unfold Oper.wp execOp
  simp only [hop, resolve, invoke, builtin, Sem.run_bind, Sem.run_pure, Result.andThen_ok, List.map_toArray, List.map_cons, List.map_nil, hx, hr]
  exact hK' _ _ hK
/-- a predicate that may be called while a row is written -/
def PredK (w : World) (gr : Nat) (g : FuncId) (R C : Array Value) (p : Vx → Bool) (vs : List Vx) : Prop :=
  (∀ args W, (callFunc g args).run Try.prog W = .ok (.enter g args) W) ∧ ∀ V x, Keep (fun k => k = gr) w V → x ∈ vs → Calls Try.prog g (R ++ #[.agg x.cells.toArray] ++ C) V fun e V' => e = .returned (.bool (p x)) ∧ Below V.heap.size V V'
theorem PredK.below {w : World} {gr : Nat} {g : FuncId} {R C : Array Value} {p : Vx → Bool} {vs : List Vx} (h : PredK w gr g R C p vs) : PredV w g R C p vs := ⟨h.1, fun V x hb hx => h.2 V x (Keep.below hb) hx⟩
set_option maxHeartbeats 4000000 in
theorem delf_is (w : World) (gr n c : Nat) (vs : List Vx) (rest : List Value) (hb : Blk w gr 34 (FV vs ++ rest)) (hv : ∀ v ∈ vs, Vk v) (hn : vs.length = n) (hc : n ≤ c) (hcm : n ≤ 100000000) (g : FuncId) (R C : Array Value) (p : Vx → Bool) (hp : PredK w gr g R C p vs) :
    Calls Try.prog 74 #[.slice (some ⟨gr, 0, none⟩) n c, .func (.func g) R C] w fun e w' => ∃ m rest', e = .returned (.slice (some ⟨gr, 0, none⟩) m c) ∧ Hid (Keep (fun k => k = gr) w w' ∧ Blk w' gr 34 (FV (vs.filter fun x => !p x) ++ rest') ∧ (vs.filter fun x => !p x).length = m ∧ (FV (vs.filter fun x => !p x) ++ rest').length = (FV vs ++ rest).length) := by
  have HS : Hid (Blk w gr 34 (FV vs ++ rest) ∧ (∀ v ∈ vs, Vk v) ∧ vs.length = n ∧ n ≤ c ∧ n ≤ 100000000 ∧ PredK w gr g R C p vs) := ⟨hb, hv, hn, hc, hcm, hp⟩
  have HVS : Hid (VsR w (some ⟨gr, 0, none⟩) n vs) := by rw [← hn]; exact hb.vs hv
  have q0 : (n : Int) ≤ 100000000 := by omega
  have q00 : (n : Int) ≤ (c : Int) := by omega
  have hent := hp.1
  obtain ⟨Z, hZ, HZ⟩ := zval34
  clear hb hv hn hp
  go_enter Try.func74, Try.ntmps74
  go_wp2_with fail
  refine (indexF_is w (some ⟨gr, 0, none⟩) n c vs HVS.out g R C p HS.out.2.2.2.2.2.below (by omega) _ rfl).mono ?_
  rintro e W1 ⟨rfl, hb1⟩
  rcases fst_cases p vs with ⟨hf, hno⟩ | ⟨i, x, hf, hx, hpx, hno⟩
  · have hfl : vs.filter (fun x => !p x) = vs := List.filter_eq_self.2 fun x hx => by simp [hno x hx]
    have HE : Hid (Keep (fun k => k = gr) w W1 ∧ Blk W1 gr 34 (FV vs ++ rest) ∧ vs.length = n) := ⟨Keep.below hb1, HS.out.1.below hb1 HS.out.1.lt, HS.out.2.2.1⟩
    rw [hf]
    clear hf hno hb1 hent
    go_wp2
    go_ret
    rw [hfl]
    exact ⟨n, rest, rfl, HE.out.1, HE.out.2.1, HE.out.2.2, rfl⟩
  · rw [hf]
    have hin : i < n := by rw [← HS.out.2.2.1]; exact (List.getElem?_eq_some_iff.1 hx).1
    have HI0 : Hid (Keep (fun k => k = gr) w W1 ∧ Blk W1 gr 34 (FV vs ++ rest) ∧ vs.take i = (vs.take (i + 1)).filter (fun x => !p x) ∧ i < n) := by
      refine ⟨Keep.below hb1, HS.out.1.below hb1 HS.out.1.lt, ?_, hin⟩
      rw [List.take_add_one, hx, List.filter_append]
      have h1 : (vs.take i).filter (fun x => !p x) = vs.take i := List.filter_eq_self.2 fun y hy => by
        obtain ⟨j, hj⟩ := List.getElem?_of_mem hy
        have hji : j < i := by
          have := (List.getElem?_eq_some_iff.1 hj).1
          rw [List.length_take] at this
          omega
        rw [List.getElem?_take_of_lt hji] at hj
        simp [hno j y hji hj]
      rw [h1]
      simp [hpx]
    have q1 : ¬ (i : Int) = -1 := by omega
    have q2 : (i : Int) ≤ 100000000 := by omega
    clear hf hx hpx hno hb1 hin
    have hbq : ((i : Int) == -1) = false := by simp
    go_wp2
    clear hbq
    go_loopw [5, 6] (fun u v wr => ∃ (i j : Nat) (Wl : List Vx), u = iv (i : Int) ∧ v = iv (j : Int) ∧ Hid (i < j ∧ j ≤ n ∧ Wl.length = n ∧ Wl.take i = (vs.take j).filter (fun x => !p x) ∧ Wl.drop j = vs.drop j ∧ ∀ x ∈ Wl, Vk x) ∧ Hid (Keep (fun k => k = gr) w wr ∧ Blk wr gr 34 (FV Wl ++ rest))) (fun _ v _ => n - (intOf v).toNat)
    case atStart => exact ⟨i, i + 1, vs, rfl, by simp, ⟨Nat.lt_succ_self i, HI0.out.2.2.2, HS.out.2.2.1, HI0.out.2.2.1, rfl, HS.out.2.1⟩, HI0.out.1, HI0.out.2.1⟩
    case round =>
      obtain ⟨V, hV⟩ : ∃ V, V = wr := ⟨_, rfl⟩
      subst hV
      obtain ⟨i2, j, Wl, rfl, rfl, HP, HB⟩ := hrel
      clear HI0 q1 q2
      by_cases hj : j < n
      · obtain ⟨y, hy⟩ : ∃ y, vs[j]? = some y := ⟨_, List.getElem?_eq_getElem (by rw [HS.out.2.2.1]; exact hj)⟩
        have hwy : Wl[j]? = some y := by
          have h1 := congrArg (·[0]?) HP.out.2.2.2.2.1
          simp only [List.getElem?_drop, Nat.add_zero] at h1
          rw [h1, hy]
        have HY : Hid (j < n ∧ vs[j]? = some y ∧ Wl[j]? = some y ∧ Vk y ∧ y ∈ vs) := ⟨hj, hy, hwy, HS.out.2.1 y (List.mem_of_getElem? hy), List.mem_of_getElem? hy⟩
        have HR : Hid (V.rangeAt gr (j * 33) y.cells) := FV_at2 HP.out.2.2.2.2.2 HB.out.2 hwy
        have q3 : (j : Int) < (n : Int) := by omega
        have q4 : (j : Int) ≤ 100000000 := by omega
        clear hy hwy hj
        go_wp2_with (first
          | (with_reducible change wpList _ _ _ ({ dst := some 25, op := _, type := _, pos := _, after := _, guard := _ } :: _) _ _
             refine wpList_load_want rfl 34 (.tmp 24) rfl gr (j * 33) rfl y.cells _ HR.out Try.underlying34 rfl (info34 HY.out.2.2.2.1.1) ?_)
          | (with_reducible change wpList _ _ _ ({ dst := none, op := Op.store 34 _ _, type := _, pos := _, after := _, guard := _ } :: _) _ _
             refine Hid.out ?_)
          | fail)
        show wpList _ _ _ _ _ _
        refine wpList_store_fresh rfl 34 (.tmp 7) (.tmp 25) rfl Z y.cells 34 rfl rfl (by rw [Vx.len HY.out.2.2.2.1.1, HZ.out]) (info34 HY.out.2.2.2.1.1) (Vx.one y) ?_
        obtain ⟨U1, hU1⟩ : ∃ W, V.alloc (.cells y.cells.toArray 34) = W := ⟨_, rfl⟩
        obtain ⟨d7, hd7⟩ : ∃ g, V.heap.size = g := ⟨_, rfl⟩
        have S1 : Hid (Keep (fun k => k = gr) w U1 ∧ Blk U1 gr 34 (FV Wl ++ rest) ∧ Blk U1 d7 34 y.cells ∧ d7 ≠ gr) := by
          have hbl : Below V.heap.size V U1 := by rw [← hU1]; exact below_al _ _
          refine ⟨HB.out.1.trans (Keep.below (S := fun k => k = gr) hbl) (fun _ h _ => h), HB.out.2.below hbl HB.out.2.lt, by rw [← hU1, ← hd7]; exact Blk.new V _ _, ?_⟩
          have := HB.out.2.lt
          omega
        rw [hU1, hd7]
        clear hU1 hd7 HR HB
        obtain ⟨B, hB⟩ : ∃ B, p y = B := ⟨_, rfl⟩
        have HBB := hid_of hB
        clear hB
        go_wp2_with (first
          | (with_reducible change wpList _ _ _ ({ dst := some 27, op := _, type := _, pos := _, after := _, guard := _ } :: _) _ _
             refine wpList_load_want rfl 34 (.tmp 7) rfl d7 0 rfl y.cells _ S1.out.2.2.1.range0 Try.underlying34 rfl (info34 HY.out.2.2.2.1.1) ?_)
          | fail)
        refine (HS.out.2.2.2.2.2.2 U1 y S1.out.1 HY.out.2.2.2.2).mono ?_
        rintro e U2 ⟨he, hb⟩
        rw [HBB.out] at he
        subst he
        have S2 : Hid (Keep (fun k => k = gr) w U2 ∧ Blk U2 gr 34 (FV Wl ++ rest) ∧ Blk U2 d7 34 y.cells) := ⟨S1.out.1.trans (Keep.below (S := fun k => k = gr) hb) (fun _ h _ => h), S1.out.2.1.below hb S1.out.2.1.lt, S1.out.2.2.1.below hb S1.out.2.2.1.lt⟩
        clear hb S1
        have HT : Hid ((vs.take (j + 1)).filter (fun x => !p x) = (vs.take j).filter (fun x => !p x) ++ (if B then [] else [y])) := by
          show _ = _
          rw [List.take_add_one, HY.out.2.1, List.filter_append]
          congr 1
          cases B <;> simp [HBB.out]
        cases B with
        | true =>
          have HN : Hid (i2 < j + 1 ∧ j + 1 ≤ n ∧ Wl.length = n ∧ Wl.take i2 = (vs.take (j + 1)).filter (fun x => !p x) ∧ Wl.drop (j + 1) = vs.drop (j + 1) ∧ ∀ x ∈ Wl, Vk x) := by
            refine ⟨by have := HP.out.1; omega, HY.out.1, HP.out.2.2.1, by rw [HT.out, HP.out.2.2.2.1]; simp, ?_, HP.out.2.2.2.2.2⟩
            have := congrArg (List.drop 1) HP.out.2.2.2.2.1
            simpa [List.drop_drop] using this
          go_wp2
          refine ⟨⟨i2, j + 1, Wl, rfl, by simp, HN.out, S2.out.1, S2.out.2.1⟩, ?_⟩
          have := HY.out.1; simp [intOf]; omega
        | false =>
          have hi2 : i2 < n := by have := HP.out.1; have := HY.out.1; omega
          have q5 : (i2 : Int) < (n : Int) := by omega
          have q6 : (i2 : Int) ≤ 100000000 := by omega
          clear hi2
          go_wp2_with (first
            | (with_reducible change wpList _ _ _ ({ dst := some 32, op := _, type := _, pos := _, after := _, guard := _ } :: _) _ _
               refine wpList_load_want rfl 34 (.tmp 7) rfl d7 0 rfl y.cells _ S2.out.2.2.range0 Try.underlying34 rfl (info34 HY.out.2.2.2.1.1) ?_)
            | (with_reducible change wpList _ _ _ ({ dst := none, op := Op.store 34 _ _, type := _, pos := _, after := _, guard := _ } :: _) _ _
               refine Hid.out ?_)
            | fail)
          show wpList _ _ _ _ _ _
          have hlt : i2 < Wl.length := by have := HP.out.1; have := HY.out.1; have := HP.out.2.2.1; omega
          refine wpList_store_blk rfl 34 (.tmp 33) (.tmp 32) rfl gr (i2 * 33) 34 (FV Wl ++ rest) y.cells rfl rfl S2.out.2.1 (by
            rw [List.length_append, FV_len _ HP.out.2.2.2.2.2, Vx.len HY.out.2.2.2.1.1]
            omega) (info34 HY.out.2.2.2.1.1) (Vx.one y) ?_
          intro U3 r1 r2
          have S3 : Hid (Keep (fun k => k = gr) w U3 ∧ Blk U3 gr 34 (FV (Wl.set i2 y) ++ rest)) := by
            refine ⟨S2.out.1.trans (Keep.grown (S := fun k => k = gr) r2.out rfl) (fun _ h _ => h), ?_⟩
            have h1 := r1.out
            rw [FV_set Wl HP.out.2.2.2.2.2 rest i2 hlt y HY.out.2.2.2.1] at h1
            exact h1
          have HN : Hid (i2 + 1 < j + 1 ∧ j + 1 ≤ n ∧ (Wl.set i2 y).length = n ∧ (Wl.set i2 y).take (i2 + 1) = (vs.take (j + 1)).filter (fun x => !p x) ∧ (Wl.set i2 y).drop (j + 1) = vs.drop (j + 1) ∧ ∀ x ∈ Wl.set i2 y, Vk x) := by
            refine ⟨by have := HP.out.1; omega, HY.out.1, by rw [List.length_set]; exact HP.out.2.2.1, ?_, ?_, fun x hx => ?_⟩
            · rw [HT.out, ← HP.out.2.2.2.1, List.take_add_one, List.take_set_of_le (Nat.le_refl _), List.getElem?_set_self hlt]
              rfl
            · rw [List.drop_set_of_lt (by have := HP.out.1; omega)]
              have := congrArg (List.drop 1) HP.out.2.2.2.2.1
              simpa [List.drop_drop] using this
            · rcases List.mem_or_eq_of_mem_set hx with h | rfl
              · exact HP.out.2.2.2.2.2 x h
              · exact HY.out.2.2.2.1
          clear r1 r2 hlt S2
          go_wp2
          refine ⟨⟨i2 + 1, j + 1, Wl.set i2 y, by simp, by simp, HN.out, S3.out.1, S3.out.2⟩, ?_⟩
          have := HY.out.1; simp [intOf]; omega
      · have q3 : ¬ (j : Int) < (n : Int) := by omega
        obtain rfl : j = n := by have := HP.out.2.1; omega
        have q5 : (i2 : Int) ≤ (j : Int) := by have := HP.out.1; omega
        have q6 : (i2 : Int) ≤ (c : Int) := by omega
        have q7 : ¬ c = i2 := by have := HP.out.1; omega
        go_wp2_with (first
          | (with_reducible change wpList _ _ _ ({ dst := none, op := Op.call _, type := _, pos := _, after := _, guard := _ } :: _) _ _
             refine Hid.out ?_)
          | fail)
        show wpList _ _ _ _ _ _
        have hl := HP.out.2.2.1
        have hij := HP.out.1
        have hfil : Wl.take i2 = vs.filter (fun x => !p x) := by
          have h1 := HP.out.2.2.2.1
          have h2 : vs.take j = vs := List.take_of_length_le (by rw [HS.out.2.2.1]; exact Nat.le_refl _)
          rw [h2] at h1
          exact h1
        have hLL : (FV Wl ++ rest).length = j * 33 + rest.length := by rw [List.length_append, FV_len _ HP.out.2.2.2.2.2, hl]
        have hcl := run_clear34 V 0 gr (i2 * 33) (j - i2) (c - i2) (FV Wl ++ rest) HB.out.2 (by omega) (by rw [hLL]; omega)
        have hkz : ∀ v ∈ List.replicate (j - i2) vTop, Vk v := fun v hv => by rw [List.eq_of_mem_replicate hv]; exact vTop_k
        have hfz := FV_len _ hkz
        rw [List.length_replicate] at hfz
        have hset := Blk.setCells (FV (List.replicate (j - i2) vTop)) (i2 * 33) V (FV Wl ++ rest) HB.out.2 (by rw [hLL, hfz]; omega)
        have ht := FV_take Wl HP.out.2.2.2.2.2 i2 (by omega)
        have htk : (FV Wl ++ rest).take (i2 * 33) = FV (vs.filter fun x => !p x) := by
          rw [ht.1, List.append_assoc, List.take_left' ht.2, hfil]
        rw [htk, List.append_assoc] at hset
        obtain ⟨W9, hW9⟩ : ∃ W, V.setCells gr (i2 * 33) (FV (List.replicate (j - i2) vTop)) = W := ⟨_, rfl⟩
        rw [hW9] at hset hcl
        have HE : Hid (Keep (fun k => k = gr) w W9 ∧ ∃ rest', Blk W9 gr 34 (FV (vs.filter fun x => !p x) ++ rest') ∧ (vs.filter fun x => !p x).length = i2 ∧ (FV (vs.filter fun x => !p x) ++ rest').length = (FV vs ++ rest).length) := by
          refine ⟨HB.out.1.trans (Keep.grown (S := fun k => k = gr) hset.2 rfl) (fun _ h _ => h), _, hset.1, ?_, ?_⟩
          · rw [← hfil, List.length_take]
            omega
          · have e1 := FV_len _ HS.out.2.1
            have e2 : (FV (vs.filter fun x => !p x)).length = i2 * 33 := by rw [← hfil]; exact ht.2
            simp only [List.length_append, List.length_drop, e1, e2, hfz, HS.out.2.2.1, FV_len _ HP.out.2.2.2.2.2, hl]
            omega
        clear hset hkz hfz ht htk hLL hfil hW9
        refine wpList_clear rfl (.tmp 38) rfl _ rfl (.tuple #[]) W9 hcl ?_
        clear hcl
        go_wp2
        go_ret
        obtain ⟨hk, rest', h1, h2, h3⟩ := HE.out
        exact ⟨i2, rest', rfl, hk, h1, h2, h3⟩
end Go.Proofs.Ytjcihaohpbmogaa.Oct
