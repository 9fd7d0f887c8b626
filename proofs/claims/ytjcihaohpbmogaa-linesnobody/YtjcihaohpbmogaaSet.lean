/-
  Layer 11 (lines): the set of ids (setOf), areLines, find.
-/
import Derived.Test.YtjcihaohpbmogaaIxf
namespace Go.Proofs.Ytjcihaohpbmogaa.Oct
open Go.RowKit
set_option maxRecDepth 100000
set_option linter.unusedSimpArgs false
set_option linter.unusedVariables false
set_option linter.unusedSectionVars false

theorem wpList_makeMapN {ops : Array Oper} {rest : List Oper} {o : Oper} {a : Act} {w : World} {Q : Exit → Act → World → Prop} (hg : o.guard = none) (t : TypeId) (x : Operand) (hop : o.op = Op.makeMap t (some x)) {k e : TypeId} (ht : Try.prog.underlying t = some (.map k e)) (n : Nat) (hx : a.eval x = iv (n : Int))
    (hK : wpList Try.prog ops Q rest (a.put o.dst (.map (some w.heap.size))) (w.alloc (.map #[] 0))) : wpList Try.prog ops Q (o :: rest) a w := by
  refine wpList_plain hg fun K' hK' => ?_
  unfold Oper.wp execOp
  simp [hop, hx, Instr.makeMap, run_underlying ht, asInt, asIntOf, Result.andThen]
  exact hK' _ _ hK
/-- ids as a set -/
def idSet (ids : List Vx) : List Vx := Gr.join [] ids
theorem idSet_take (ids : List Vx) (i : Nat) (y : Vx) (h : ids[i]? = some y) : idSet (ids.take (i + 1)) = if y ∈ idSet (ids.take i) then idSet (ids.take i) else idSet (ids.take i) ++ [y] := by
  have app : ∀ (l out : List Vx), Gr.join out (l ++ [y]) = if y ∈ Gr.join out l then Gr.join out l else Gr.join out l ++ [y] := fun l => by
    induction l with
    | nil =>
      intro out
      rw [List.nil_append]
      unfold Gr.join
      unfold Gr.join
      split <;> rfl
    | cons c l ih => intro out; rw [List.cons_append]; unfold Gr.join; rw [ih]
  unfold idSet
  rw [List.take_add_one, h]
  exact app _ _
theorem idSet_mem (ids : List Vx) (x : Vx) : x ∈ idSet ids ↔ x ∈ ids := ⟨fun h => (Gr.join_mem ids [] x h).resolve_left (by simp), Gr.join_new ids [] x⟩
theorem idSet_nodup (ids : List Vx) : (idSet ids).Nodup := Gr.join_nodup ids [] (by simp)
theorem idSet_len (ids : List Vx) : (idSet ids).length ≤ ids.length := Gr.nodup_len _ _ (idSet_nodup ids) (fun x hx => (idSet_mem ids x).1 hx)
theorem join_len : ∀ (l out : List Vx), (Gr.join out l).length = out.length + l.length → l.Nodup ∧ ∀ x ∈ l, x ∉ out
  | [], out, _ => by simp
  | c :: l, out, h => by
    unfold Gr.join at h
    have hle : ∀ (l out : List Vx), (Gr.join out l).length ≤ out.length + l.length := fun l => by
      induction l with
      | nil => intro out; simp [Gr.join]
      | cons c l ih => intro out; unfold Gr.join; refine Nat.le_trans (ih _) ?_; split <;> simp <;> omega
    by_cases hc : c ∈ out
    · rw [if_pos hc] at h
      have := hle l out
      rw [List.length_cons] at h
      omega
    · rw [if_neg hc] at h
      obtain ⟨h1, h2⟩ := join_len l _ (by rw [h]; simp; omega)
      refine ⟨List.nodup_cons.2 ⟨fun hm => h2 c hm (by simp), h1⟩, fun x hx => ?_⟩
      rcases List.mem_cons.1 hx with rfl | hx
      · exact hc
      · exact fun ho => h2 x hx (by simp [ho])
theorem idSet_full (ids : List Vx) : (idSet ids).length = ids.length ↔ ids.Nodup := by
  constructor
  · exact fun h => (join_len ids [] (by simpa [idSet] using h)).1
  · intro h
    have h1 := Gr.nodup_len _ _ h (fun x hx => (idSet_mem ids x).2 hx)
    have h2 := idSet_len ids
    omega
/-- may ids be lines? -/
def mayBe (ids : List Vx) : Bool := decide (0 < ids.length) && decide ((idSet ids).length = ids.length) && !ids.any isE
set_option maxHeartbeats 2000000 in
theorem setOf_is (w : World) (a : Option Addr) (n c : Nat) (ids : List Vx) (hr : VsR w a n ids) (hn : n ≤ 140737488355328) (B : Bool) (hB : mayBe ids = B) :
    Calls Try.prog 54 #[.slice a n c] w fun e w' => ∃ m, e = .returned (.tuple #[.map (some m), .bool B]) ∧ w.heap.size ≤ m ∧ MP w' m (unitK (idSet ids)) ∧ Below w.heap.size w w' := by
  have HS : Hid (VsR w a n ids ∧ mayBe ids = B ∧ n ≤ 140737488355328) := ⟨hr, hB, hn⟩
  have q0 : (n : Int) ≤ 140737488355328 := by omega
  have hz90 := zero90
  clear hr hn hB
  go_enter Try.func54, Try.ntmps54
  go_wp2_with (with_reducible change wpList _ _ _ ({ dst := some 9, op := _, type := _, pos := _, after := _, guard := _ } :: _) _ _; refine Hid.out ?_)
  show wpList _ _ _ _ _ _
  refine wpList_makeMapN rfl 99 (.tmp 8) rfl Try.underlying99 n rfl ?_
  obtain ⟨W, hW⟩ : ∃ W, w.alloc (.map #[] 0) = W := ⟨_, rfl⟩
  obtain ⟨m, hm⟩ : ∃ m, w.heap.size = m := ⟨_, rfl⟩
  have H1 : Hid (Below w.heap.size w W ∧ MP W m (unitK ([] : List Vx)) ∧ w.heap.size = m) := ⟨by rw [← hW]; exact below_al _ _, by rw [← hW, ← hm]; exact MP.made w, hm⟩
  rw [hW, hm]
  clear hW hm
  go_wp2
  go_loopw [12] (fun u wr => ∃ i : Nat, u = iv (i : Int) ∧ Hid (i ≤ n ∧ Below w.heap.size w wr ∧ MP wr m (unitK (idSet (ids.take i))))) (fun u _ => n - (intOf u).toNat)
  case atStart => exact ⟨0, rfl, Nat.zero_le _, H1.out.1, H1.out.2.1⟩
  case round =>
    obtain ⟨V, hV⟩ : ∃ V, V = wr := ⟨_, rfl⟩
    subst hV
    obtain ⟨i, rfl, HI⟩ := hrel
    by_cases hi : i < n
    · obtain ⟨y, hy⟩ : ∃ y, ids[i]? = some y := ⟨_, List.getElem?_eq_getElem (by rw [HS.out.1.1]; exact hi)⟩
      have HY : Hid (i < n ∧ ids[i]? = some y ∧ y.ok ∧ Vk y) := ⟨hi, hy, (HS.out.1.2.1 y (List.mem_of_getElem? hy)).1, HS.out.1.2.1 y (List.mem_of_getElem? hy)⟩
      obtain ⟨gb, off, rfl, hg, hel⟩ := HS.out.1.2.2 (by omega)
      have HR : Hid (V.rangeAt gb (off + i * 33) y.cells) := rangeAt_same (hel i y hy) (HI.out.2.1.block gb hg)
      have q1 : (i : Int) < (n : Int) := by omega
      clear hel hy hi hg
      obtain ⟨Z, hZ, HZ⟩ := zval34
      go_wp2_with (first
        | (with_reducible change wpList _ _ _ ({ dst := some 15, op := _, type := _, pos := _, after := _, guard := _ } :: _) _ _
           refine wpList_load_want rfl 34 (.tmp 14) rfl gb (off + i * 33) rfl y.cells _ HR.out Try.underlying34 rfl (info34 HY.out.2.2.1) ?_)
        | (with_reducible change wpList _ _ _ ({ dst := none, op := Op.store 34 _ _, type := _, pos := _, after := _, guard := _ } :: _) _ _
           refine Hid.out ?_)
        | fail)
      show wpList _ _ _ _ _ _
      refine wpList_store_fresh rfl 34 (.tmp 6) (.tmp 15) rfl Z y.cells 34 rfl rfl (by rw [Vx.len HY.out.2.2.1, HZ.out]) (info34 HY.out.2.2.1) (Vx.one y) ?_
      obtain ⟨V3, hV3⟩ : ∃ W, V.alloc (.cells y.cells.toArray 34) = W := ⟨_, rfl⟩
      obtain ⟨dy, hdy⟩ : ∃ g, V.heap.size = g := ⟨_, rfl⟩
      have H3 : Hid (Below w.heap.size w V3 ∧ MP V3 m (unitK (idSet (ids.take i))) ∧ Blk V3 dy 34 y.cells) := by
        have hbl : Below V.heap.size V V3 := by rw [← hV3]; exact below_al _ _
        exact ⟨below_tr HI.out.2.1 hbl, HI.out.2.2.same (hbl.block m HI.out.2.2.lt), by rw [← hV3, ← hdy]; exact Blk.new V _ _⟩
      rw [hV3, hdy]
      clear hV3 hdy hZ HZ HR
      go_wp2_with (first
        | (with_reducible change wpList _ _ _ ({ dst := some 17, op := _, type := _, pos := _, after := _, guard := _ } :: _) _ _
           refine wpList_load_want rfl 34 (.tmp 6) rfl dy 0 rfl y.cells _ H3.out.2.2.range0 Try.underlying34 rfl (info34 HY.out.2.2.1) ?_)
        | (with_reducible change wpList _ _ _ ({ dst := none, op := Op.mapUpdate 99 _ _ _, type := _, pos := _, after := _, guard := _ } :: _) _ _
           refine Hid.out ?_)
        | fail)
      show wpList _ _ _ _ _ _
      refine wpList_mapUp rfl 99 (.tmp 16) (.tmp 17) (.tmp 18) (.inl rfl) _ _ _ rfl rfl rfl (fun w' => MP w' m (unitK (idSet (ids.take (i + 1)))) ∧ V3.grownBy w' (some m)) (by
        obtain ⟨w', r1, r2, r3, r4⟩ := H3.out.2.1.put (t := 99) (E := 90) (h := y) Try.underlying99 HY.out.2.2.2 (.agg #[])
        exact ⟨w', r1, by have := r2; rw [kput_unit] at this; rw [idSet_take ids i y HY.out.2.1]; exact this, r3⟩) ?_
      intro V6 ⟨r1, r2⟩
      have H6 : Hid (Below w.heap.size w V6 ∧ MP V6 m (unitK (idSet (ids.take (i + 1))))) := ⟨H3.out.1.grown r2 H3.out.1.size (fun k hk => by cases hk; exact Nat.le_of_eq H1.out.2.2), r1⟩
      clear r1 r2
      go_wp2
      refine ⟨⟨i + 1, by simp, ⟨HY.out.1, H6.out.1, H6.out.2⟩⟩, ?_⟩
      have := HY.out.1; simp [intOf]; omega
    · have q1 : ¬ (i : Int) < (n : Int) := by omega
      have HE : Hid (Below w.heap.size w V ∧ MP V m (unitK (idSet ids)) ∧ VsR V a n ids ∧ ids.length = n) := by
        have h0 := HI.out.2.2
        rw [List.take_of_length_le (by rw [HS.out.1.1]; omega)] at h0
        refine ⟨HI.out.2.1, h0, HS.out.1.below HI.out.2.1, HS.out.1.1⟩
      obtain ⟨k, hk⟩ : ∃ k, (idSet ids).length = k := ⟨_, rfl⟩
      have hl : ∀ W : World, W.heap[m]? = V.heap[m]? → (Builtin.len_ #[99] 3 #[.map (some m)]).run Try.prog W = .ok (.int .i64 k) W := fun W hW => by
        have := (HE.out.2.1.same hW).len (t := 99) (E := 90) Try.underlying99 3
        rw [unitK_len, hk] at this
        exact this
      have hl0 := hl V rfl
      have hkn : k ≤ n := by have := idSet_len ids; rw [hk, HE.out.2.2.2] at this; exact this
      have HMB : Hid ((decide (0 < n) && decide (k = n) && !ids.any isE) = B) := by
        have := HS.out.2.1
        unfold mayBe at this
        rw [HE.out.2.2.2, hk] at this
        exact this
      clear hl hk HI
      by_cases hn0 : 0 < n
      · have q2 : 0 < (n : Int) := by omega
        by_cases hkn2 : k = n
        · subst hkn2
          obtain ⟨E, hE⟩ : ∃ E, ids.any isE = E := ⟨_, rfl⟩
          have HE2 : Hid (ids.any isE = E ∧ (!E) = B) := ⟨hE, by have := HMB.out; rw [hE] at this; simpa [hn0] using this⟩
          clear hE
          go_wp2_with fail
          refine (containsF_is V a k c ids HE.out.2.2.1 43 #[] #[] isE (pred_end V ids HE.out.2.2.1.2.1) (by omega) E HE2.out.1).mono ?_
          rintro e V2 ⟨rfl, hb⟩
          have HF : Hid (w.heap.size ≤ m ∧ MP V2 m (unitK (idSet ids)) ∧ Below w.heap.size w V2) := ⟨Nat.le_of_eq H1.out.2.2, HE.out.2.1.same (hb.block m HE.out.2.1.lt), below_tr HE.out.1 hb⟩
          clear hb
          cases E with
          | true =>
            have hB : B = false := HE2.out.2.symm
            subst hB
            go_wp2
            go_ret2
            exact ⟨m, rfl, HF.out⟩
          | false =>
            have hB : B = true := HE2.out.2.symm
            subst hB
            go_wp2
            go_ret2
            exact ⟨m, rfl, HF.out⟩
        · have q3 : ¬ (k : Int) = (n : Int) := by omega
          have hB : B = false := by have := HMB.out; rw [decide_eq_false hkn2] at this; simpa using this.symm
          subst hB
          go_wp2
          go_ret2
          exact ⟨m, rfl, Nat.le_of_eq H1.out.2.2, HE.out.2.1, HE.out.1⟩
      · have q2 : ¬ 0 < (n : Int) := by omega
        have hB : B = false := by have := HMB.out; rw [decide_eq_false hn0] at this; simpa using this.symm
        subst hB
        go_wp2
        go_ret2
        exact ⟨m, rfl, Nat.le_of_eq H1.out.2.2, HE.out.2.1, HE.out.1⟩
#print axioms setOf_is
end Go.Proofs.Ytjcihaohpbmogaa.Oct
