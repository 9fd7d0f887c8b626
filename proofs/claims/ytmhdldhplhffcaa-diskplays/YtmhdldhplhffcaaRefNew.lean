/-
  Layer 5 (disk): the reference: Blank, New, Clone.
-/
import Derived.Test.YtmhdldhplhffcaaRefRestart
import Derived.Laws.IdiomStrings
import Derived.Test.YtmhdldhplhffcaaTrio
namespace Go.Proofs.Ytmhdldhplhffcaa.Oct
open Go.RowKit Go.Lib
set_option linter.unusedSimpArgs false

theorem info9 : (Try.prog.info? 9).map (fun i => (i.zero, i.size, i.bytes)) = some (some (.string ⟨#[]⟩), 1, 16) := by kernel_rfl
theorem zero68 (W : World) : (zeroValue 68).run Try.prog W = .ok (.agg #[.slice none 0 0, .slice none 0 0, .bool false, .bool false, .int .i64 0, .int .i64 0]) W := by kernel_rfl
theorem size68 : (Try.prog.info? 68).map (·.size) = some 6 := by kernel_rfl
theorem built68 (W : World) : (Instr.build 68 #[]).run Try.prog W = .ok (.agg #[.slice none 0 0, .slice none 0 0, .bool false, .bool false, .int .i64 0, .int .i64 0]) W := by kernel_rfl
/-- nothing appended -/
theorem run_append_zero {P : Program} (w : World) (t ty e : TypeId) (i : TypeInfo) (ht : P.underlying t = some (.slice e)) (hi : P.info? e = some i) (a o : Option Addr) (n cap c : Nat) (hn : n ≤ cap) :
    (Builtin.append_ #[t, t] ty #[.slice a n cap, .slice o 0 c]).run P w = .ok (.slice a n cap) w := by
  cases o with
  | none =>
    cases a with
    | none => simp [Builtin.append_, run_underlying ht, sizeOf, typeInfo, hi, Builtin.lenOf, Builtin.firstCells, hn]
    | some a => simp [Builtin.append_, run_underlying ht, sizeOf, typeInfo, hi, Builtin.lenOf, Builtin.firstCells, hn, storeCells]
  | some o =>
    cases a with
    | none => simp [Builtin.append_, run_underlying ht, sizeOf, typeInfo, hi, Builtin.lenOf, Builtin.firstCells, hn, loadCells, loadCellsFrom]
    | some a => simp [Builtin.append_, run_underlying ht, sizeOf, typeInfo, hi, Builtin.lenOf, Builtin.firstCells, hn, loadCells, loadCellsFrom, storeCells]
theorem wpList_append_none {ops : Array Oper} {rest : List Oper} {o : Oper} {a : Act} {w : World} {Q : Exit → Act → World → Prop} (hgd : o.guard = none) (s x : Operand) (t e : TypeId) (i : TypeInfo) (ht : Try.prog.underlying t = some (.slice e)) (hi : Try.prog.info? e = some i)
    (ho : o.op = .call { callee := .builtin .append, args := #[s, x], argTypes := #[t, t] }) (ao oo : Option Addr) (n cap c : Nat) (hn : n ≤ cap) (hs : a.eval s = .slice ao n cap) (hx : a.eval x = .slice oo 0 c)
    (h : wpList Try.prog ops Q rest (a.put o.dst (.slice ao n cap)) w) : wpList Try.prog ops Q (o :: rest) a w := by
  refine wpList_plain hgd fun K hK => ?_
  have hr := run_append_zero (P := Try.prog) w t o.type e i ht hi ao oo n cap c hn
  unfold Oper.wp execOp
  simp only [ho, resolve, invoke, builtin, Sem.run_bind, Sem.run_pure, Result.andThen_ok, List.map_toArray, List.map_cons, List.map_nil, hs, hx, hr]
  exact hK _ _ h

set_option maxRecDepth 100000 in
theorem blank_is (w : World) : Calls Try.prog 27 #[] w fun e w' => e = .returned (.string (strOf zeros)) ∧ Below w.heap.size w w' := by
  obtain ⟨i0, hi, hz0, hz1, hz2⟩ := info_parts info5
  go_enter Try.func27, Try.ntmps27
  go_wp2_with (first
    | (with_reducible change wpList _ _ _ ({ dst := some 1, op := _, type := _, pos := _, after := _, guard := _ } :: _) _ _
       refine wpList_make_two w rfl _ _ 30 rfl 5 i0 Try.underlying30 hi hz0 hz1 hz2 .i64 .i64 256 256 256 256 rfl rfl rfl rfl (by omega) (by omega) ?_
       intro w1 hb1 hs1 hB1
       have HB1 : Hid (Blk w1 w.heap.size 5 (U (rep 0 0)) ∧ Below w.heap.size w w1) := ⟨(by unfold Blk; rw [← noughts_U]; exact hb1), hB1⟩
       clear hb1 hs1 hB1)
    | (with_reducible change wpList _ _ _ ({ dst := some 2, op := _, type := _, pos := _, after := _, guard := _ } :: _) _ _
       refine Hid.out ?_)
    | fail)
  show wpList _ _ _ _ _ _
  have hconv : (convert 30 9 (.slice (some ⟨w.heap.size, 0, none⟩) 256 256)).run Try.prog w1 = .ok (.string (strOf zeros)) w1 := by
    have e : zeros = rep 0 0 := rfl
    have := run_convert_bytes_back (P := Try.prog) w1 30 9 5 ⟨w.heap.size, 0, none⟩ 256 zeros Try.underlying30 Try.underlying5 Try.underlying9 (fun j hj => by
      rw [Addr.add_lit, Nat.zero_add]
      exact HB1.out.1.cell (U_get zeros j hj))
    rw [zeros_length] at this
    exact this
  refine wpList_conv rfl (.tmp 1) 30 9 rfl _ _ rfl hconv ?_
  simp only [Act.put, List.setIfInBounds_toArray, List.set_cons_zero, List.set_cons_succ]
  go_wp2
  go_ret
  exact ⟨rfl, HB1.out.2⟩
#print axioms blank_is

theorem rnew_bad (n : Int) (hn : n < 1 ∨ 4096 < n) (w : World) : Calls Try.prog 8 #[.int .i64 n] w fun e w' => e = .returned (.tuple #[.pointer none, .int .i64 2]) ∧ w' = w := by
  by_cases h1 : n < 1
  · clear hn
    go_enter Try.func8, Try.ntmps8
    go_wp2
    go_ret2
    exact ⟨rfl, rfl⟩
  · have h2 : 4096 < n := by omega
    clear hn
    go_enter Try.func8, Try.ntmps8
    go_wp2
    go_ret2
    exact ⟨rfl, rfl⟩
theorem own_nil {w : World} (B e sz : Nat) : w.ownsRow B e sz (.slice none 0 0) 0 [] := ⟨by simp, .inl ⟨rfl, rfl⟩⟩

set_option maxRecDepth 100000 in
set_option maxHeartbeats 1000000 in
theorem rnew_is (n : Nat) (h1 : 1 ≤ n) (h2 : n ≤ 4096) (w : World) : Calls Try.prog 8 #[.int .i64 (n : Int)] w fun e w' => e = .returned (.tuple #[.pointer (some ⟨w.heap.size, 0, none⟩), .int .i64 0]) ∧ RDk w' (fun k => w.heap.size ≤ k ∧ k < w'.heap.size) w.heap.size (fresh n) ∧ Below w.heap.size w w' := by
  have q1 : ¬ (n : Int) < 1 := by omega
  have q2 : ¬ 4096 < (n : Int) := by omega
  have HN : Hid (1 ≤ n ∧ n ≤ 4096) := ⟨h1, h2⟩
  have hbu := built68
  obtain ⟨i0, hi9, hz0, hz1, hz2⟩ := info_parts info9
  have HB0 : Hid (Below w.heap.size w (w.alloc (.cells #[.slice none 0 0, .slice none 0 0, .bool false, .bool false, .int .i64 0, .int .i64 0] 68)) ∧ Blk (w.alloc (.cells #[.slice none 0 0, .slice none 0 0, .bool false, .bool false, .int .i64 0, .int .i64 0] 68)) w.heap.size 68 [.slice none 0 0, .slice none 0 0, .bool false, .bool false, .int .i64 0, .int .i64 0]) := ⟨(Below.refl _ w).alloc (Nat.le_refl _) _, by simpa using Blk.new w #[.slice none 0 0, .slice none 0 0, .bool false, .bool false, .int .i64 0, .int .i64 0] 68⟩
  clear h1 h2
  go_enter Try.func8, Try.ntmps8
  go_wp2_with fail
  refine (blank_is _).mono ?_
  rintro e w1 ⟨rfl, hb1⟩
  have HB1 : Hid (Below w.heap.size w w1 ∧ Blk w1 w.heap.size 68 [.slice none 0 0, .slice none 0 0, .bool false, .bool false, .int .i64 0, .int .i64 0]) := ⟨HB0.out.1.trans (hb1.mono HB0.out.1.size), HB0.out.2.below hb1 HB0.out.2.lt⟩
  obtain ⟨S, hS⟩ : ∃ S, strOf zeros = S := ⟨_, rfl⟩
  have HS : Hid (strOf zeros = S) := hS
  rw [hS]
  clear hb1 hS HB0
  go_wp2
  go_loopw [6] (fun u wr => ∃ (i : Nat) (p : Option Addr) (c : Nat), u = .int .i64 (i : Int) ∧ Hid (i ≤ n ∧ Below w.heap.size w wr ∧ Blk wr w.heap.size 68 [.slice p i c, .slice none 0 0, .bool false, .bool false, .int .i64 0, .int .i64 0] ∧ wr.ownsRow w.heap.size 9 1 (.slice p i c) i (strs (fun _ => zeros) i))) (fun u _ => n - (intOf u).toNat)
  case atStart => exact ⟨0, none, 0, rfl, ⟨Nat.zero_le _, HB1.out.1, HB1.out.2, own_nil _ _ _⟩⟩
  case round =>
    obtain ⟨i, p, c, rfl, HJ⟩ := hrel
    have c0 : wr.cell? ⟨w.heap.size, 0, none⟩ = some (.slice p i c) := HJ.out.2.2.1.cell rfl
    by_cases hin : i < n
    · have q3 : (i : Int) < (n : Int) := by omega
      have HIN : Hid (i < n) := hin
      have HOW : Hid ((wr.alloc (.cells #[.string S] 9)).ownsRow w.heap.size 9 1 (.slice p i c) i (strs (fun _ => zeros) i)) := own_below HJ.out.2.2.2 ((Below.refl _ wr).alloc (Nat.le_refl _) _)
      have HNW : Hid (∀ j u, [Value.string S][j]? = some u → (wr.alloc (.cells #[.string S] 9)).cell? ((⟨wr.heap.size, 0, none⟩ : Addr).add j) = some u) := fun j u hj => by
        rw [Addr.add_lit, Nat.zero_add]
        exact (Blk.new wr #[.string S] 9).cell hj
      clear hin
      go_wp2_with (first
        | (with_reducible change wpList _ _ _ ({ dst := some 28, op := Op.call _, type := _, pos := _, after := _, guard := _ } :: _) _ _
           refine Hid.out ?_)
        | fail)
      show wpList _ _ _ _ _ _
      refine wpList_append_own_at _ rfl (.tmp 25) (.tmp 27) 65 rfl w.heap.size 9 i0 (.string ⟨#[]⟩) 1 16 Try.underlying65 hi9 hz0 hz1 hz2 rfl (by omega) (.slice p i c) i (strs (fun _ => zeros) i) rfl HOW.out ⟨wr.heap.size, 0, none⟩ 1 1 [.string S] rfl rfl HNW.out (by intro u hu; simp at hu; subst hu; rfl) (by have := HN.out.2; have := HIN.out; unfold maxLen; omega) (by have := HN.out.2; have := HIN.out; omega) (by have := HJ.out.2.1.size; simp; omega) ?_
      intro v5 w5 ho5 hg5 _ hob
      obtain ⟨a5, c5, hv5⟩ : ∃ a5 c5, v5 = .slice a5 (i + 1) c5 := by
        rcases ho5.2 with ⟨_, e⟩ | ⟨g', cap', cur, e, _⟩
        · omega
        · exact ⟨_, _, e⟩
      subst hv5
      have hbl : Blk w5 w.heap.size 68 [.slice p i c, .slice none 0 0, .bool false, .bool false, .int .i64 0, .int .i64 0] := (HJ.out.2.2.1.alloc _).kept hg5 (fun e => blk_row_ne HJ.out.2.2.1 HJ.out.2.2.2 (by omega) e.symm)
      have d0 : w5.cell? ⟨w.heap.size, 0, none⟩ = some (.slice p i c) := hbl.cell rfl
      have f0 := hbl.free 0
      have HF : Hid (Below w.heap.size w (w5.setCell ⟨w.heap.size, 0, none⟩ (.slice a5 (i + 1) c5)) ∧ Blk (w5.setCell ⟨w.heap.size, 0, none⟩ (.slice a5 (i + 1) c5)) w.heap.size 68 [.slice a5 (i + 1) c5, .slice none 0 0, .bool false, .bool false, .int .i64 0, .int .i64 0] ∧ (w5.setCell ⟨w.heap.size, 0, none⟩ (.slice a5 (i + 1) c5)).ownsRow w.heap.size 9 1 (.slice a5 (i + 1) c5) (i + 1) (strs (fun _ => zeros) (i + 1))) := by
        have hb5 : Below w.heap.size w w5 := (HJ.out.2.1.alloc HJ.out.2.1.size _).grown hg5 (HJ.out.2.1.alloc HJ.out.2.1.size _).size (fun j hj => (World.ownsRow.lt HOW.out j hj).1)
        refine ⟨hb5.grown (grown_setCell w5 w.heap.size 0 _) hb5.size (by intro k hk; simp at hk; omega), by have := hbl.set 0 (.slice a5 (i + 1) c5); simpa using this, ?_⟩
        rw [strs_succ, HS.out]
        refine row_kept (S := fun k => k = w.heap.size) (Keep.grown (grown_setCell w5 w.heap.size 0 _) rfl) ho5 (fun g' e1 e2 => ?_)
        subst e2
        exact blk_row_ne hbl ho5 (by omega) e1
      clear ho5 hg5 hob hbl
      simp only [Act.put, List.setIfInBounds_toArray, List.set_cons_zero, List.set_cons_succ]
      go_wp2
      refine ⟨⟨i + 1, a5, c5, by simp, ⟨HIN.out, HF.out.1, HF.out.2.1, HF.out.2.2⟩⟩, ?_⟩
      have := HIN.out; simp [intOf]; omega
    · have q3 : ¬ (i : Int) < (n : Int) := by omega
      obtain rfl : i = n := by have := HJ.out.1; omega
      have HF : Hid (RDk wr (fun k => w.heap.size ≤ k ∧ k < wr.heap.size) w.heap.size (fresh i)) := by
        refine ⟨.slice p i c, .slice none 0 0, ⟨HJ.out.2.2.1, ?_, own_nil _ _ _, ⟨HN.out.1, HN.out.2, fun _ => zeros_length, fun x hx => by simp [fresh] at hx, fun k hk => by simp [fresh] at hk⟩, by simp [fresh]⟩, ⟨Nat.le_refl _, HJ.out.2.2.1.lt⟩, fun g hg => (HJ.out.2.2.2.lt g hg), (fun g hg => by cases hg), fun k hk => hk.2⟩
        exact own_zero HJ.out.2.2.2
      clear hin
      go_wp2
      go_ret2
      exact ⟨rfl, HF.out, HJ.out.2.1⟩
#print axioms rnew_is

theorem rc_one (D : Disk) (a b : Option Addr) (n c m d : Nat) : ∀ v ∈ rc D (.slice a n c) (.slice b m d), v.oneCell' = true := by
  intro v hv
  simp [rc] at hv
  rcases hv with rfl | rfl | rfl | rfl | rfl | rfl <;> rfl
/-- a new row without room -/
theorem own_made {w : World} (B e sz : Nat) (hB : B ≤ w.heap.size) : (w.alloc (.cells #[] e)).ownsRow B e sz (.slice (some ⟨w.heap.size, 0, none⟩) 0 0) 0 [] :=
  ⟨by simp, .inr ⟨w.heap.size, 0, #[], rfl, hB, heap_alloc_new w _, Nat.le_refl _, by unfold maxLen; omega, by simp, by simp⟩⟩
/-- a field of the clone takes a row of its own -/
theorem put_field {w w5 : World} {B cb k : Nat} {L : List Value} {e sz n : Nat} {v : Value} {xs : List Value} (hb : Below B w w5) (hB : B ≤ cb) (hbl : Blk w5 cb 68 L) (ho : w5.ownsRow B e sz v n xs) (he : e ≠ 68) :
    Below B w (w5.setCell ⟨cb, k, none⟩ v) ∧ Blk (w5.setCell ⟨cb, k, none⟩ v) cb 68 (L.set k v) ∧ (w5.setCell ⟨cb, k, none⟩ v).ownsRow B e sz v n xs ∧ Keep (fun j => j = cb) w5 (w5.setCell ⟨cb, k, none⟩ v) := by
  have hk : Keep (fun j => j = cb) w5 (w5.setCell ⟨cb, k, none⟩ v) := Keep.grown (grown_setCell w5 cb k _) rfl
  refine ⟨⟨hk.os.trans hb.os, hk.tape.trans hb.tape, hk.output.trans hb.output, Nat.le_trans hb.size hk.size, fun j hj => ?_⟩, hbl.set k v, row_kept hk ho (fun g' e1 e2 => ?_), hk⟩
  · have hlt := hbl.lt
    exact (hk.block j (by omega) (by omega)).trans (hb.block j hj)
  · subst e2
    exact blk_row_ne hbl ho (fun e => he e.symm) e1

set_option maxRecDepth 100000 in
set_option maxHeartbeats 2000000 in
theorem rclone_is {w : World} {r : Nat} {sv pv : Value} {D : Disk} (h : RAt w r sv pv D) (hn : D.ops < 1000000000) :
    Calls Try.prog 10 #[.pointer (some ⟨r, 0, none⟩)] w fun e w' => e = .returned (.pointer (some ⟨w.heap.size, 0, none⟩)) ∧ RDk w' (fun k => w.heap.size ≤ k ∧ k < w'.heap.size) w.heap.size D ∧ Below w.heap.size w w' := by
  obtain ⟨g, c, rfl, _, hgl, _⟩ := h.sureAt
  obtain ⟨a, cp, rfl, _, hpd⟩ := h.pendAt
  obtain ⟨m, hm⟩ : ∃ m, D.pend.length = m := ⟨_, rfl⟩
  obtain ⟨n, hnn⟩ : ∃ n, D.n = n := ⟨_, rfl⟩
  rw [hm] at hpd
  rw [hm, hnn] at h
  have HMN : Hid (D.pend.length = m ∧ D.n = n ∧ m < 1000000000 ∧ n ≤ 4096 ∧ 1 ≤ n) := ⟨hm, hnn, by have := h.room; omega, by rw [← hnn]; exact h.good.2.1, by rw [← hnn]; exact h.good.1⟩
  have HPD : Hid (0 < m → ∃ g, a = some ⟨g, 0, none⟩ ∧ g < w.heap.size) := fun hp => by obtain ⟨g, e, h1, _⟩ := hpd hp; exact ⟨g, e, h1⟩
  clear hm hnn hpd
  have HU : Hid (RAt w r (.slice (some ⟨g, 0, none⟩) n c) (.slice a m cp) D ∧ g < w.heap.size) := ⟨h, hgl⟩
  have HR : Hid (w.rangeAt r 0 (rc D (.slice (some ⟨g, 0, none⟩) n c) (.slice a m cp))) := by
    have := h.blk.range 0 6
    rw [List.drop_zero, List.take_of_length_le (by simp [rc])] at this
    exact this
  have HZ : Hid ((Try.prog.info? 68).map (·.size) = some (rc D (.slice (some ⟨g, 0, none⟩) n c) (.slice a m cp)).length) := size68
  have hz68 := zero68
  obtain ⟨i9, hi9, hy0, hy1, hy2⟩ := info_parts info9
  obtain ⟨i78, hi78, hz0, hz1, hz2⟩ := info_parts info78
  clear h hgl
  go_enter Try.func10, Try.ntmps10
  go_wp2_with (first
    | (with_reducible change wpList _ _ _ ({ dst := some 6, op := _, type := _, pos := _, after := _, guard := _ } :: _) _ _
       refine wpList_load_mid rfl 68 (.tmp 5) rfl r 0 rfl (rc D (.slice (some ⟨g, 0, none⟩) n c) (.slice a m cp)) _ HR.out Try.underlying68 rfl HZ.out ?_)
    | (with_reducible change wpList _ _ _ ({ dst := none, op := Op.store 68 _ _, type := _, pos := _, after := _, guard := _ } :: _) _ _
       refine Hid.out ?_)
    | fail)
  show wpList _ _ _ _ _ _
  refine wpList_store_blk rfl 68 (.tmp 3) (.tmp 6) rfl w.heap.size 0 68 [.slice none 0 0, .slice none 0 0, .bool false, .bool false, .int .i64 0, .int .i64 0] (rc D (.slice (some ⟨g, 0, none⟩) n c) (.slice a m cp)) rfl rfl (by simpa using Blk.new w #[.slice none 0 0, .slice none 0 0, .bool false, .bool false, .int .i64 0, .int .i64 0] 68) (by simp [rc]) HZ.out (rc_one _ _ _ _ _ _ _) ?_
  intro w1 hb1 hg1
  have HB1 : Hid (Blk w1 w.heap.size 68 (rc D (.slice (some ⟨g, 0, none⟩) n c) (.slice a m cp)) ∧ Below w.heap.size w w1 ∧ RAt w1 r (.slice (some ⟨g, 0, none⟩) n c) (.slice a m cp) D) := by
    have h1 := (keep_new hg1.out).none_below
    refine ⟨?_, h1, HU.out.1.below h1⟩
    have := hb1.out
    simpa [rc] using this
  clear hb1 hg1 hz68
  simp only [Act.put, List.setIfInBounds_toArray, List.set_cons_zero, List.set_cons_succ]
  have c0 : (w1.alloc (.cells #[] 9)).cell? ⟨r, 0, none⟩ = some (.slice (some ⟨g, 0, none⟩) n c) := (HB1.out.2.2.below ((Below.refl _ w1).alloc (Nat.le_refl _) _)).c0
  have HO2 : Hid ((w1.alloc (.cells #[] 9)).ownsRow w.heap.size 9 1 (.slice (some ⟨w1.heap.size, 0, none⟩) 0 0) 0 []) := own_made _ _ _ HB1.out.2.1.size
  have HNW : Hid (∀ j u, (strs D.sure n)[j]? = some u → (w1.alloc (.cells #[] 9)).cell? ((⟨g, 0, none⟩ : Addr).add j) = some u) := fun j u hj => by
    have h2 := (HB1.out.2.2.below ((Below.refl _ w1).alloc (Nat.le_refl _) (.cells #[] 9))).sure
    rw [HMN.out.2.1] at h2
    have hl := (List.getElem?_eq_some_iff.1 hj).1
    rw [strs_length] at hl
    rw [Addr.add_lit, Nat.zero_add, World.ownsRow.cellAt h2 j (by omega)]
    exact hj
  go_wp2_with (first
    | (with_reducible change wpList _ _ _ ({ dst := some 12, op := Op.call _, type := _, pos := _, after := _, guard := _ } :: _) _ _
       refine Hid.out ?_)
    | fail)
  show wpList _ _ _ _ _ _
  refine wpList_append_own_at _ rfl (.tmp 7) (.tmp 11) 65 rfl w.heap.size 9 i9 (.string ⟨#[]⟩) 1 16 Try.underlying65 hi9 hy0 hy1 hy2 rfl (by omega) (.slice (some ⟨w1.heap.size, 0, none⟩) 0 0) 0 [] rfl HO2.out ⟨g, 0, none⟩ n c (strs D.sure n) rfl (by rw [strs_length]; omega) HNW.out (strs_one _ _) (by have := HMN.out; unfold maxLen; omega) (by have := HMN.out; omega) (by have := HB1.out.2.1.size; simp; omega) ?_
  intro v5 w5 ho5 hg5 _ hob
  rw [Nat.zero_add, List.nil_append] at ho5
  obtain ⟨a5, c5, hv5⟩ : ∃ a5 c5, v5 = .slice a5 n c5 := by
    rcases ho5.2 with ⟨_, e⟩ | ⟨g', cap', cur, e, _⟩
    · have := HMN.out; omega
    · exact ⟨_, _, e⟩
  subst hv5
  have hb5 : Below w1.heap.size w1 w5 := ((Below.refl _ w1).alloc (Nat.le_refl _) _).grown hg5 (by simp) (fun j hj => by simp [Value.ownBlock] at hj; omega)
  have hbl : Blk w5 w.heap.size 68 (rc D (.slice (some ⟨g, 0, none⟩) n c) (.slice a m cp)) := HB1.out.1.below hb5 HB1.out.1.lt
  have d0 : w5.cell? ⟨w.heap.size, 0, none⟩ = some (.slice (some ⟨g, 0, none⟩) n c) := hbl.cell rfl
  have f0 := hbl.free 0
  have hpf := put_field (k := 0) (HB1.out.2.1.trans (hb5.mono HB1.out.2.1.size)) (Nat.le_refl _) hbl ho5 (by omega)
  have HF : Hid (Below w.heap.size w (w5.setCell ⟨w.heap.size, 0, none⟩ (.slice a5 n c5)) ∧ Blk (w5.setCell ⟨w.heap.size, 0, none⟩ (.slice a5 n c5)) w.heap.size 68 (rc D (.slice a5 n c5) (.slice a m cp)) ∧ (w5.setCell ⟨w.heap.size, 0, none⟩ (.slice a5 n c5)).ownsRow w.heap.size 9 1 (.slice a5 n c5) n (strs D.sure n)) := ⟨hpf.1, hpf.2.1, hpf.2.2.1⟩
  clear ho5 hg5 hob hbl hb5 hpf c0 HO2 HNW
  simp only [Act.put, List.setIfInBounds_toArray, List.set_cons_zero, List.set_cons_succ]
  go_wp2_with (first
    | (with_reducible change wpList _ _ _ ({ dst := some 14, op := _, type := _, pos := _, after := _, guard := _ } :: _) _ _
       refine Hid.out ?_)
    | fail)
  show wpList _ _ _ _ _ _
  generalize hW3 : w5.setCell ⟨w.heap.size, 0, none⟩ (.slice a5 n c5) = w3 at HF ⊢
  clear hW3 d0 f0
  have HA3 : Hid (RAt w3 r (.slice (some ⟨g, 0, none⟩) n c) (.slice a m cp) D) := HU.out.1.below HF.out.1
  have c1 : (w3.alloc (.cells #[] 78)).cell? ⟨r, 1, none⟩ = some (.slice a m cp) := (HA3.out.below ((Below.refl _ w3).alloc (Nat.le_refl _) _)).c1
  have HO3 : Hid ((w3.alloc (.cells #[] 78)).ownsRow w.heap.size 78 2 (.slice (some ⟨w3.heap.size, 0, none⟩) 0 0) 0 []) := own_made _ _ _ HF.out.1.size
  have HBA : Hid (Below w.heap.size w (w3.alloc (.cells #[] 78)) ∧ Blk (w3.alloc (.cells #[] 78)) w.heap.size 68 (rc D (.slice a5 n c5) (.slice a m cp)) ∧ (w3.alloc (.cells #[] 78)).ownsRow w.heap.size 9 1 (.slice a5 n c5) n (strs D.sure n)) := ⟨HF.out.1.alloc HF.out.1.size _, HF.out.2.1.alloc _, own_below HF.out.2.2 ((Below.refl _ w3).alloc (Nat.le_refl _) _)⟩
  by_cases hm0 : m = 0
  · subst hm0
    have d1 : (w3.alloc (.cells #[] 78)).cell? ⟨w.heap.size, 1, none⟩ = some (.slice a 0 cp) := HBA.out.2.1.cell rfl
    have f1 := HBA.out.2.1.free 1
    have hpf := put_field (k := 1) HBA.out.1 (Nat.le_refl _) HBA.out.2.1 HO3.out (by omega)
    have HD : Hid (RDk ((w3.alloc (.cells #[] 78)).setCell ⟨w.heap.size, 1, none⟩ (.slice (some ⟨w3.heap.size, 0, none⟩) 0 0)) (fun k => w.heap.size ≤ k ∧ k < ((w3.alloc (.cells #[] 78)).setCell ⟨w.heap.size, 1, none⟩ (.slice (some ⟨w3.heap.size, 0, none⟩) 0 0)).heap.size) w.heap.size D ∧ Below w.heap.size w ((w3.alloc (.cells #[] 78)).setCell ⟨w.heap.size, 1, none⟩ (.slice (some ⟨w3.heap.size, 0, none⟩) 0 0))) := by
      have hs2 := row_kept hpf.2.2.2 HBA.out.2.2 (fun g' e1 e2 => by subst e2; exact blk_row_ne HBA.out.2.1 HBA.out.2.2 (by omega) e1)
      have hpe : D.pend = [] := List.eq_nil_of_length_eq_zero HMN.out.1
      refine ⟨⟨.slice a5 n c5, .slice (some ⟨w3.heap.size, 0, none⟩) 0 0, ⟨hpf.2.1, by rw [HMN.out.2.1]; exact own_zero hs2, ?_, HU.out.1.good, HU.out.1.room⟩, ⟨Nat.le_refl _, hpf.2.1.lt⟩, fun g' hg' => hs2.lt g' hg', fun g' hg' => hpf.2.2.1.lt g' hg', fun k hk => hk.2⟩, hpf.1⟩
      rw [hpe]
      exact own_zero hpf.2.2.1
    clear hpf
    go_wp2_with (first
      | (with_reducible change wpList _ _ _ ({ dst := some 19, op := Op.call _, type := _, pos := _, after := _, guard := _ } :: _) _ _
         refine Hid.out ?_)
      | fail)
    show wpList _ _ _ _ _ _
    refine wpList_append_none rfl (.tmp 14) (.tmp 18) 66 78 i78 Try.underlying66 hi78 rfl (some ⟨w3.heap.size, 0, none⟩) a 0 0 cp (Nat.le_refl _) rfl rfl ?_
    simp only [Act.put, List.setIfInBounds_toArray, List.set_cons_zero, List.set_cons_succ]
    go_wp2
    go_ret
    exact ⟨rfl, HD.out⟩
  · obtain ⟨gp, rfl, hgp⟩ := HPD.out (by omega)
    have HM0 : Hid (m ≠ 0) := hm0
    have HNW : Hid (∀ j u, (puts D.pend)[j]? = some u → (w3.alloc (.cells #[] 78)).cell? ((⟨gp, 0, none⟩ : Addr).add j) = some u) := fun j u hj => by
      have h2 := (HA3.out.below ((Below.refl _ w3).alloc (Nat.le_refl _) (.cells #[] 78))).pend
      have hl := (List.getElem?_eq_some_iff.1 hj).1
      rw [puts_length] at hl
      rw [HMN.out.1] at h2 hl
      rw [Addr.add_lit, Nat.zero_add, World.ownsRow.cellAt h2 j (by omega)]
      exact hj
    clear hm0 hgp
    go_wp2_with (first
      | (with_reducible change wpList _ _ _ ({ dst := some 19, op := Op.call _, type := _, pos := _, after := _, guard := _ } :: _) _ _
         refine Hid.out ?_)
      | fail)
    show wpList _ _ _ _ _ _
    refine wpList_append_own_at _ rfl (.tmp 14) (.tmp 18) 66 rfl w.heap.size 78 i78 (.agg #[.int .i64 0, .string ⟨#[]⟩]) 2 24 Try.underlying66 hi78 hz0 hz1 hz2 rfl (by omega) (.slice (some ⟨w3.heap.size, 0, none⟩) 0 0) 0 [] rfl HO3.out ⟨gp, 0, none⟩ m cp (puts D.pend) rfl (by rw [puts_length, HMN.out.1]) HNW.out (puts_one _) (by have := HMN.out; unfold maxLen; omega) (by have := HMN.out; omega) (by have := HF.out.1.size; simp; omega) ?_
    intro v7 w7 ho7 hg7 _ hob
    rw [Nat.zero_add, List.nil_append] at ho7
    obtain ⟨a7, c7, hv7⟩ : ∃ a7 c7, v7 = .slice a7 m c7 := by
      rcases ho7.2 with ⟨_, e⟩ | ⟨g', cap', cur, e, _⟩
      · have := HM0.out; omega
      · exact ⟨_, _, e⟩
    subst hv7
    have hb7 : Below w3.heap.size w3 w7 := ((Below.refl _ w3).alloc (Nat.le_refl _) _).grown hg7 (by simp) (fun j hj => by simp [Value.ownBlock] at hj; omega)
    have hbl : Blk w7 w.heap.size 68 (rc D (.slice a5 n c5) (.slice (some ⟨gp, 0, none⟩) m cp)) := HF.out.2.1.below hb7 HF.out.2.1.lt
    have hs7 := own_below HF.out.2.2 hb7
    have d1 : w7.cell? ⟨w.heap.size, 1, none⟩ = some (.slice (some ⟨gp, 0, none⟩) m cp) := hbl.cell rfl
    have f1 := hbl.free 1
    have hpf := put_field (k := 1) (HF.out.1.trans (hb7.mono HF.out.1.size)) (Nat.le_refl _) hbl ho7 (by omega)
    have HD : Hid (RDk (w7.setCell ⟨w.heap.size, 1, none⟩ (.slice a7 m c7)) (fun k => w.heap.size ≤ k ∧ k < (w7.setCell ⟨w.heap.size, 1, none⟩ (.slice a7 m c7)).heap.size) w.heap.size D ∧ Below w.heap.size w (w7.setCell ⟨w.heap.size, 1, none⟩ (.slice a7 m c7))) := by
      have hs2 := row_kept hpf.2.2.2 hs7 (fun g' e1 e2 => by subst e2; exact blk_row_ne hbl hs7 (by omega) e1)
      refine ⟨⟨.slice a5 n c5, .slice a7 m c7, ⟨hpf.2.1, by rw [HMN.out.2.1]; exact own_zero hs2, by rw [HMN.out.1]; exact own_zero hpf.2.2.1, HU.out.1.good, HU.out.1.room⟩, ⟨Nat.le_refl _, hpf.2.1.lt⟩, fun g' hg' => hs2.lt g' hg', fun g' hg' => hpf.2.2.1.lt g' hg', fun k hk => hk.2⟩, hpf.1⟩
    clear ho7 hg7 hob hb7 hbl hs7 hpf
    simp only [Act.put, List.setIfInBounds_toArray, List.set_cons_zero, List.set_cons_succ]
    go_wp2
    go_ret
    exact ⟨rfl, HD.out⟩
#print axioms rclone_is
end Go.Proofs.Ytmhdldhplhffcaa.Oct
