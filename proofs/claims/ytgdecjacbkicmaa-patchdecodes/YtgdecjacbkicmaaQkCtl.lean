/-
  Layer 10 (patch): the law Cut.
-/
import Derived.Test.YtgdecjacbkicmaaQkF
import Derived.Test.YtgdecjacbkicmaaQkUlr
import Derived.Test.YtgdecjacbkicmaaQkB
import Derived.Deep.MidRow
/- Layer 10 (patch): the law Cut. -/
namespace Go.Proofs.Ytgdecjacbkicmaa.Oct
open Go.RowKit
set_option maxRecDepth 100000
set_option linter.unusedSimpArgs false
set_option linter.unusedVariables false

theorem ptB_cons (p : PV) : ∃ r, ptB p = 80 :: r := ⟨_, rfl⟩
theorem in_take {w : World} {g n c k : Nat} {l : List UInt8} (h : In w (some ⟨g, 0, none⟩) n c l) (hk : k ≤ n) : In w (some ⟨g, 0, none⟩) k c (l.take k) := by
  obtain ⟨h1, h2, h3, h4, h5⟩ := h
  refine ⟨by rw [List.length_take]; omega, by omega, by omega, (fun e => by cases e), fun hp => ?_⟩
  obtain ⟨b, off, e1, e2, e3⟩ := h5 (by omega)
  refine ⟨b, off, e1, e2, fun i x hx => e3 i x ?_⟩
  rw [List.getElem?_take] at hx
  split at hx
  · exact hx
  · cases hx
/-- no beginning is a patch -/
theorem cut_none {w w' : World} {p q : PV} (hp : PR w p) (hc : chk p = 0) (hq : PR w' q) (hcq : chk q = 0) {k : Nat} (hk : k < (ptB p).length) (he : ptB q = (ptB p).take k) : False := by
  obtain ⟨x, hx, _⟩ := pP_enc (A := 16) (P := 64) (T := 200) (by omega) (by omega) (by omega) hp hc []
  obtain ⟨y, hy, _⟩ := pP_enc (A := 16) (P := 64) (T := 200) (by omega) (by omega) (by omega) hq hcq ((ptB p).drop k)
  rw [he, List.take_append_drop] at hy
  rw [List.append_nil, hy] at hx
  simp only [Option.some.injEq, Prod.mk.injEq] at hx
  have := congrArg List.length hx.2
  rw [List.length_drop, List.length_nil] at this
  omega
theorem more_none {w : World} {p p2 : PV} (hp : PR w p) (hc : chk p = 0) (m : UInt8) (h : pP 16 64 200 (ptB p ++ [m]) = some (p2, [])) : False := by
  obtain ⟨x, hx, _⟩ := pP_enc (A := 16) (P := 64) (T := 200) (by omega) (by omega) (by omega) hp hc [m]
  rw [hx] at h
  simp at h
theorem dp_cut {w W V : World} {p : PV} {e : Ending} {k : Nat} (hp : PR w p) (hc : chk p = 0) (hk : k < (ptB p).length) (h : DP W ((ptB p).take k) e V) : Below W.heap.size W V ∧ e = .returned (.tuple #[.agg p00.cells.toArray, iv 103]) := by
  refine ⟨h.1, ?_⟩
  rcases h.2 with h2 | ⟨p2, q, h1, h2, _, h3, h4⟩
  · exact h2.1
  · exfalso
    have e1 := pP_some h1 h2
    rw [List.append_nil] at e1
    exact cut_none hp hc h3.pr (h4.chk.trans h2) hk (by rw [h4.bytes, ← e1])
theorem dp_more {w W V : World} {p : PV} {e : Ending} {m : UInt8} (hp : PR w p) (hc : chk p = 0) (h : DP W (ptB p ++ [m]) e V) : Below W.heap.size W V ∧ e = .returned (.tuple #[.agg p00.cells.toArray, iv 103]) := by
  refine ⟨h.1, ?_⟩
  rcases h.2 with h2 | ⟨p2, q, h1, h2, _, h3, h4⟩
  · exact h2.1
  · exact (more_none hp hc m h1).elim
theorem slice_to36 (g n c k : Nat) (hk : k ≤ c) (W : World) : (Instr.slice 36 (.slice (some ⟨g, 0, none⟩) n c) none (some (.int .i64 (k : Int))) none).run Try.prog W = .ok (.slice (some ⟨g, 0, none⟩) k c) W := by
  obtain ⟨i, hi, hsz⟩ := Option.map_eq_some_iff.1 size36
  simp [Instr.slice, run_underlying elem36, Instr.sliceBounds, Instr.sliceBound, asIntOf, sizeOf, typeInfo, hi, hsz, hk, Addr.add_lit]
theorem wpList_slice_to36 {ops : Array Oper} {rest : List Oper} {o : Oper} {a : Act} {Q : Exit → Act → World → Prop} {w : World} (hgd : o.guard = none) (x hi : Operand) (hop : o.op = Op.slice 36 x none (some hi) none)
    (v v' : Value) (s : Nat) (hx : a.eval x = v) (hhi : a.eval hi = .int .i64 (s : Int)) (hrun : ∀ W, (Instr.slice 36 v none (some (.int .i64 (s : Int))) none).run Try.prog W = .ok v' W)
    (h : wpList Try.prog ops Q rest (a.put o.dst v') w) : wpList Try.prog ops Q (o :: rest) a w := by
  refine wpList_plain hgd fun K hK => ?_
  unfold Oper.wp
  simp [execOp, hop, hx, hhi, run_sliceAt_slice _ 36 _ _ _ _ elem36, hrun, Result.andThen]
  exact hK _ _ h
theorem bs36 (W : World) : (Instr.buildSlice 36 0 #[]).run Try.prog W = .ok (.slice (some ⟨W.heap.size, 0, none⟩) 0 0) (W.alloc (.cells #[] 5)) := by kernel_rfl
theorem bs36y (m : UInt8) (W : World) : (Instr.buildSlice 36 1 #[(0, bv (m.toNat : Int))]).run Try.prog W = .ok (.slice (some ⟨W.heap.size, 0, none⟩) 1 1) (W.alloc (.cells #[bv (m.toNat : Int)] 5)) := by kernel_rfl
set_option maxHeartbeats 8000000 in
theorem cut_law (w : World) (p : PV) (hp : PR w p) (cut : Int) (hcut : -9223372036854775808 ≤ cut ∧ cut ≤ 9223372036854775807) (m : UInt8) : Calls Try.prog 6 #[.agg p.cells.toArray, iv cut, bv (m.toNat : Int)] w fun e w' => e = .returned (.bool true) ∧ Below w.heap.size w w' := by
  obtain ⟨d1, hd1⟩ : ∃ d, w.heap.size = d := ⟨_, rfl⟩
  obtain ⟨W, hW⟩ : ∃ W, w.alloc (.cells p.cells.toArray 25) = W := ⟨_, rfl⟩
  have hk : Blk W d1 25 p.cells := by rw [← hW, ← hd1]; exact Blk.new w _ _
  have hbw : Below w.heap.size w W := by rw [← hW]; exact below_al _ _
  have HP : Hid (PR W p ∧ Below w.heap.size w W ∧ Blk W d1 25 p.cells) := ⟨hp.below hbw, hbw, hk⟩
  have hZ := zero25
  have HCU : Hid (-9223372036854775808 ≤ cut ∧ cut ≤ 9223372036854775807) := hcut
  clear hp hk hbw hcut
  go_enter Try.func6, Try.ntmps6
  go_wp2_with (with_reducible change wpList _ _ _ ({ dst := some 13, op := _, type := _, pos := _, after := _, guard := _ } :: _) _ _; refine Hid.out ?_)
  show wpList _ _ _ _ _ _
  refine wpList_load_mid rfl 25 (.tmp 3) rfl d1 0 rfl p.cells _ HP.out.2.2.range0 Try.underlying25 rfl (info25 p) ?_
  clear hd1 hW
  go_wp2_with fail
  refine (light_is W p HP.out.1).mono ?_
  rintro e V1 ⟨B1, rfl, hl1, hb1⟩
  have H1 : Hid ((B1 = true → LT p) ∧ PR V1 p ∧ Below w.heap.size w V1 ∧ Blk V1 d1 25 p.cells) := ⟨hl1.out, HP.out.1.below hb1, below_tr HP.out.2.1 hb1, HP.out.2.2.below hb1 HP.out.2.2.lt⟩
  clear hl1 hb1 HP
  cases B1 with
  | false =>
    go_wp2_with fail
    refine (lives_is V1).mono ?_
    rintro e V9 ⟨rfl, hb9⟩
    have HF : Hid (Below w.heap.size w V9) := below_tr H1.out.2.2.1 hb9
    clear hb9
    go_wp2
    go_ret
    exact ⟨rfl, HF.out⟩
  | true =>
  go_wp2_with (with_reducible change wpList _ _ _ ({ dst := some 18, op := _, type := _, pos := _, after := _, guard := _ } :: _) _ _; refine Hid.out ?_)
  show wpList _ _ _ _ _ _
  refine wpList_load_mid rfl 25 (.tmp 3) rfl d1 0 rfl p.cells _ H1.out.2.2.2.range0 Try.underlying25 rfl (info25 p) ?_
  go_wp2_with fail
  refine (encode_is V1 p H1.out.2.1).mono ?_
  rintro e V2 ⟨(⟨hc, rfl⟩ | ⟨hc, va, n, c, rfl, how, hn⟩), hb2⟩
  · obtain ⟨E, hE⟩ : ∃ E, chk p = E := ⟨_, rfl⟩
    rw [hE] at hc ⊢
    have H2 : Hid (PR V2 p ∧ Below w.heap.size w V2 ∧ Blk V2 d1 25 p.cells ∧ chk p = E ∧ LT p) := ⟨H1.out.2.1.below hb2, below_tr H1.out.2.2.1 hb2, H1.out.2.2.2.below hb2 H1.out.2.2.2.lt, hE, H1.out.1 (by trivial)⟩
    have e1 : (E != 0) = true := by simpa using hc
    clear hc hb2 hE H1
    go_wp2_with (with_reducible change wpList _ _ _ ({ dst := some 29, op := _, type := _, pos := _, after := _, guard := _ } :: _) _ _; refine Hid.out ?_)
    show wpList _ _ _ _ _ _
    refine wpList_load_want rfl 25 (.tmp 3) rfl d1 0 rfl p.cells _ H2.out.2.2.1.range0 Try.underlying25 rfl (info25 p) ?_
    go_wp2_with fail
    refine (rcheck_is V2 p H2.out.1 (by have := H2.out.2.2.2.2.1; omega) E H2.out.2.2.2.1).mono ?_
    rintro e V3 ⟨rfl, hb3⟩
    have H3 : Hid (Below w.heap.size w V3) := below_tr H2.out.2.1 hb3
    clear hb3 e1
    go_wp2_with fail
    refine (lives_is V3).mono ?_
    rintro e V9 ⟨rfl, hb9⟩
    have HF : Hid (Below w.heap.size w V9) := below_tr H3.out hb9
    clear hb9
    go_wp2
    go_ret
    exact ⟨rfl, HF.out⟩
  have hlen := ptB_len H1.out.2.1 hc
  obtain ⟨g, rfl, hB1, hg1, hcap⟩ : ∃ g, va = some ⟨g, 0, none⟩ ∧ V1.heap.size ≤ g ∧ g < V2.heap.size ∧ c ≤ maxLen := by
    have hL0 : 0 < (ptB p).length := by obtain ⟨r, hr⟩ := ptB_cons p; rw [hr]; simp
    rcases how.out.2 with ⟨e, h0⟩ | ⟨g, cap, cur, e, hB, hb, _, h3, _⟩
    · omega
    · cases e; exact ⟨g, rfl, hB, (Array.getElem?_eq_some_iff.1 hb).1, h3⟩
  have hin : In V2 (some ⟨g, 0, none⟩) n c (ptB p) := by rw [hn] at how ⊢; exact how.out.toIn (by omega)
  have hn0 : 0 < n := by obtain ⟨r, hr⟩ := ptB_cons p; rw [hn, hr]; simp
  obtain ⟨X, hX⟩ : ∃ X : Nat, IntKind.u64.wrap cut = (X : Int) := ⟨(IntKind.u64.wrap cut).toNat, by have := HCU.out; rw [IntKind.wrap_u64]; omega⟩
  obtain ⟨k, hk⟩ : ∃ k : Nat, X % n = k := ⟨_, rfl⟩
  have hkn : k < n := by rw [← hk]; exact Nat.mod_lt _ hn0
  have H2 : Hid (PR V2 p ∧ Below w.heap.size w V2 ∧ chk p = 0 ∧ In V2 (some ⟨g, 0, none⟩) n c (ptB p) ∧ k < n ∧ (ptB p).length = n ∧ n ≤ 1000000 ∧ n ≤ c ∧ c ≤ maxLen) := ⟨H1.out.2.1.below hb2, below_tr H1.out.2.2.1 hb2, hc, hin, hkn, hn.symm, by omega, hin.2.1, hcap⟩
  have nn : ¬ n = 0 := by omega
  have en : ((n : Int) == 0) = false := by rw [beq_eq_false_iff_ne]; omega
  have qn : (n : Int) ≤ 1000000 := by omega
  have wn : IntKind.u64.wrap (n : Int) = (n : Int) := by rw [IntKind.wrap_u64]; omega
  have tk : (X : Int).tmod (n : Int) = (k : Int) := by rw [Int.tmod_eq_emod_of_nonneg (by omega), ← hk]; rfl
  have tk2 : (X : Int) % (n : Int) = (k : Int) := by rw [← hk]; rfl
  have wk : IntKind.i64.wrap (k : Int) = (k : Int) := by rw [IntKind.wrap_i64] <;> omega
  have qk : (k : Int) ≤ (n : Int) := by omega
  have qk0 : 0 ≤ (k : Int) := by omega
  have qc : (n : Int) ≤ (c : Int) := by have := H2.out; omega
  clear hc how hn hb2 hlen hB1 hg1 hin hn0 hk hkn hcap HCU
  go_wp2_with (with_reducible change wpList _ _ _ ({ dst := some 48, op := _, type := _, pos := _, after := _, guard := _ } :: _) _ _; refine Hid.out ?_)
  show wpList _ _ _ _ _ _
  refine wpList_slice_to36 rfl (.tmp 40) (.tmp 47) rfl _ _ k rfl rfl (slice_to36 g n c k (by have := H2.out; omega)) ?_
  go_wp2_with fail
  refine (decode16 _ _ _ _ V2 (in_take H2.out.2.2.2.1 (by have := H2.out; omega))).mono ?_
  intro e V3 hdp
  obtain ⟨hb3, rfl⟩ := dp_cut H2.out.1 H2.out.2.2.1 (by have := H2.out; omega) hdp
  obtain ⟨d9, hd9⟩ : ∃ d, V3.heap.size = d := ⟨_, rfl⟩
  have H3 : Hid (Below V2.heap.size V2 V3) := hb3
  clear hdp hb3 tk tk2 wn wk hX
  go_wp2_with (with_reducible change wpList _ _ _ ({ dst := none, op := Op.store 25 _ _, type := _, pos := _, after := _, guard := _ } :: _) _ _; refine Hid.out ?_)
  show wpList _ _ _ _ _ _
  refine wpList_store_blk rfl 25 (.tmp 9) (.tmp 50) rfl d9 0 25 p00.cells p00.cells rfl rfl (by rw [← hd9]; exact Blk.new V3 _ _) (Nat.le_refl _) (info25 p00) (PV.one _) ?_
  intro V4 hx hgs
  have H4 : Hid (Below V2.heap.size V2 V4) := by
    have hb : Below V3.heap.size V3 V4 := below_gr (below_al V3 _) hgs.out (by omega)
    exact below_tr H3.out hb
  clear hx hgs hd9 H3
  obtain ⟨i0, hi, hz0, hz1, hz2⟩ := i5
  have HI5 : Hid (Try.prog.info? 5 = some i0 ∧ i0.zero = some (.int .u8 0) ∧ i0.size = 1 ∧ i0.bytes = 1) := ⟨hi, hz0, hz1, hz2⟩
  clear hi hz0 hz1 hz2
  go_wp2_with (with_reducible change wpList _ _ _ ({ dst := some 53, op := _, type := _, pos := _, after := _, guard := _ } :: _) _ _; refine Hid.out ?_)
  show wpList _ _ _ _ _ _
  refine wpList_bs0 rfl 36 rfl _ (bs36 V4) ?_
  have hrow := empty_row V4 5 1
  have hb5 : Below V4.heap.size V4 (V4.alloc (.cells #[] 5)) := below_al _ _
  obtain ⟨r, hr⟩ : ∃ r, V4.heap.size = r := ⟨_, rfl⟩
  obtain ⟨V5, hV5⟩ : ∃ V, V4.alloc (.cells #[] 5) = V := ⟨_, rfl⟩
  rw [hr, hV5] at hrow
  rw [hV5] at hb5
  rw [hr, hV5]
  have H5 : Hid (V5.ownsRow r 5 1 (.slice (some ⟨r, 0, none⟩) 0 0) 0 [] ∧ Below V2.heap.size V2 V5 ∧ V4.heap.size = r ∧ r ≤ V5.heap.size ∧ Below r V4 V5) := ⟨hrow, below_tr H4.out hb5, hr, by have := hb5.size; omega, by rw [← hr]; exact hb5⟩
  clear hrow hb5 hr hV5
  go_wp2_with (with_reducible change wpList _ _ _ ({ dst := some 55, op := _, type := _, pos := _, after := _, guard := _ } :: _) _ _; refine Hid.out ?_)
  show wpList _ _ _ _ _ _
  refine wpList_append_in V5 rfl (.tmp 53) (.tmp 54) 36 rfl r 5 i0 Try.underlying36 HI5.out.1 HI5.out.2.1 HI5.out.2.2.1 HI5.out.2.2.2 (.slice (some ⟨r, 0, none⟩) 0 0) [] 0 rfl rfl H5.out.1 (some ⟨g, 0, none⟩) n c (ptB p) rfl (H2.out.2.2.2.1.below H5.out.2.1) (by have := H2.out; omega) H5.out.2.2.2.1 ?_
  intro v6 V6 ho6 hg6
  rw [List.nil_append] at ho6
  obtain ⟨a6, c6, rfl, hin6, _⟩ := own_in ho6 (by have := H2.out; omega)
  have H6 : Hid (Own 5 r V6 (.slice a6 (ptB p).length c6) (ptB p) ∧ Below V2.heap.size V2 V6 ∧ r ≤ V6.heap.size ∧ V2.heap.size ≤ r) := ⟨ho6, H5.out.2.1.trans ((fk_own (S := [5]) H5.out.1 hg6 (Nat.le_refl r) H5.out.2.2.2.1 (by simp)).below.mono (by have := H4.out.size; have := H5.out; omega)), by have := hg6.size; have := H5.out; omega, by have := H4.out.size; have := H5.out; omega⟩
  clear ho6 hg6 hin6 H5 H4
  go_wp2_with (with_reducible change wpList _ _ _ ({ dst := some 57, op := _, type := _, pos := _, after := _, guard := _ } :: _) _ _; refine Hid.out ?_)
  show wpList _ _ _ _ _ _
  refine wpList_bs rfl 36 _ rfl (bv (m.toNat : Int)) _ rfl (bs36y m V6) ?_
  have hbk := Blk.new V6 #[bv (m.toNat : Int)] 5
  have hb7 : Below V6.heap.size V6 (V6.alloc (.cells #[bv (m.toNat : Int)] 5)) := below_al _ _
  have hin7 : In (V6.alloc (.cells #[bv (m.toNat : Int)] 5)) (some ⟨V6.heap.size, 0, none⟩) 1 1 [m] := in_new V6 5 [m] (by simp)
  obtain ⟨r7, hr7⟩ : ∃ r, V6.heap.size = r := ⟨_, rfl⟩
  obtain ⟨V7, hV7⟩ : ∃ V, V6.alloc (.cells #[bv (m.toNat : Int)] 5) = V := ⟨_, rfl⟩
  rw [hr7, hV7] at hin7
  rw [hV7] at hb7
  rw [hr7, hV7]
  have H7 : Hid (Own 5 r V7 (.slice a6 (ptB p).length c6) (ptB p) ∧ Below V2.heap.size V2 V7 ∧ In V7 (some ⟨r7, 0, none⟩) 1 1 [m] ∧ r ≤ V7.heap.size) := ⟨ownsRow_below H6.out.1 hb7, below_tr H6.out.2.1 hb7, hin7, by have := hb7.size; have := H6.out; omega⟩
  clear hbk hb7 hin7 hr7 hV7
  go_wp2_with (with_reducible change wpList _ _ _ ({ dst := some 58, op := _, type := _, pos := _, after := _, guard := _ } :: _) _ _; refine Hid.out ?_)
  show wpList _ _ _ _ _ _
  refine wpList_append_in V7 rfl (.tmp 55) (.tmp 57) 36 rfl r 5 i0 Try.underlying36 HI5.out.1 HI5.out.2.1 HI5.out.2.2.1 HI5.out.2.2.2 (.slice a6 (ptB p).length c6) (ptB p) (ptB p).length rfl rfl H7.out.1 (some ⟨r7, 0, none⟩) 1 1 [m] rfl H7.out.2.2.1 (by have := H2.out; omega) H7.out.2.2.2 ?_
  intro v8 V8 ho8 hg8
  obtain ⟨a8, c8, rfl, hin8, _⟩ := own_in ho8 (by have := H2.out; rw [List.length_append]; simp; omega)
  have hlen8 : (ptB p ++ [m]).length = n + 1 := by rw [List.length_append, H2.out.2.2.2.2.2.1]; rfl
  rw [hlen8] at hin8 ⊢
  have H8 : Hid (In V8 a8 (n + 1) c8 (ptB p ++ [m]) ∧ Below V2.heap.size V2 V8) := by
    refine ⟨hin8, H7.out.2.1.trans ?_⟩
    have hf : Fk [5] r V7 V8 := fk_own H7.out.1 hg8 (Nat.le_refl _) H7.out.2.2.2 (by simp)
    exact hf.below.mono (by have := H6.out; omega)
  clear ho8 hg8 hin8 H7 H6 hlen8
  go_wp2_with fail
  refine (decode16 _ _ _ _ V8 H8.out.1).mono ?_
  intro e V9 hdp
  obtain ⟨hb9, rfl⟩ := dp_more H2.out.1 H2.out.2.2.1 hdp
  obtain ⟨d9, hd9⟩ : ∃ d, V9.heap.size = d := ⟨_, rfl⟩
  have H9 : Hid (Below V2.heap.size V2 V9) := below_tr H8.out.2 hb9
  clear hdp hb9 H8
  go_wp2_with (with_reducible change wpList _ _ _ ({ dst := none, op := Op.store 25 _ _, type := _, pos := _, after := _, guard := _ } :: _) _ _; refine Hid.out ?_)
  show wpList _ _ _ _ _ _
  refine wpList_store_blk rfl 25 (.tmp 11) (.tmp 60) rfl d9 0 25 p00.cells p00.cells rfl rfl (by rw [← hd9]; exact Blk.new V9 _ _) (Nat.le_refl _) (info25 p00) (PV.one _) ?_
  intro Va hx hgs
  have Ha : Hid (Below V2.heap.size V2 Va) := by
    have hb : Below V9.heap.size V9 Va := below_gr (below_al V9 _) hgs.out (by omega)
    exact below_tr H9.out hb
  clear hx hgs hd9 H9
  go_wp2_with fail
  refine (lives_is Va).mono ?_
  rintro e Vb ⟨rfl, hbb⟩
  have HF : Hid (Below w.heap.size w Vb) := below_tr H2.out.2.1 (below_tr Ha.out hbb)
  clear hbb
  go_wp2
  go_ret
  exact ⟨rfl, HF.out⟩
end Go.Proofs.Ytgdecjacbkicmaa.Oct
