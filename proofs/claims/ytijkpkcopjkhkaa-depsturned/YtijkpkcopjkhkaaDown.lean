/-
  Layer 12 (deps): the steps from items to what they need.
-/
import Derived.Test.YtijkpkcopjkhkaaSteps
namespace Go.Proofs.Ytijkpkcopjkhkaa.Oct
open Go.RowKit

section
variable {ops : Array Oper} {rest : List Oper} {o : Oper} {a : Act} {w : World} {Q : Exit → Act → World → Prop}
theorem wpList_mentry (hg : o.guard = none) (m x : Operand) (hop : o.op = Op.mapEntry 48 m x) (b B : Nat) (es : List Ent) (ms : List (Hs × List Hs)) (h : Hs) (hm : a.eval m = .map (some b)) (hx : a.eval x = .agg (U h).toArray) (hs : StE w b B es ms) (hl : h.length = 32)
    (hK : ∀ (w1 : World) (i : Nat) (e : Ent) (es1 : List Ent) (xs : List Hs) (ms1 : List (Hs × List Hs)), StE w1 b B es1 ms1 → es1[i]? = some e → ms1[i]? = some (h, xs) → e.k = h → (∀ ys, appS ms h ys = ms1.map (fun m => if m.1 = h then (m.1, m.2 ++ ys) else m)) → w.grownBy w1 (some b) → w1.heap.size = w.heap.size →
      wpList Try.prog ops Q rest (a.put o.dst (.tuple #[e.v, .int .i64 (e.b : Int)])) w1) : wpList Try.prog ops Q (o :: rest) a w := by
  refine wpList_plain hg fun K' hK' => ?_
  obtain ⟨w1, i, e, es1, xs, ms1, hrun, r1, r2, r3, r4, r5, r6, r7⟩ := hs.entry hl
  unfold Oper.wp
  simp [execOp, hop, hm, hx, hrun, Result.andThen]
  exact hK' _ _ (hK w1 i e es1 xs ms1 r1 r2 r3 r4 r5 r6 r7)
theorem wpList_mstore (hg : o.guard = none) (m s v : Operand) (hop : o.op = Op.entryStore 48 m s v) {w1 : World} {b B i : Nat} {es1 : List Ent} {ms1 : List (Hs × List Hs)} {h : Hs} {e : Ent} {xs ys : List Hs} {v' : Value} (hm : a.eval m = .map (some b)) (hst : a.eval s = .int .i64 (e.b : Int)) (hvv : a.eval v = v')
    (hs : StE w1 b B es1 ms1) (hee : es1[i]? = some e) (hmm : ms1[i]? = some (h, xs)) (hke : e.k = h) (hys : ∀ y ∈ ys, y.length = 32)
    (ho : w.ownsRow B 34 32 v' (xs.length + ys.length) (UU (xs ++ ys))) (hg1 : w1.grownBy w e.v.ownBlock) (hf : v'.ownBlock = e.v.ownBlock ∨ v'.ownBlock = some w1.heap.size)
    (hK : ∀ w3, StM w3 b B (ms1.map (fun m => if m.1 = h then (m.1, m.2 ++ ys) else m)) → w.grownBy w3 (some b) → w3.heap.size = w.heap.size → wpList Try.prog ops Q rest (a.put o.dst undef) w3) : wpList Try.prog ops Q (o :: rest) a w := by
  refine wpList_plain hg fun K' hK' => ?_
  obtain ⟨w3, hrun, r1, r2, r3⟩ := hs.store hee hmm hke hys ho hg1 hf
  unfold Oper.wp
  simp [execOp, hop, hm, hst, hvv, hrun, Result.andThen]
  exact hK' _ _ (hK w3 r1 r2 r3)
theorem wpList_app (hg : o.guard = none) (s x : Operand) (hop : o.op = Op.call { callee := Callee.builtin Builtin.append, args := #[s, x], argTypes := #[26, 26] }) (B : Nat) (v : Value) (n : Nat) (hs : List Hs) (oa : Option Addr) (m c : Nat) (xs : List Hs) (hv : a.eval s = v) (hx : a.eval x = .slice oa m c)
    (hown : w.ownsRow B 34 32 v n (UU hs)) (hxs : HsR w oa m xs) (hn : n + m ≤ 1000000) (hB : B ≤ w.heap.size)
    (hK : ∀ v' w', w'.ownsRow B 34 32 v' (n + m) (UU (hs ++ xs)) → w.grownBy w' v.ownBlock → (v'.ownBlock = v.ownBlock ∨ v'.ownBlock = some w.heap.size) → wpList Try.prog ops Q rest (a.put o.dst v') w') : wpList Try.prog ops Q (o :: rest) a w := by
  refine wpList_plain hg fun K' hK' => ?_
  obtain ⟨v', w', hrun, r1, r2, r3⟩ := run_app w B o.type v n hs oa m c xs hown hxs hn hB
  unfold Oper.wp execOp
  simp only [hop, resolve, invoke, builtin, Sem.run_bind, Sem.run_pure, Result.andThen_ok, List.map_toArray, List.map_cons, List.map_nil, hv, hx, hrun]
  exact hK' _ _ (hK v' w' r1 r2 r3)
end
#print axioms wpList_app

def downS (l : List It) : List (Hs × List Hs) := l.foldl (fun ms x => appS ms x.name x.deps) []
theorem downS_take (l : List It) (i : Nat) (x : It) (h : l[i]? = some x) : downS (l.take (i + 1)) = appS (downS (l.take i)) x.name x.deps := by
  unfold downS
  rw [List.take_add_one, h, List.foldl_append]; rfl
theorem appS_bound {ms : List (Hs × List Hs)} {h : Hs} {xs : List Hs} {N : Nat} (hb : ∀ m ∈ ms, m.2.length ≤ N) : ∀ m ∈ appS ms h xs, m.2.length ≤ N + xs.length := by
  intro m hm
  unfold appS at hm
  split at hm
  · obtain ⟨m0, h0, rfl⟩ := List.mem_map.1 hm
    have := hb m0 h0
    split
    · simp; omega
    · omega
  · rcases List.mem_append.1 hm with h1 | h1
    · have := hb m h1; omega
    · simp at h1; subst h1; simp
theorem downS_bound (l : List It) : ∀ i, ∀ m ∈ downS (l.take i), m.2.length ≤ many (l.take i)
  | 0 => by simp [downS]
  | i + 1 => by
    cases h : l[i]? with
    | none => 
      have : l.take (i + 1) = l.take i := by rw [List.take_add_one, h]; simp
      rw [this]; exact downS_bound l i
    | some x =>
      rw [downS_take l i x h, many_take l i x h]
      exact appS_bound (downS_bound l i)
theorem many_le (l : List It) (i : Nat) : many (l.take i) ≤ many l := by
  have h : many l = many (l.take i) + many (l.drop i) := by
    unfold many
    rw [← List.sum_append, ← List.map_append, List.take_append_drop]
  omega
theorem dep_le (l : List It) (i : Nat) (x : It) (h : l[i]? = some x) : x.deps.length ≤ many l := by
  have h1 := many_take l i x h
  have h2 := many_le l (i + 1)
  omega
/-- what the entry of a key has is no more than all that was put in -/
theorem entry_len {ms ms1 : List (Hs × List Hs)} {h : Hs} {xs : List Hs} {k N : Nat} (hb : ∀ m ∈ ms, m.2.length ≤ N) (he : ∀ ys, appS ms h ys = ms1.map (fun m => if m.1 = h then (m.1, m.2 ++ ys) else m)) (hk : ms1[k]? = some (h, xs)) : xs.length ≤ N := by
  have h1 := appS_bound (h := h) (xs := []) hb
  rw [he []] at h1
  have := h1 (h, xs) (List.mem_map.2 ⟨(h, xs), List.mem_of_getElem? hk, by simp⟩)
  simpa using this
theorem below_row {w w1 w2 : World} {B n : Nat} {v : Value} {xs : List Value} (hb : Below w.heap.size w w1) (hg : w1.grownBy w2 v.ownBlock) (ho : w1.ownsRow B 34 32 v n xs) (hB : w.heap.size ≤ B := by exact Nat.le_refl _) : Below w.heap.size w w2 :=
  ⟨hg.os.trans hb.os, hg.tape.trans hb.tape, hg.output.trans hb.output, Nat.le_trans hb.size hg.size, fun k hk => (hg.block k (Nat.lt_of_lt_of_le hk hb.size) (fun e => by have := (ho.lt k e.symm).1; omega)).trans (hb.block k hk)⟩
def StepsP (w : World) (ms : List (Hs × List Hs)) (e : Ending) (w' : World) : Prop := ∃ b, e = .returned (.map (some b)) ∧ Hid (StM w' b w.heap.size ms ∧ w.heap.size ≤ b) ∧ Hid (Below w.heap.size w w')
theorem run_make48 (W : World) : (Instr.makeMap 48 none).run Try.prog W = .ok (.map (some W.heap.size)) (W.alloc (.map #[] 0)) := by
  simp [Instr.makeMap]

set_option maxRecDepth 100000 in
set_option maxHeartbeats 1000000 in
theorem down_is (w : World) (a : Option Addr) (len cap : Nat) (l : List It) (h : Its w a len l) (hn : len ≤ 100000) (hm : many l ≤ 100000) :
    Calls Try.prog 29 #[.slice a len cap] w (StepsP w (downS l)) := by
  have HA : Hid (Its w a len l) := h
  have HM : Hid (many l ≤ 100000) := hm
  have q5 : (len : Int) ≤ 100000 := by omega
  obtain ⟨Z, hZl, hZ⟩ := zero36
  have HZ : Hid (Z.length = 33) := hZl
  clear h hn hZl hm
  have hmk := run_make48
  go_enter Try.func29, Try.ntmps29
  go_wp2
  clear hmk
  obtain ⟨W, hW⟩ : ∃ W, w.alloc (.map #[] 0) = W := ⟨_, rfl⟩
  have HB0 : Hid (Below w.heap.size w W) := by show Below _ _ _; rw [← hW]; exact (Below.refl _ w).alloc (Nat.le_refl _) _
  have HK0 : Hid (StM W w.heap.size w.heap.size []) := by show StM _ _ _ _; rw [← hW]; exact StM.made w _
  rw [hW]
  clear hW
  go_loopw [9] (fun u wr => ∃ i : Nat, u = .int .i64 (i : Int) ∧ Hid (i ≤ len) ∧ Hid (Below w.heap.size w wr ∧ StM wr w.heap.size w.heap.size (downS (l.take i)))) (fun u _ => len - (intOf u).toNat)
  case atStart => exact ⟨0, rfl, Nat.zero_le _, ⟨HB0.out, HK0.out⟩⟩
  case round =>
    obtain ⟨i, rfl, HI, HB⟩ := hrel
    by_cases hi : i < len
    · obtain ⟨x, hx⟩ : ∃ x, l[i]? = some x := ⟨_, List.getElem?_eq_getElem (by rw [HA.out.1]; exact hi)⟩
      obtain ⟨b, off, rfl, hb, hel⟩ := HA.out.2 (by omega)
      have HX : Hid (i < len ∧ l[i]? = some x ∧ x.name.length = 32) := ⟨hi, hx, (hel i x hx).1⟩
      have HRA : Hid (wr.rangeAt b (off + i * 33) x.cells) := rangeAt_same (hel i x hx).2.1 (HB.out.1.block b hb)
      have HDW : Hid (HsR w x.a x.n x.deps) := (hel i x hx).2.2.1
      have q1 : (i : Int) < (len : Int) := by omega
      have hdp := cells_dep wr x (hel i x hx).1
      obtain ⟨es, hes⟩ := HB.out.2
      have HE : Hid (StE (wr.alloc (.cells x.cells.toArray 36)) w.heap.size w.heap.size es (downS (l.take i))) := hes.below ((Below.refl _ wr).alloc (Nat.le_refl _) _)
      clear hel hx hi hes
      go_wp2_with (first
        | (with_reducible change wpList _ _ _ ({ dst := some 12, op := _, type := _, pos := _, after := _, guard := _ } :: _) _ _
           refine wpList_load_mid rfl 36 (.tmp 11) rfl b (off + i * 33) rfl x.cells _ HRA.out Try.underlying36 rfl (info36 x HX.out.2.2) ?_)
        | (with_reducible change wpList _ _ _ ({ dst := none, op := Op.store 36 _ _, type := _, pos := _, after := _, guard := _ } :: _) _ _
           refine wpList_store_fresh rfl 36 (.tmp 5) (.tmp 12) rfl Z x.cells 36 rfl rfl (by rw [x.cells_length HX.out.2.2, HZ.out]) (info36 x HX.out.2.2) (cells_one x) ?_)
        | (with_reducible change wpList _ _ _ ({ dst := some 15, op := _, type := _, pos := _, after := _, guard := _ } :: _) _ _
           refine wpList_load_mid rfl 34 (.tmp 14) rfl wr.heap.size 0 rfl (U x.name) _ (cells_name wr x) Try.underlying34 rfl (info34 x.name HX.out.2.2) ?_)
        | (with_reducible change wpList _ _ _ ({ dst := some 19, op := _, type := _, pos := _, after := _, guard := _ } :: _) _ _
           refine wpList_mentry rfl (.tmp 13) (.tmp 15) rfl w.heap.size w.heap.size es _ x.name rfl rfl HE.out HX.out.2.2 ?_
           intro w1 k e es1 xs ms1 r1 r2 r3 r4 r5 r6 r7
           have HR : Hid (StE w1 w.heap.size w.heap.size es1 ms1 ∧ es1[k]? = some e ∧ ms1[k]? = some (x.name, xs) ∧ e.k = x.name ∧ (∀ ys, appS (downS (l.take i)) x.name ys = ms1.map (fun m => if m.1 = x.name then (m.1, m.2 ++ ys) else m)) ∧ (wr.alloc (.cells x.cells.toArray 36)).grownBy w1 (some w.heap.size)) := ⟨r1, r2, r3, r4, r5, r6⟩
           have HXS : Hid (xs.length + x.n ≤ 1000000 ∧ HsR w1 x.a x.n x.deps ∧ Below w.heap.size w w1) := (by
             have hb1 : Below w.heap.size w w1 := below_grownBy (HB.out.1.alloc HB.out.1.size _) r6 (Nat.le_refl _) (Nat.le_refl _)
             have h1 := entry_len (downS_bound l i) r5 r3
             have h2 := many_le l i
             have h3 := dep_le l i x HX.out.2.1
             have h4 := HDW.out.1
             have h5 := HM.out
             exact ⟨by omega, HDW.out.below hb1, hb1⟩)
           clear r1 r2 r3 r4 r5 r6 r7)
        | (with_reducible change wpList _ _ _ ({ dst := some 20, op := _, type := _, pos := _, after := _, guard := _ } :: _) _ _
           refine wpList_app rfl (.tmp 16) (.tmp 18) rfl w.heap.size e.v xs.length xs x.a x.n x.c x.deps rfl rfl (HR.out.1.rows k e _ HR.out.2.1 HR.out.2.2.1) HXS.out.2.1 HXS.out.1 HXS.out.2.2.size ?_
           intro v' w2 r1 r2 r3
           have HV : Hid (w2.ownsRow w.heap.size 34 32 v' (xs.length + x.deps.length) (UU (xs ++ x.deps)) ∧ w1.grownBy w2 e.v.ownBlock ∧ (v'.ownBlock = e.v.ownBlock ∨ v'.ownBlock = some w1.heap.size)) := ⟨by rw [HDW.out.1]; exact r1, r2, r3⟩
           clear r1 r2 r3)
        | (with_reducible change wpList _ _ _ ({ dst := none, op := Op.entryStore _ _ _ _, type := _, pos := _, after := _, guard := _ } :: _) _ _
           refine wpList_mstore rfl (.tmp 13) (.tmp 21) (.tmp 20) rfl rfl rfl rfl HR.out.1 HR.out.2.1 HR.out.2.2.1 HR.out.2.2.2.1 HDW.out.2.1 HV.out.1 HV.out.2.1 HV.out.2.2 ?_
           intro w3 r1 r2 r3))
      refine ⟨⟨i + 1, by simp, HX.out.1, ?_, by rw [downS_take l i x HX.out.2.1, HR.out.2.2.2.2.1]; exact r1⟩, ?_⟩
      · refine below_grownBy (a := w2) ?_ r2 (Nat.le_refl _) (Nat.le_refl _)
        exact below_row HXS.out.2.2 HV.out.2.1 (HR.out.1.rows k e _ HR.out.2.1 HR.out.2.2.1)
      · have := HX.out.1; simp [intOf]; omega
    · have q1 : ¬ (i : Int) < (len : Int) := by omega
      go_wp2
      go_ret
      refine ⟨w.heap.size, rfl, ⟨?_, Nat.le_refl _⟩, HB.out.1⟩
      have := HB.out.2
      rw [List.take_of_length_le (by rw [HA.out.1]; omega)] at this
      exact this
#print axioms down_is
end Go.Proofs.Ytijkpkcopjkhkaa.Oct
