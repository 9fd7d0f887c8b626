/-
  Layer 3 (mac): 'Check', and the law on it, walked.
-/
import Derived.Test.YtjeahlfmapacfaaDoorTagAll
import Derived.Test.YtjeahlfmapacfaaDoorEqual
namespace Go.Proofs.YtjeahlfmapacfaaDoor.Oct
open Go.RowKit Sha

theorem below_drewN {B : Nat} {w w' : World} (h : Below B w w') (k : Nat) : Below B w (w'.drewN k) := ⟨h.os, h.tape, h.output, h.size, h.block⟩

set_option maxHeartbeats 1000000 in
set_option maxRecDepth 100000 in
theorem check_is (key msg tag T : List UInt8) (r : Bool) (hT : tagOf key msg = T) (hres : decide (T = tag) = r) (a b c : Option Addr) (n m p cp cq cr : Nat) (w : World) (hk : KT w) (hs : ST w) (hl : In w a n cp key) (hr : In w b m cq msg) (ht : In w c p cr tag) (hn : n ≤ 20000) (hm : m ≤ 20000) :
    Calls Tryd.prog 41 #[.slice a n cp, .slice b m cq, .slice c p cr] w fun e w' => e = .returned (.bool r) ∧ Hid (Below w.heap.size w w') := by
  have HK : Hid (KT w) := hk
  have HS : Hid (ST w) := hs
  have HL : Hid (In w a n cp key) := hl
  have HR : Hid (In w b m cq msg) := hr
  have HTG : Hid (In w c p cr tag) := ht
  have HN : Hid (n ≤ 20000) := hn
  have HM : Hid (m ≤ 20000) := hm
  have HT : Hid (tagOf key msg = T) := hT
  have HRES : Hid (decide (T = tag) = r) := hres
  have HTL : Hid (T.length = 32) := by show _ = _; rw [← hT]; exact tagOf_len _ _
  have HUT : Hid ((U T).length = 32) := by show _ = _; rw [U_length]; exact HTL.out
  have h25 := slice25
  clear hk hs hl hr ht hn hm hT hres
  go_enter Tryd.func41, Tryd.ntmps41
  go_wp2_with fail
  refine (tag_is key msg T HT.out a b n m cp cq w HK.out HS.out HL.out HR.out (by have := HN.out; omega) (by have := HM.out; omega)).mono ?_
  rintro e w1 ⟨rfl, HB1⟩
  go_wp2_with (first
    | (with_reducible change wpList _ _ _ ({ dst := none, op := Op.store 67 _ _, type := _, pos := _, after := _, guard := _ } :: _) _ _
       refine wpList_store_blk rfl 67 (.tmp 7) (.tmp 10) rfl w1.heap.size 0 67 (zb 32) (U T) rfl rfl (Blk.new w1 _ 67) (by rw [HUT.out, zb_length]; omega) (by rw [size25, HUT.out]) (U_one _) ?_
       intro w2 hB2 hG2
       have H2 : Hid (Blk w2 w1.heap.size 67 (U T) ∧ Below w1.heap.size w1 w2) := new25 HUT.out hB2.out hG2.out
       clear hB2 hG2)
    | fail)
  have HBW2 : Hid (Below w.heap.size w w2) := HB1.out.trans (H2.out.2.mono HB1.out.size)
  refine (equal_is T tag (some ⟨w1.heap.size, 0, none⟩) c 32 p 32 cr w2 (in25 HTL.out H2.out.1) (HTG.out.below HBW2.out)).mono ?_
  rintro e w3 ⟨rfl, k, rfl⟩
  rw [HRES.out]
  go_wp2
  go_ret
  exact ⟨rfl, below_drewN HBW2.out k⟩

theorem slice25_31 (b : Nat) (W : World) : (Instr.sliceAt 67 (.pointer (some ⟨b, 0, none⟩)) none (some (.int .i64 31)) none).run Tryd.prog W = .ok (.slice (some ⟨b, 0, none⟩) 31 32) W := by
  obtain ⟨i, hi, -⟩ := Option.map_eq_some_iff.1 size5
  simp [Instr.sliceAt, Instr.sureAddr, run_underlying Tryd.underlying67, Instr.sliceBounds, Instr.sliceBound, asIntOf, sizeOf, typeInfo, hi, Addr.add_lit]

/-- an append behind bytes that have no room, as a step of a region that draws -/
theorem step_append_full {P : Program} (w : World) {y : Nat → Option Bool} {o : Oper} {a : Act} {K : Act → World → Prop} {Q : Exit → Act → World → Prop} {E : Prop} (hw : Region.wanted o y = true) (s x : Operand) (t : TypeId)
    (ho : o.op = .call { callee := .builtin .append, args := #[s, x], argTypes := #[t, t] })
    (e : TypeId) (i : TypeInfo) (ht : P.underlying t = some (.slice e)) (hi : P.info? e = some i) (hz : i.zero = some (.int .u8 0)) (hsize : i.size = 1) (hby : i.bytes = 1)
    (b n cap : Nat) (l r : List UInt8) (hs : a.eval s = .slice (some ⟨b, 0, none⟩) n cap) (hin : In w (some ⟨b, 0, none⟩) n cap l)
    (ad : Addr) (m c : Nat) (hx : a.eval x = .slice (some ad) m c) (hr : In w (some ad) m c r) (hm : n + m ≤ 140737488355328) (hfull : cap < n + m)
    (h : ∀ a' c' w', Hid (In w' a' (n + m) c' (l ++ r)) → Hid (Below w.heap.size w w') → K (a.put o.dst (.slice a' (n + m) c')) w') : if Region.wanted o y = true then Oper.wp P o a w K Q else E := by
  rw [if_pos hw]
  have hl := hin.1
  have hrl := hr.1
  have holds : ∀ j u, (U l)[j]? = some u → w.cell? ⟨b, 0 + j, none⟩ = some u := by
    intro j u hj
    have hlt : j < l.length := by have := (List.getElem?_eq_some_iff.1 hj).1; rwa [U_length] at this
    obtain ⟨b', off', e1, _, e3⟩ := hin.2.2.2.2 (by omega)
    simp only [Option.some.injEq, Addr.mk.injEq, and_true] at e1
    obtain ⟨rfl, rfl⟩ := e1
    rw [U_get l j hlt] at hj
    rw [e3 j l[j] (List.getElem?_eq_getElem hlt)]
    exact hj
  have hnews : ∀ j u, (U r)[j]? = some u → w.cell? (ad.add j) = some u := by
    intro j u hj
    have hp : 0 < (U r).length := by have := (List.getElem?_eq_some_iff.1 hj).1; omega
    obtain ⟨ad', e1, e2⟩ := cells_of_in hr hp
    obtain rfl := Option.some.inj e1
    exact e2 j u hj
  obtain ⟨v', w', hrun, r1, r2⟩ := run_append_arg_grows (P := P) w t o.type e i (.int .u8 0) 1 1 ht hi hz hsize hby rfl (by omega) ⟨b, 0, none⟩ n cap (U l) (by rw [U_length]; omega) (fun j u hj => by rw [Addr.add_lit]; exact holds j u hj) ad m c (U r) (by rw [U_length]; omega) hnews (by omega) (by unfold maxLen; omega) (by omega)
  unfold Oper.wp
  simp [execOp, ho, resolve, invoke, builtin, hs, hx, hrun, Result.andThen]
  have hown : Own e w.heap.size w' v' (l ++ r) := by
    show w'.ownsRow w.heap.size e 1 v' (l ++ r).length (U (l ++ r))
    rw [List.length_append, U_append, hl, hrl]
    exact r1
  obtain ⟨a', c', hv, hin', -⟩ := own_in hown (by rw [List.length_append]; omega)
  rw [List.length_append, hl, hrl] at hv hin'
  subst hv
  exact h _ _ _ hin' ((Below.refl _ w).grown r2 (Nat.le_refl _) (by intro k hk; cases hk))

theorem ne_take {T : List UInt8} (h : T.length = 32) : decide (T = T.take 31) = false := by
  rw [decide_eq_false_iff_not]
  intro e
  have := congrArg List.length e
  rw [List.length_take, h] at this
  omega
theorem ne_more {T : List UInt8} : decide (T = T ++ [0]) = false := by
  rw [decide_eq_false_iff_not]
  intro e
  have := congrArg List.length e
  rw [List.length_append] at this
  simp at this
theorem in_take {w : World} {b : Nat} {T : List UInt8} (h : In w (some ⟨b, 0, none⟩) 32 32 T) : In w (some ⟨b, 0, none⟩) 31 32 (T.take 31) := by
  obtain ⟨h1, h2, h3, h4, h5⟩ := h
  refine ⟨by rw [List.length_take, h1]; rfl, by omega, by omega, by simp, fun _ => ?_⟩
  obtain ⟨b', off', e1, e2, e3⟩ := h5 (by omega)
  refine ⟨b', off', e1, e2, fun i c hc => e3 i c ?_⟩
  rw [List.getElem?_take] at hc
  split at hc
  · exact hc
  · cases hc
#print axioms check_is
end Go.Proofs.YtjeahlfmapacfaaDoor.Oct
