/-
  Layer 11 (lines): few.
  Layer 11 (lines): what changes keep, plain.
  Layer 11 (lines): ref.Same: what is told is the same.
  Layer 11 (lines): ref.Same.
  Layer 11 (lines): copies of ids and texts.
-/
import Derived.Test.YtjcihaohpbmogaaQeAP
import Derived.Test.YtjcihaohpbmogaaQeBM
/- Layer 11 (lines): few. -/
namespace Go.Proofs.Ytjcihaohpbmogaa.Oct
open Go.RowKit
set_option maxRecDepth 100000
set_option linter.unusedSimpArgs false
set_option linter.unusedVariables false
set_option linter.unusedSectionVars false

def cnt (a : AV) : Nat := 1 + a.inn + a.tn
def cnts (l : List AV) : Nat := (l.map cnt).sum
theorem cnts_take {l : List AV} {i : Nat} {x : AV} (h : l[i]? = some x) : cnts (l.take (i + 1)) = cnts (l.take i) + cnt x := by
  unfold cnts
  rw [List.take_add_one, h, List.map_append, List.sum_append]
  simp
theorem cnts_le (l : List AV) (i : Nat) : cnts (l.take i) ≤ cnts l := by
  have h : cnts l = cnts (l.take i) + cnts (l.drop i) := by
    unfold cnts
    rw [← List.sum_append, ← List.map_append, List.take_append_drop]
  omega
theorem zval38 : ∃ Z : List Value, (∀ W, (zeroValue 38).run Try.prog W = .ok (.agg Z.toArray) W) ∧ Hid (Z.length = 101) := ⟨AV.cells ⟨0, vTop, vTop, none, 0, 0, [], none, 0, 0, [], z32⟩, fun W => by kernel_rfl, by rfl⟩
set_option maxHeartbeats 2000000 in
theorem few_is (w : World) (a : Option Addr) (n c : Nat) (acts : List AV) (hr : ActsR w a n acts) (hn : n ≤ 140737488355328) (B : Bool) (hB : decide (cnts acts ≤ 120) = B) : Calls Try.prog 9 #[.slice a n c] w fun e w' => e = .returned (.bool B) ∧ Below w.heap.size w w' := by
  have HS : Hid (ActsR w a n acts ∧ decide (cnts acts ≤ 120) = B) := ⟨hr, hB⟩
  have q0 : (n : Int) ≤ 140737488355328 := by omega
  obtain ⟨Z, hZ, HZ⟩ := zval38
  clear hr hB hn
  go_enter Try.func9, Try.ntmps9
  go_wp2
  go_loopw [8, 3] (fun u v wr => ∃ i : Nat, u = iv (i : Int) ∧ v = iv (cnts (acts.take i) : Int) ∧ Hid (i ≤ n ∧ Below w.heap.size w wr ∧ cnts (acts.take i) ≤ 120)) (fun u _ _ => n - (intOf u).toNat)
  case atStart => exact ⟨0, rfl, rfl, Nat.zero_le _, Below.refl _ _, by simp [cnts]⟩
  case round =>
    obtain ⟨V, hV⟩ : ∃ V, V = wr := ⟨_, rfl⟩
    subst hV
    obtain ⟨i, rfl, rfl, HI⟩ := hrel
    by_cases hi : i < n
    · obtain ⟨x, hx⟩ : ∃ x, acts[i]? = some x := ⟨_, List.getElem?_eq_getElem (by rw [HS.out.1.1]; exact hi)⟩
      have har := HS.out.1.2.1 x (List.mem_of_getElem? hx)
      have hlen := AV.len har.1.1 har.2.1.1 har.2.2.2.2.1
      have HX : Hid (i < n ∧ acts[i]? = some x ∧ x.up.ok ∧ x.dn.ok ∧ x.cells.length = 101 ∧ x.inn ≤ 140737488355328 ∧ x.tn ≤ 140737488355328) := ⟨hi, hx, har.1.1, har.2.1.1, hlen, har.2.2.2.2.2.2.2.1, har.2.2.2.2.2.2.2.2.2.2.1⟩
      obtain ⟨gb, off, rfl, hg, hel⟩ := HS.out.1.2.2 (by omega)
      have HR : Hid (V.rangeAt gb (off + i * 101) x.cells) := rangeAt_same (hel i x hx) (HI.out.2.1.block gb hg)
      have q1 : (i : Int) < (n : Int) := by omega
      clear har hlen hel hx hi hg
      go_wp2_with (first
        | (with_reducible change wpList _ _ _ ({ dst := some 11, op := _, type := _, pos := _, after := _, guard := _ } :: _) _ _
           refine wpList_load_want rfl 38 (.tmp 10) rfl gb (off + i * 101) rfl x.cells _ HR.out Try.underlying38 rfl (info38 HX.out.2.2.2.2.1) ?_)
        | (with_reducible change wpList _ _ _ ({ dst := none, op := Op.store 38 _ _, type := _, pos := _, after := _, guard := _ } :: _) _ _
           refine Hid.out ?_)
        | fail)
      show wpList _ _ _ _ _ _
      refine wpList_store_fresh rfl 38 (.tmp 5) (.tmp 11) rfl Z x.cells 38 rfl rfl (by rw [HX.out.2.2.2.2.1, HZ.out]) (info38 HX.out.2.2.2.2.1) (AV.one x) ?_
      obtain ⟨U1, hU1⟩ : ∃ W, V.alloc (.cells x.cells.toArray 38) = W := ⟨_, rfl⟩
      obtain ⟨d5, hd5⟩ : ∃ g, V.heap.size = g := ⟨_, rfl⟩
      have S1 : Hid (Below w.heap.size w U1 ∧ Blk U1 d5 38 x.cells) := by
        have hbl : Below V.heap.size V U1 := by rw [← hU1]; exact below_al _ _
        exact ⟨below_tr HI.out.2.1 hbl, by rw [← hU1, ← hd5]; exact Blk.new V _ _⟩
      rw [hU1, hd5]
      clear hU1 hd5 HR
      have hrg := AV.ranges S1.out.2 HX.out.2.2.1 HX.out.2.2.2.1
      have c67 : U1.cell? ⟨d5, 67, none⟩ = some (.slice x.ia x.inn x.ic) := hrg.2.2.2.1
      have c68 : U1.cell? ⟨d5, 68, none⟩ = some (.slice x.ta x.tn x.tc) := hrg.2.2.2.2.1
      obtain ⟨s, hs⟩ : ∃ s, cnts (acts.take i) = s := ⟨_, rfl⟩
      have HSS : Hid (cnts (acts.take (i + 1)) = s + cnt x ∧ s ≤ 120) := ⟨by rw [cnts_take HX.out.2.1, hs], by rw [← hs]; exact HI.out.2.2⟩
      have HSI := hid_of hs
      rw [hs]
      have q2 : (s : Int) ≤ 120 := by have := HSS.out.2; omega
      have q3 : (x.inn : Int) ≤ 140737488355328 := by have := HX.out.2.2.2.2.2.1; omega
      have q4 : (x.tn : Int) ≤ 140737488355328 := by have := HX.out.2.2.2.2.2.2; omega
      clear hrg hs
      by_cases hc : s + cnt x ≤ 120
      · have q5 : ¬ (120 : Int) < (s : Int) + (1 + (x.inn : Int) + (x.tn : Int)) := by unfold cnt at hc; omega
        have HN : Hid (i + 1 ≤ n ∧ Below w.heap.size w U1 ∧ cnts (acts.take (i + 1)) ≤ 120) := ⟨HX.out.1, S1.out.1, by rw [HSS.out.1]; exact hc⟩
        have HV : Hid ((cnts (acts.take (i + 1)) : Int) = (s : Int) + (1 + (x.inn : Int) + (x.tn : Int))) := by
          show _ = _
          rw [HSS.out.1]
          unfold cnt
          omega
        clear hc
        go_wp2
        refine ⟨⟨i + 1, by simp, ?_, HN.out⟩, ?_⟩
        · rw [HV.out]
        · have := HX.out.1; simp [intOf]; omega
      · have q5 : (120 : Int) < (s : Int) + (1 + (x.inn : Int) + (x.tn : Int)) := by unfold cnt at hc; omega
        have HF : Hid (B = false) := by
          show _ = _
          rw [← HS.out.2]
          have h1 := cnts_le acts (i + 1)
          rw [HSS.out.1] at h1
          exact decide_eq_false (by omega)
        clear hc
        go_wp2
        go_ret
        exact ⟨by rw [HF.out]; rfl, S1.out.1⟩
    · have q1 : ¬ (i : Int) < (n : Int) := by omega
      obtain rfl : i = n := by have := HI.out.1; omega
      have HF : Hid (B = true) := by
        show _ = _
        rw [← HS.out.2]
        have h1 := HI.out.2.2
        rw [List.take_of_length_le (by rw [HS.out.1.1]; exact Nat.le_refl _)] at h1
        exact decide_eq_true h1
      have HE := hid_of HI.out.2.1
      clear HI hi
      go_wp2
      go_ret
      exact ⟨by rw [HF.out]; rfl, HE.out⟩
end Go.Proofs.Ytjcihaohpbmogaa.Oct

/- Layer 11 (lines): what changes keep, plain. -/
namespace Go.Proofs.Ytjcihaohpbmogaa.Oct
open Go.RowKit
set_option maxRecDepth 100000
set_option linter.unusedSimpArgs false
set_option linter.unusedVariables false
set_option linter.unusedSectionVars false

/-- each line's from is not empty -/
def neP (ps : List PL) : Prop := ∀ q ∈ ps, q.fr ≠ []
/-- no from is longer than k -/
def lnP (k : Nat) (ps : List PL) : Prop := ∀ q ∈ ps, q.fr.length ≤ k
theorem range_getD (ids : List Vx) : (List.range ids.length).map (fun i => ids.getD i vTop) = ids := by
  apply List.ext_getElem?
  intro i
  by_cases hi : i < ids.length
  · rw [List.getElem?_map, List.getElem?_range hi, List.getElem?_eq_getElem hi]
    simp [List.getD_eq_getElem?_getD, List.getElem?_eq_getElem hi]
  · rw [List.getElem?_eq_none (by simpa using hi), List.getElem?_eq_none (by simpa using hi)]
theorem add_keys (ps : List PL) (up dn : Vx) (ids : List Vx) (ts : List BA) : keysP (addP ps up dn ids ts) = keysP ps ++ ids := by
  have h : ∀ q : PL, (if q.v = dn then { q with fr := q.fr ++ [abv up ids ids.length] } else q).v = q.v := fun q => by split <;> rfl
  unfold keysP addP
  rw [List.map_map, List.map_append]
  have e1 : ps.map ((fun q : PL => q.v) ∘ fun q => if q.v = dn then { q with fr := q.fr ++ [abv up ids ids.length] } else q) = ps.map (·.v) := List.map_congr_left fun q _ => h q
  rw [e1, List.map_map]
  congr 1
  refine Eq.trans (List.map_congr_left fun i _ => ?_) (range_getD ids)
  exact h _
theorem turn_keys (f : List Hs → List Hs) (ps : List PL) (v : Vx) : keysP (turnP f ps v) = keysP ps := by
  unfold keysP turnP
  rw [List.map_map]
  refine List.map_congr_left fun q _ => ?_
  show (if q.v = v then { q with kills := f q.kills } else q).v = q.v
  split <;> rfl
theorem turn_mem {f : List Hs → List Hs} {ps : List PL} {v : Vx} {q : PL} (h : q ∈ turnP f ps v) : ∃ q0 ∈ ps, q.v = q0.v ∧ q.fr = q0.fr ∧ q.down = q0.down ∧ q.t = q0.t := by
  unfold turnP at h
  obtain ⟨q0, h0, rfl⟩ := List.mem_map.1 h
  refine ⟨q0, h0, ?_⟩
  split <;> exact ⟨rfl, rfl, rfl, rfl⟩
theorem turn_tied {f : List Hs → List Hs} {ps : List PL} {v : Vx} (h : tiedP ps) : tiedP (turnP f ps v) := by
  refine ⟨by rw [turn_keys]; exact h.1, fun q hq u hu => ?_⟩
  obtain ⟨q0, h0, _, e, _⟩ := turn_mem hq
  rw [turn_keys]
  exact h.2 q0 h0 u (by rw [← e]; exact hu)
theorem turn_ne {f : List Hs → List Hs} {ps : List PL} {v : Vx} (h : neP ps) : neP (turnP f ps v) := fun q hq => by
  obtain ⟨q0, h0, _, e, _⟩ := turn_mem hq
  rw [e]
  exact h q0 h0
theorem turn_ln {f : List Hs → List Hs} {ps : List PL} {v : Vx} {k : Nat} (h : lnP k ps) : lnP k (turnP f ps v) := fun q hq => by
  obtain ⟨q0, h0, _, e, _⟩ := turn_mem hq
  rw [e]
  exact h q0 h0
theorem turn_acy {f : List Hs → List Hs} {ps : List PL} {v : Vx} {F : Vx → Nat} (h : acyP ps F) : acyP (turnP f ps v) F := fun q hq u hu hk => by
  obtain ⟨q0, h0, e1, e, _⟩ := turn_mem hq
  rw [turn_keys] at hk
  rw [e1]
  exact h q0 h0 u (by rw [← e]; exact hu) hk
theorem add_mem {ps : List PL} {up dn : Vx} {ids : List Vx} {ts : List BA} {q : PL} (h : q ∈ addP ps up dn ids ts) : ∃ q0, (q0 ∈ ps ∨ ∃ i < ids.length, q0 = newP up dn ids ts i) ∧ q.v = q0.v ∧ (q.fr = q0.fr ∨ (q0.v = dn ∧ q.fr = q0.fr ++ [abv up ids ids.length])) := by
  unfold addP at h
  obtain ⟨q0, h0, rfl⟩ := List.mem_map.1 h
  refine ⟨q0, ?_, ?_⟩
  · rcases List.mem_append.1 h0 with h1 | h1
    · exact .inl h1
    · obtain ⟨i, hi, rfl⟩ := List.mem_map.1 h1
      exact .inr ⟨i, List.mem_range.1 hi, rfl⟩
  · by_cases hd : q0.v = dn
    · rw [if_pos hd]
      exact ⟨rfl, .inr ⟨hd, rfl⟩⟩
    · rw [if_neg hd]
      exact ⟨rfl, .inl rfl⟩
theorem abv_in {up : Vx} {ids : List Vx} {i : Nat} (hi : i ≤ ids.length) : abv up ids i = up ∨ abv up ids i ∈ ids := by
  cases i with
  | zero => exact .inl rfl
  | succ i =>
    refine .inr ?_
    show ids.getD i vTop ∈ ids
    rw [List.getD_eq_getElem?_getD, List.getElem?_eq_getElem (by omega)]
    exact List.getElem_mem _
theorem add_ne {ps : List PL} {up dn : Vx} {ids : List Vx} {ts : List BA} (h : neP ps) : neP (addP ps up dn ids ts) := fun q hq => by
  obtain ⟨q0, h0, _, e⟩ := add_mem hq
  have h1 : q0.fr ≠ [] := by
    rcases h0 with h0 | ⟨i, _, rfl⟩
    · exact h q0 h0
    · simp [newP]
  rcases e with e | ⟨_, e⟩
  · rw [e]; exact h1
  · rw [e]; simp
theorem add_ln {ps : List PL} {up dn : Vx} {ids : List Vx} {ts : List BA} {k : Nat} (h : lnP k ps) (hk : 1 ≤ k) : lnP (k + 1) (addP ps up dn ids ts) := fun q hq => by
  obtain ⟨q0, h0, _, e⟩ := add_mem hq
  have h1 : q0.fr.length ≤ k := by
    rcases h0 with h0 | ⟨i, _, rfl⟩
    · exact h q0 h0
    · simpa [newP] using hk
  rcases e with e | ⟨_, e⟩
  · rw [e]; omega
  · rw [e]; simp; omega
theorem add_tied {ps : List PL} {up dn : Vx} {ids : List Vx} {ts : List BA} (h : tiedP ps) (hu : up = vTop ∨ up ∈ keysP ps) (hi : vTop ∉ ids) : tiedP (addP ps up dn ids ts) := by
  refine ⟨by rw [add_keys]; simp [h.1, hi], fun q hq u hu2 => ?_⟩
  rw [add_keys]
  obtain ⟨q0, h0, _, e⟩ := add_mem hq
  have ha : ∀ i ≤ ids.length, abv up ids i = vTop ∨ abv up ids i ∈ keysP ps ++ ids := fun i hi => by
    rcases abv_in (up := up) hi with e | e
    · rw [e]
      exact hu.imp id (fun h => List.mem_append.2 (.inl h))
    · exact .inr (List.mem_append.2 (.inr e))
  have h1 : ∀ u ∈ q0.fr, u = vTop ∨ u ∈ keysP ps ++ ids := fun u hu3 => by
    rcases h0 with h0 | ⟨i, hi, rfl⟩
    · exact (h.2 q0 h0 u hu3).imp id (fun h => List.mem_append.2 (.inl h))
    · simp only [newP, List.mem_singleton] at hu3
      rw [hu3]
      exact ha i (by omega)
  rcases e with e | ⟨_, e⟩
  · exact h1 u (by rw [← e]; exact hu2)
  · rw [e] at hu2
    rcases List.mem_append.1 hu2 with h2 | h2
    · exact h1 u h2
    · rw [List.mem_singleton.1 h2]
      exact ha _ (Nat.le_refl _)
end Go.Proofs.Ytjcihaohpbmogaa.Oct

/- Layer 11 (lines): ref.Same: what is told is the same. -/
namespace Go.Proofs.Ytjcihaohpbmogaa.Oct
open Go.RowKit
set_option maxRecDepth 100000
set_option linter.unusedSimpArgs false
set_option linter.unusedVariables false
set_option linter.unusedSectionVars false

theorem fields50 : (Try.prog.fieldsOf 50).toList.map (fun f => (f.name, f.type, f.offset)) = [("Vertex", 34, 0), ("Text", 9, 33), ("Kills", 3, 34)] := by kernel_rfl
theorem part34 (xs : Array Value) (v : Vx) (h : xs.extract 0 33 = v.cells.toArray) (W : World) : (part 34 xs 0).run Try.prog W = .ok (.agg v.cells.toArray) W := by
  have hs : (sizeOf 34).run Try.prog W = .ok 33 W := by kernel_rfl
  have ha : (isAgg 34).run Try.prog W = .ok true W := by simp [isAgg, run_underlying Try.underlying34]
  simp [part, ha, hs, h]
theorem exS (x : Sx) (h : Sk x) : x.cells.toArray.extract 0 33 = x.v.cells.toArray := by
  apply Array.toList_inj.1
  rw [Array.toList_extract, List.extract_eq_take_drop]
  show (x.cells.drop 0).take 33 = _
  unfold Sx.cells
  rw [List.drop_zero, List.take_left' (Vx.len h.1)]
def eqSx (x y : Sx) : Bool := eqVx x.v y.v && (decide (x.t = y.t) && decide (x.k = y.k))
theorem eqSx_iff (x y : Sx) : eqSx x y = true ↔ x = y := by
  unfold eqSx
  simp only [Bool.and_eq_true, decide_eq_true_eq, eqVx_iff]
  cases x; cases y; simp
theorem eqS (k : Nat) (x y : Sx) (hx : Sk x) (hy : Sk y) (W : World) : (Op.equalIn (k + 4) 50 (.agg x.cells.toArray) (.agg y.cells.toArray)).run Try.prog W = .ok (eqSx x y) W := by
  rw [run_equalIn_struct W (k + 3) 50 _ _ (by kernel_rfl) (by kernel_rfl), eqT_is, fields50]
  have p1 := part34 _ _ (exS x hx) W
  have p2 := part34 _ _ (exS y hy) W
  have p3 := fun (e : Sx) (he : Sk e) => part3 9 _ Try.underlying9 rfl e.cells.toArray 33 (.string e.t) (by rw [List.getElem?_toArray]; exact Sx.text he) W
  have p4 := fun (e : Sx) (he : Sk e) => part3 3 _ Try.underlying3 rfl e.cells.toArray 34 (iv (e.k : Int)) (by rw [List.getElem?_toArray]; exact Sx.kn he) W
  have q1 : (Op.equalIn (k + 3) 34 (.agg x.v.cells.toArray) (.agg y.v.cells.toArray)).run Try.prog W = .ok (eqVx x.v y.v) W := eqV k x.v y.v hx.1 hy.1 W
  have q2 : (Op.equalIn (k + 3) 9 (.string x.t) (.string y.t)).run Try.prog W = .ok (decide (x.t = y.t)) W := by
    have h : (ByteArray.toList x.t == ByteArray.toList y.t) = decide (x.t = y.t) := by
      rw [Bool.eq_iff_iff, beq_iff_eq, decide_eq_true_eq]
      exact ⟨fun e => ba_ext (by rw [← toList_d, ← toList_d, e]), fun e => by rw [e]⟩
    rw [← h]
    exact run_equalIn_string (P := Try.prog) (w := W) (k + 2) 9 x.t y.t Try.underlying9
  have q3 : (Op.equalIn (k + 3) 3 (iv (x.k : Int)) (iv (y.k : Int))).run Try.prog W = .ok ((x.k : Int) == (y.k : Int)) W := run_equalIn_int (P := Try.prog) (w := W) (k + 2) 3 .i64 .i64 _ _ Try.underlying3
  have e5 : (eqT (k + 3) x.cells.toArray y.cells.toArray []).run Try.prog W = .ok true W := rfl
  have r := eqT_cons (by decide : "Vertex" ≠ "_") p1 p2 q1 (eqT_cons (by decide : "Text" ≠ "_") (p3 x hx) (p3 y hy) q2 (eqT_cons (by decide : "Kills" ≠ "_") (p4 x hx) (p4 y hy) q3 e5))
  have hk : ((x.k : Int) == (y.k : Int)) = decide (x.k = y.k) := by
    rw [Bool.eq_iff_iff, beq_iff_eq, decide_eq_true_eq]
    omega
  rw [r, Bool.and_true, hk]
  rfl
theorem neSb (x y : Sx) (hx : Sk x) (hy : Sk y) (W : World) : (binOp .neq 50 (.agg x.cells.toArray) (.agg y.cells.toArray)).run Try.prog W = .ok (.bool (!eqSx x y)) W := by
  have h := eqS 9996 x y hx hy W
  rw [run_neq_struct, show (Op.equalIn 10000 50 (.agg x.cells.toArray) (.agg y.cells.toArray)).run Try.prog W = _ from h]; rfl
theorem yl_neS {o : Oper} {a : Act} (V : World) (p q : Operand) (x y : Sx) (hx : Sk x) (hy : Sk y) (B : Bool) (hB : (!eqSx x y) = B) (hop : o.op = .binOp .neq 50 p q 50) (h1 : a.eval p = .agg x.cells.toArray) (h2 : a.eval q = .agg y.cells.toArray) : (execOp a.eval o).run Try.prog V = .ok (.value (.bool B)) V := by
  have h := neSb x y hx hy V
  rw [hB] at h
  unfold execOp
  simp only [hop, h1, h2, Sem.run_bind, Sem.run_pure]
  have hg : (eqGuard BinOp.neq 50 p q (.agg x.cells.toArray) (.agg y.cells.toArray)).run Try.prog V = .ok () V := by
    first
    | (simp [eqGuard, go_sem]; done)
    | (unfold eqGuard; simp [go_sem, Try.underlying34]; done)
    | (unfold eqGuard; go_simp; done)
  rw [hg]
  simp only [Result.andThen_ok, h]
set_option maxRecDepth 100000 in
set_option maxHeartbeats 4000000 in
theorem sm6 {Q : Exit → Act → World → Prop} {x2 x3 x4 x6 x7 x8 x9 x10 x11 x12 x13 x14 x15 x16 x17 x18 x19 x20 x21 x22 x23 x24 x25 : Value} {ds : List Deferred} {A : World} {g1 o1 k1 g2 o2 k2 n i : Nat} {s t : Sx} {B : Bool}
    (HL : Hid (g1 < A.heap.size ∧ g2 < A.heap.size)) (HR : Hid (A.rangeAt g1 (o1 + i * 35) s.cells ∧ A.rangeAt g2 (o2 + i * 35) t.cells)) (HV : Hid (Sk s ∧ Sk t)) (HB : Hid ((!eqSx s t) = B)) (q1 : (i : Int) < (n : Int)) (q2 : i < n)
    (hQ : ∀ V1, Below A.heap.size A V1 → Q .normal { tmps := #[.slice (some ⟨g1, o1, none⟩) n k1, .slice (some ⟨g2, o2, none⟩) n k2, x2, x3, x4, iv (i : Int), x6, x7, x8, x9, x10, x11, x12, x13, x14, x15, x16, .slice (some ⟨g1, o1, none⟩) n k1, iv (i : Int), .pointer (some ⟨g1, o1 + i * 35, none⟩), .agg s.cells.toArray, .slice (some ⟨g2, o2, none⟩) n k2, iv (i : Int), .pointer (some ⟨g2, o2 + i * 35, none⟩), .agg t.cells.toArray, .bool B], defers := ds } V1) :
    (Code.region 6 #[{ dst := some 17, op := Op.move (Operand.tmp 0), type := 45, pos := "ref.go:341", after := #[], guard := none }, { dst := some 18, op := Op.move (Operand.tmp 5), type := 3, pos := "ref.go:341", after := #[], guard := none }, { dst := some 19, op := Op.indexAddr 45 (Operand.tmp 17) (Operand.tmp 18), type := 0, pos := "ref.go:341", after := #[{ on := 0, ground := Ground.data }, { on := 1, ground := Ground.data }], guard := none }, { dst := some 20, op := Op.load 50 (Operand.tmp 19), type := 50, pos := "ref.go:341", after := #[{ on := 2, ground := Ground.data }], guard := none }, { dst := some 21, op := Op.move (Operand.tmp 1), type := 45, pos := "ref.go:341", after := #[], guard := none }, { dst := some 22, op := Op.move (Operand.tmp 5), type := 3, pos := "ref.go:341", after := #[], guard := none }, { dst := some 23, op := Op.indexAddr 45 (Operand.tmp 21) (Operand.tmp 22), type := 0, pos := "ref.go:341", after := #[{ on := 4, ground := Ground.data }, { on := 5, ground := Ground.data }], guard := none }, { dst := some 24, op := Op.load 50 (Operand.tmp 23), type := 50, pos := "ref.go:341", after := #[{ on := 6, ground := Ground.data }], guard := none }, { dst := some 25, op := Op.binOp BinOp.neq 50 (Operand.tmp 20) (Operand.tmp 24) 50, type := 4, pos := "ref.go:341", after := #[{ on := 3, ground := Ground.data }, { on := 7, ground := Ground.data }], guard := none }] true).wp Try.prog Q { tmps := #[.slice (some ⟨g1, o1, none⟩) n k1, .slice (some ⟨g2, o2, none⟩) n k2, x2, x3, x4, iv (i : Int), x6, x7, x8, x9, x10, x11, x12, x13, x14, x15, x16, x17, x18, x19, x20, x21, x22, x23, x24, x25], defers := ds } A := by
  refine Code.wp_mono (Q := fun x a' w' => match x with | .normal => Q .normal a' w' | _ => False) (by intro x a' w' h; cases x <;> first | exact h | exact h.elim) ?_
  refine wp_region_held (S := fun V => Below A.heap.size A V) (by kernel_rfl) ?_
  have hS0 : Hid (Below A.heap.size A A.drew) := below_drew0 A
  change wpAnyH Try.prog .any _ _ (fun V => Below A.heap.size A V) 9 (Array.replicate 9 false) _ A.drew
  obtain ⟨V0, hV0⟩ : ∃ V0, A.drew = V0 := ⟨_, rfl⟩
  rw [hV0]
  rw [hV0] at hS0
  clear hV0
  refine wpAnyH_take (i := 0) (oi := { dst := some 17, op := Op.move (Operand.tmp 0), type := 45, pos := "ref.go:341", after := #[], guard := none }) (v := .slice (some ⟨g1, o1, none⟩) n k1) rfl (by kernel_rfl) (by kernel_rfl) (by kernel_rfl) (fun _ _ _ h => h.elim) (Or.inl ⟨by rfl, ?y1⟩) hS0.out ?_
  case y1 =>
    intro V hV
    go_simp
  simp only [Act.put, List.setIfInBounds_toArray, List.set_cons_zero, List.set_cons_succ]
  refine wpAnyH_take (i := 1) (oi := { dst := some 18, op := Op.move (Operand.tmp 5), type := 3, pos := "ref.go:341", after := #[], guard := none }) (v := iv (i : Int)) rfl (by kernel_rfl) (by kernel_rfl) (by kernel_rfl) (fun _ _ _ h => h.elim) (Or.inl ⟨by rfl, ?y2⟩) hS0.out ?_
  case y2 =>
    intro V hV
    go_simp
  simp only [Act.put, List.setIfInBounds_toArray, List.set_cons_zero, List.set_cons_succ]
  refine wpAnyH_take (i := 2) (oi := { dst := some 19, op := Op.indexAddr 45 (Operand.tmp 17) (Operand.tmp 18), type := 0, pos := "ref.go:341", after := #[{ on := 0, ground := Ground.data }, { on := 1, ground := Ground.data }], guard := none }) (v := .pointer (some ⟨g1, o1 + i * 35, none⟩)) rfl (by kernel_rfl) (by kernel_rfl) (by kernel_rfl) (fun _ _ _ h => h.elim) (Or.inl ⟨by rfl, ?y3⟩) hS0.out ?_
  case y3 =>
    intro V hV
    have hcmp := q1
    have hcmp2 := q2
    go_simp
  simp only [Act.put, List.setIfInBounds_toArray, List.set_cons_zero, List.set_cons_succ]
  refine wpAnyH_take (i := 3) (oi := { dst := some 20, op := Op.load 50 (Operand.tmp 19), type := 50, pos := "ref.go:341", after := #[{ on := 2, ground := Ground.data }], guard := none }) (v := .agg s.cells.toArray) rfl (by kernel_rfl) (by kernel_rfl) (by kernel_rfl) (fun _ _ _ h => h.elim) (yieldsIf_load_mid (by rfl) _ _ rfl _ _ rfl (s.cells) _ (fun V hV => rangeAt_same (HR.out.1) ((show Below A.heap.size A V from hV).block _ (HL.out.1))) Try.underlying50 rfl (info50 HV.out.1)) hS0.out ?_
  simp only [Act.put, List.setIfInBounds_toArray, List.set_cons_zero, List.set_cons_succ]
  refine wpAnyH_take (i := 4) (oi := { dst := some 21, op := Op.move (Operand.tmp 1), type := 45, pos := "ref.go:341", after := #[], guard := none }) (v := .slice (some ⟨g2, o2, none⟩) n k2) rfl (by kernel_rfl) (by kernel_rfl) (by kernel_rfl) (fun _ _ _ h => h.elim) (Or.inl ⟨by rfl, ?y4⟩) hS0.out ?_
  case y4 =>
    intro V hV
    go_simp
  simp only [Act.put, List.setIfInBounds_toArray, List.set_cons_zero, List.set_cons_succ]
  refine wpAnyH_take (i := 5) (oi := { dst := some 22, op := Op.move (Operand.tmp 5), type := 3, pos := "ref.go:341", after := #[], guard := none }) (v := iv (i : Int)) rfl (by kernel_rfl) (by kernel_rfl) (by kernel_rfl) (fun _ _ _ h => h.elim) (Or.inl ⟨by rfl, ?y5⟩) hS0.out ?_
  case y5 =>
    intro V hV
    go_simp
  simp only [Act.put, List.setIfInBounds_toArray, List.set_cons_zero, List.set_cons_succ]
  refine wpAnyH_take (i := 6) (oi := { dst := some 23, op := Op.indexAddr 45 (Operand.tmp 21) (Operand.tmp 22), type := 0, pos := "ref.go:341", after := #[{ on := 4, ground := Ground.data }, { on := 5, ground := Ground.data }], guard := none }) (v := .pointer (some ⟨g2, o2 + i * 35, none⟩)) rfl (by kernel_rfl) (by kernel_rfl) (by kernel_rfl) (fun _ _ _ h => h.elim) (Or.inl ⟨by rfl, ?y6⟩) hS0.out ?_
  case y6 =>
    intro V hV
    have hcmp := q1
    have hcmp2 := q2
    go_simp
  simp only [Act.put, List.setIfInBounds_toArray, List.set_cons_zero, List.set_cons_succ]
  refine wpAnyH_take (i := 7) (oi := { dst := some 24, op := Op.load 50 (Operand.tmp 23), type := 50, pos := "ref.go:341", after := #[{ on := 6, ground := Ground.data }], guard := none }) (v := .agg t.cells.toArray) rfl (by kernel_rfl) (by kernel_rfl) (by kernel_rfl) (fun _ _ _ h => h.elim) (yieldsIf_load_mid (by rfl) _ _ rfl _ _ rfl (t.cells) _ (fun V hV => rangeAt_same (HR.out.2) ((show Below A.heap.size A V from hV).block _ (HL.out.2))) Try.underlying50 rfl (info50 HV.out.2)) hS0.out ?_
  simp only [Act.put, List.setIfInBounds_toArray, List.set_cons_zero, List.set_cons_succ]
  refine wpAnyH_take (i := 8) (oi := { dst := some 25, op := Op.binOp BinOp.neq 50 (Operand.tmp 20) (Operand.tmp 24) 50, type := 4, pos := "ref.go:341", after := #[{ on := 3, ground := Ground.data }, { on := 7, ground := Ground.data }], guard := none }) (v := .bool B) rfl (by kernel_rfl) (by kernel_rfl) (by kernel_rfl) (fun _ _ _ h => h.elim) (Or.inl ⟨by rfl, ?y7⟩) hS0.out ?_
  case y7 =>
    intro V hV
    exact yl_neS V _ _ s t HV.out.1 HV.out.2 B HB.out rfl rfl rfl
  simp only [Act.put, List.setIfInBounds_toArray, List.set_cons_zero, List.set_cons_succ]
  refine wpAnyH_done (by kernel_rfl) ?_ _
  exact hQ V0 hS0.out
end Go.Proofs.Ytjcihaohpbmogaa.Oct

/- Layer 11 (lines): ref.Same. -/
namespace Go.Proofs.Ytjcihaohpbmogaa.Oct
open Go.RowKit
set_option maxRecDepth 100000
set_option linter.unusedSimpArgs false
set_option linter.unusedVariables false
set_option linter.unusedSectionVars false

instance : DecidableEq Sx := fun x y => decidable_of_iff _ (eqSx_iff x y)
set_option maxHeartbeats 1000000 in
theorem rsame_is (w : World) (a b : Option Addr) (n m ca cb : Nat) (xs ys : List Sx) (hx : SsR w a n xs) (hy : SsR w b m ys) (hn : n ≤ 1000000) (hm : m ≤ 1000000) (B : Bool) (hB : decide (xs = ys) = B) : Calls Try.prog 26 #[.slice a n ca, .slice b m cb] w fun e w' => e = .returned (.bool B) ∧ Below w.heap.size w w' := by
  have hxl : xs.length = n := hx.1
  have hyl : ys.length = m := hy.1
  have HS : Hid (SsR w a n xs ∧ SsR w b m ys ∧ xs.length = n ∧ ys.length = m) := ⟨hx, hy, hxl, hyl⟩
  have q0 : (n : Int) ≤ 1000000 := by omega
  have HB : Hid (decide (xs = ys) = B) := hB
  clear hx hy hB
  go_enter Try.func26, Try.ntmps26
  by_cases hnm : n = m
  · subst hnm
    clear hn hm hxl hyl
    go_wp2
    go_loopw [5] (fun u wr => ∃ i : Nat, u = iv (i : Int) ∧ Hid (i ≤ n ∧ Below w.heap.size w wr ∧ xs.take i = ys.take i)) (fun u _ => n - (intOf u).toNat)
    case atStart => exact ⟨0, rfl, Nat.zero_le _, Below.refl _ _, rfl⟩
    case round =>
      obtain ⟨X, hX⟩ : ∃ X, X = wr := ⟨_, rfl⟩
      subst hX
      obtain ⟨i, rfl, HI⟩ := hrel
      by_cases hi : i < n
      · obtain ⟨s, hs⟩ : ∃ s, xs[i]? = some s := ⟨_, List.getElem?_eq_getElem (by rw [HS.out.2.2.1]; exact hi)⟩
        obtain ⟨t, ht⟩ : ∃ t, ys[i]? = some t := ⟨_, List.getElem?_eq_getElem (by rw [HS.out.2.2.2]; exact hi)⟩
        have HX : Hid (i < n ∧ xs[i]? = some s ∧ ys[i]? = some t) := ⟨hi, hs, ht⟩
        have HV2 : Hid (Sk s ∧ Sk t) := ⟨HS.out.1.2.1 s (List.mem_of_getElem? hs), HS.out.2.1.2.1 t (List.mem_of_getElem? ht)⟩
        obtain ⟨g1, o1, rfl, hg1, hel1⟩ := (HS.out.1.below HI.out.2.1).2.2 (by omega)
        obtain ⟨g2, o2, rfl, hg2, hel2⟩ := (HS.out.2.1.below HI.out.2.1).2.2 (by omega)
        have HR : Hid (X.rangeAt g1 (o1 + i * 35) s.cells ∧ X.rangeAt g2 (o2 + i * 35) t.cells) := ⟨hel1 i s hs, hel2 i t ht⟩
        have HL : Hid (g1 < X.heap.size ∧ g2 < X.heap.size) := ⟨hg1, hg2⟩
        have q1 : (i : Int) < (n : Int) := by omega
        clear hel1 hel2 hg1 hg2 hi hs ht
        go_wp2_with fail
        obtain ⟨B2, hB2⟩ : ∃ B, (!eqSx s t) = B := ⟨_, rfl⟩
        have HB2 := hid_of hB2
        refine sm6 HL HR HV2 HB2 q1 HX.out.1 ?_
        intro V hb
        have HV : Hid (Below w.heap.size w V) := HI.out.2.1.trans (hb.mono HI.out.2.1.size)
        clear hb HR hB2
        by_cases hst : s = t
        · have HE : Hid (xs.take (i + 1) = ys.take (i + 1)) := by
            show _ = _
            rw [List.take_add_one, List.take_add_one, HX.out.2.1, HX.out.2.2, HI.out.2.2, hst]
          have hd : B2 = false := by rw [← HB2.out, (eqSx_iff s t).2 hst]; rfl
          rw [hd]
          clear hd hst
          go_wp2
          refine ⟨⟨i + 1, by simp, HX.out.1, HV.out, HE.out⟩, ?_⟩
          have := HX.out.1; simp [intOf]; omega
        · have hd : B2 = true := by
            rw [← HB2.out]
            cases h9 : eqSx s t with
            | true => exact absurd ((eqSx_iff s t).1 h9) hst
            | false => rfl
          rw [hd]
          have HE : Hid (B = false) := by
            show _ = _
            rw [← HB.out]
            have : xs ≠ ys := fun e => by
              have h1 := HX.out.2.1
              rw [e, HX.out.2.2] at h1
              exact hst (Option.some.inj h1).symm
            simp [this]
          clear hd hst
          go_wp2
          go_ret
          exact ⟨by rw [HE.out]; rfl, HV.out⟩
      · have q1 : ¬ (i : Int) < (n : Int) := by omega
        obtain rfl : i = n := by have := HI.out.1; omega
        have HE : Hid (B = true ∧ Below w.heap.size w X) := by
          refine ⟨?_, HI.out.2.1⟩
          have h1 := HI.out.2.2
          rw [List.take_of_length_le (Nat.le_of_eq HS.out.2.2.1), List.take_of_length_le (Nat.le_of_eq HS.out.2.2.2)] at h1
          rw [← HB.out]
          simp [h1]
        clear HI hi
        go_wp2
        go_ret
        exact ⟨by rw [HE.out.1]; rfl, HE.out.2⟩
  · have q1 : ¬ (n : Int) = (m : Int) := by omega
    have HE : Hid (B = false) := by
      show _ = _
      rw [← HB.out]
      have : xs ≠ ys := fun e => hnm (by rw [← hxl, ← hyl, e])
      simp [this]
    clear hnm hxl hyl hn hm
    go_wp2
    go_ret
    exact ⟨by rw [HE.out]; rfl, Below.refl _ _⟩
end Go.Proofs.Ytjcihaohpbmogaa.Oct

/- Layer 11 (lines): copies of ids and texts. -/
namespace Go.Proofs.Ytjcihaohpbmogaa.Oct
open Go.RowKit
set_option maxRecDepth 100000
set_option linter.unusedSimpArgs false
set_option linter.unusedVariables false
set_option linter.unusedSectionVars false

theorem bs35z (W : World) : (Instr.buildSlice 35 0 #[]).run Try.prog W = .ok (.slice (some ⟨W.heap.size, 0, none⟩) 0 0) (W.alloc (.cells #[] 34)) := by kernel_rfl
theorem bs36z (W : World) : (Instr.buildSlice 36 0 #[]).run Try.prog W = .ok (.slice (some ⟨W.heap.size, 0, none⟩) 0 0) (W.alloc (.cells #[] 9)) := by kernel_rfl
/-- ids copied behind an empty slice -/
theorem cp_ids (W : World) (ty : TypeId) (g0 n c : Nat) (a : Option Addr) (ids : List Vx) (hb : Blk W g0 34 []) (hv : VsR W a n ids) (hn : n ≤ 1000000) :
    ∃ a' c' W', (Builtin.append_ #[35, 35] ty #[.slice (some ⟨g0, 0, none⟩) 0 0, .slice a n c]).run Try.prog W = .ok (.slice a' n c') W' ∧ VsR W' a' n ids ∧ (∀ g off, a' = some ⟨g, off, none⟩ → g0 ≤ g) ∧ W.grownBy W' (some g0) := by
  have ho : OV g0 W (.slice (some ⟨g0, 0, none⟩) 0 0) 0 [] := ⟨⟨rfl, .inr ⟨g0, 0, #[], rfl, Nat.le_refl _, hb, Nat.le_refl _, by unfold maxLen; omega, rfl, rfl⟩⟩, by simp⟩
  obtain ⟨v', W', h1, h2, h3, _⟩ := run_app W g0 ty _ 0 [] a n c ids ho hv (by omega) (Nat.le_of_lt hb.lt)
  rw [Nat.zero_add, List.nil_append] at h2
  obtain ⟨a', c', rfl, h4, _, h5⟩ := h2.read
  refine ⟨a', c', W', h1, h4, fun g off e => ?_, h3⟩
  rcases h5 with h5 | ⟨g', e', h6⟩
  · rw [h5] at e; cases e
  · rw [e'] at e
    cases e
    exact h6
/-- texts copied behind an empty slice -/
theorem cp_texts (W : World) (ty : TypeId) (g0 n c : Nat) (a : Option Addr) (ts : List BA) (hb : Blk W g0 9 []) (hv : TsR W a n ts) (hn : n ≤ 1000000) :
    ∃ a' c' W', (Builtin.append_ #[36, 36] ty #[.slice (some ⟨g0, 0, none⟩) 0 0, .slice a n c]).run Try.prog W = .ok (.slice a' n c') W' ∧ TsR W' a' n ts ∧ W.grownBy W' (some g0) := by
  obtain ⟨i, z, k0, k1, k2, k3, k4⟩ := one36.inf
  by_cases hp : 0 < n
  · obtain ⟨g, off, rfl, hg, hel⟩ := hv.2 hp
    have ho : W.ownsRow g0 9 1 (.slice (some ⟨g0, 0, none⟩) 0 0) 0 [] := ⟨rfl, .inr ⟨g0, 0, #[], rfl, Nat.le_refl _, hb, Nat.le_refl _, by unfold maxLen; omega, rfl, rfl⟩⟩
    obtain ⟨v', W', h1, h2, h3, _⟩ := run_append_own (P := Try.prog) W g0 36 ty 9 i z 1 16 Try.underlying36 k0 k1 k2 k3 k4 (by omega) _ 0 [] ho ⟨g, off, none⟩ n c (strs ts) (by unfold strs; rw [List.length_map, hv.1, Nat.mul_one]) (fun j u hj => by
      rw [Addr.add_lit]
      unfold strs at hj
      rw [List.getElem?_map] at hj
      obtain ⟨s, hs, rfl⟩ := Option.map_eq_some_iff.1 hj
      exact hel j s hs) (fun u hu => by unfold strs at hu; obtain ⟨s, _, rfl⟩ := List.mem_map.1 hu; rfl) (by unfold maxLen; omega) (by omega) (Nat.le_of_lt hb.lt)
    rw [Nat.zero_add, List.nil_append] at h2
    rcases h2.2 with ⟨_, h9⟩ | ⟨g', cap, cur, rfl, _, h4, _⟩
    · omega
    · refine ⟨some ⟨g', 0, none⟩, cap, W', h1, ⟨hv.1, fun _ => ⟨g', 0, rfl, (Array.getElem?_eq_some_iff.1 h4).1, fun j s hs => ?_⟩⟩, h3⟩
      have := h2.cells (g := g') rfl j (.string s) (by unfold strs; rw [List.getElem?_map, hs]; rfl)
      rw [Addr.add_lit] at this
      exact this
  · obtain rfl : n = 0 := by omega
    refine ⟨_, _, W, run_append_zero W 36 ty 9 i Try.underlying36 k0 _ a 0 0 c (Nat.le_refl _), ⟨hv.1, fun h => absurd h (by omega)⟩, World.grownBy.refl _ _⟩
end Go.Proofs.Ytjcihaohpbmogaa.Oct
