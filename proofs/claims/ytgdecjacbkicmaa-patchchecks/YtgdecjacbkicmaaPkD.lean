/-
  Layer 10 (patch): Paths.
  Layer 10 (patch): Paths.
  Layer 10 (patch): the law Checks.
-/
import Derived.Test.YtgdecjacbkicmaaPkC
import Derived.Sort.OwnSorted
import Derived.Lib.OwnBridge
import Derived.Lib.SlicesCompact
import Derived.Deep.MidRow
/- Layer 10 (patch): Paths. -/
namespace Go.Proofs.Ytgdecjacbkicmaa.Oct
open Go.RowKit Go.Sort
set_option maxRecDepth 100000
set_option linter.unusedSimpArgs false
set_option linter.unusedVariables false

def sortK (l : List Hs) : List Hs := l.mergeSort (fun x y => decide (x ≤ y))
theorem sorted_K (l : List Hs) : (sortK l).Pairwise (fun x y => x ≤ y) := by
  have := List.pairwise_mergeSort (le := fun x y : Hs => decide (x ≤ y)) (fun a b c h1 h2 => by
    simp only [decide_eq_true_eq] at *
    exact List.le_trans h1 h2) (fun a b => by
    simp only [Bool.or_eq_true, decide_eq_true_eq]
    exact List.le_total a b) l
  exact this.imp (fun h => by simpa using h)
theorem mem_K (l : List Hs) (x : Hs) : x ∈ sortK l ↔ x ∈ l := (List.mergeSort_perm l _).mem_iff
theorem lt_of_le_ne {a b : Hs} (h : a ≤ b) (hn : a ≠ b) : a < b := by
  rcases lt_or a b with e | e | e
  · exact e
  · exact absurd e hn
  · exact absurd e (List.not_lt.2 h)
theorem compact_rises (d : Array Hs) : ∀ m, (∀ i j, i ≤ j → j < m → d[i]! ≤ d[j]!) → (Lib.compactUpTo d m).Pairwise (· < ·) ∧ ∀ z, z ∈ Lib.compactUpTo d m ↔ ∃ i, i < m ∧ d[i]! = z
  | 0, _ => ⟨by simp [Lib.compactUpTo], fun z => by simp [Lib.compactUpTo]⟩
  | m + 1, hm => by
    obtain ⟨h1, h2⟩ := compact_rises d m (fun i j hij hj => hm i j hij (by omega))
    rw [Lib.compactUpTo_succ]
    by_cases hk : Lib.keeps d m = true
    · rw [if_pos hk]
      have hlt : ∀ i, i < m → d[i]! < d[m]! := by
        intro i hi
        have e1 : d[i]! ≤ d[m - 1]! := hm i (m - 1) (by omega) (by omega)
        have e2 : d[m - 1]! ≤ d[m]! := hm (m - 1) m (by omega) (by omega)
        have e3 : d[m]! ≠ d[m - 1]! := by
          have : m = 0 ∨ d[m]! ≠ d[m - 1]! := by simpa [Lib.keeps] using hk
          rcases this with h | h
          · omega
          · exact h
        have e4 := lt_of_le_ne e2 (fun e => e3 e.symm)
        rcases Classical.em (d[i]! = d[m - 1]!) with e | e
        · rw [e]; exact e4
        · exact lt_tr (lt_of_le_ne e1 e) e4
      refine ⟨List.pairwise_append.2 ⟨h1, by simp, fun a ha b hb => ?_⟩, fun z => ?_⟩
      · obtain ⟨i, hi, rfl⟩ := (h2 a).1 ha
        have : b = d[m]! := by simpa using hb
        rw [this]; exact hlt i hi
      · rw [List.mem_append, h2]
        constructor
        · rintro (⟨i, hi, e⟩ | h)
          · exact ⟨i, by omega, e⟩
          · exact ⟨m, by omega, by simpa using (List.mem_singleton.1 h).symm⟩
        · rintro ⟨i, hi, e⟩
          by_cases him : i = m
          · subst him; exact .inr (by rw [← e]; simp)
          · exact .inl ⟨i, by omega, e⟩
    · have hm0 : m ≠ 0 := fun e => hk (by subst e; exact Lib.keeps_lt_one d 0 (by omega))
      have he : d[m]! = d[m - 1]! := Classical.byContradiction fun c => hk (Lib.keeps_pos c)
      rw [if_neg hk, List.append_nil]
      refine ⟨h1, fun z => ?_⟩
      rw [h2]
      constructor
      · rintro ⟨i, hi, e⟩; exact ⟨i, by omega, e⟩
      · rintro ⟨i, hi, e⟩
        by_cases him : i = m
        · subst him; exact ⟨i - 1, by omega, by rw [← he]; exact e⟩
        · exact ⟨i, by omega, e⟩
/-- texts put in order, each once -/
def riseK (l : List Hs) : List Hs := Lib.compact (sortK l)
theorem riseK_spec (l : List Hs) : Rise (riseK l) ∧ ∀ z, z ∈ riseK l ↔ z ∈ l := by
  have hs := sorted_K l
  have hp := fun z => mem_K l z
  unfold riseK Lib.compact
  generalize sortK l = ss at hs hp ⊢
  have := compact_rises ss.toArray ss.length (fun i j hij hj => by
    rcases Nat.lt_or_ge i j with h | h
    · have e := List.pairwise_iff_getElem.1 hs i j (by omega) hj h
      simpa [getElem!_pos, hj, show i < ss.length by omega] using e
    · have : i = j := by omega
      subst this; exact List.le_refl _)
  refine ⟨this.1, fun z => ?_⟩
  rw [this.2, ← hp]
  constructor
  · rintro ⟨i, hi, e⟩
    rw [← e]
    simp [getElem!_pos, hi]
  · intro hz
    obtain ⟨i, hi, e⟩ := List.getElem_of_mem hz
    exact ⟨i, hi, by simp [getElem!_pos, hi, e]⟩
def riseB (l : List BA) : List BA := (riseK (l.map bk)).map fun x => ⟨x.toArray⟩
theorem riseB_bk (l : List BA) : (riseB l).map bk = riseK (l.map bk) := by
  unfold riseB
  rw [List.map_map]
  conv => rhs; rw [← List.map_id (riseK (l.map bk))]
  exact List.map_congr_left fun x _ => by simp [bk, Function.comp]
theorem bk_list {l m : List BA} (h : l.map bk = m.map bk) : l = m := by
  induction l generalizing m with
  | nil => cases m with
    | nil => rfl
    | cons y m => cases h
  | cons x l ih => cases m with
    | nil => cases h
    | cons y m =>
      simp only [List.map_cons, List.cons.injEq] at h
      rw [bk_inj h.1, ih h.2]
theorem pathsB_bk : ∀ (O : List OpV) (l : List BA), Rise (l.map bk) → Rise ((O.foldl (fun l o => withB o.path l) l).map bk) ∧ ∀ z, z ∈ (O.foldl (fun l o => withB o.path l) l).map bk ↔ z ∈ l.map bk ∨ ∃ o ∈ O, bk o.path = z
  | [], l, h => ⟨h, fun z => by simp⟩
  | o :: O, l, h => by
    have h1 : Rise ((withB o.path l).map bk) := by rw [withB_bk]; exact rise_with _ h
    obtain ⟨h2, h3⟩ := pathsB_bk O (withB o.path l) h1
    refine ⟨h2, fun z => ?_⟩
    rw [List.foldl_cons, h3, withB_bk, mem_with]
    constructor
    · rintro ((h | h) | ⟨o', ho, e⟩)
      · exact .inr ⟨o, by simp, h.symm⟩
      · exact .inl h
      · exact .inr ⟨o', by simp [ho], e⟩
    · rintro (h | ⟨o', ho, e⟩)
      · exact .inl (.inr h)
      · rcases List.mem_cons.1 ho with rfl | ho
        · exact .inl (.inl e.symm)
        · exact .inr ⟨o', ho, e⟩
/-- the program's and the reference's paths are the same -/
theorem paths_eq (O : List OpV) : riseB (O.map (·.path)) = pathsB O := by
  apply bk_list
  rw [riseB_bk]
  obtain ⟨h1, h2⟩ := riseK_spec ((O.map (·.path)).map bk)
  obtain ⟨h3, h4⟩ := pathsB_bk O [] (by simp [Rise])
  refine rise_eq h1 h3 fun z => ?_
  rw [h2]
  show _ ↔ z ∈ (O.foldl (fun l o => withB o.path l) []).map bk
  rw [h4]
  simp
theorem strC_enc (l : List BA) : strC l = (l.map bk).map encStr := by
  unfold strC
  rw [List.map_map]
  rfl
set_option maxHeartbeats 2000000 in
theorem sorted_is (w : World) (Bs : Nat) (a : Option Addr) (n c : Nat) (ys : List BA) (hc : w.cell? ⟨Bs, 0, none⟩ = some (.slice a n c)) (hs : Strs w a n ys) (hn : n ≤ 1000000) :
    Calls Try.prog 46 #[.func (.func 77) #[] #[.pointer (some ⟨Bs, 0, none⟩)]] w fun e w' => ∃ v, e = .returned v ∧ Hid (w'.ownsRow w.heap.size 9 1 v ys.length ((sortK (ys.map bk)).map encStr)) ∧ Hid (Below w.heap.size w w') := by
  have HC := collect_is w Bs a n c ys hc hs hn
  have HN : Hid (ys.length ≤ 1000000) := by show _ ≤ _; rw [hs.1]; exact hn
  clear hc hs hn
  go_enter Try.func46, Try.ntmps46
  go_wp2_with fail
  refine HC.mono ?_
  rintro e w1 ⟨v, rfl, h1, h2⟩
  clear HC
  have hr := h1.out
  rcases hr.2 with ⟨rfl, hz⟩ | ⟨g, cap, cur, rfl, hB, hb, r1, r2, r3, r4⟩
  · have hy : ys = [] := List.eq_nil_of_length_eq_zero hz
    subst hy
    clear hr
    go_wp2_with fail
    refine (AnyM.slices_Sort_string_none laysSort none 0 w1).mono ?_
    rintro e w2 ⟨rfl, rfl⟩
    go_wp2
    go_ret
    refine ⟨_, rfl, ?_, h2⟩
    have := h1.out
    show World.ownsRow _ _ _ _ _ _ _
    simpa [sortK, strC] using this
  · have hl : (ys.map bk).length = ys.length := by simp
    have hH : Holds encStr w1 g 0 (ys.map bk).toArray := holds_of_block hb (by rw [hl]; rw [strC_enc] at r4; simpa using r4)
    have hgl : g < w1.heap.size := lt_of_block hb
    have cS := AnyM.slices_Sort_string laysSort g 0 cap (ys.map bk) w1 hH hgl (by rw [hl]; have := HN.out; omega)
    rw [hl] at cS
    have HR : Hid (g < w1.heap.size ∧ w.heap.size ≤ g ∧ w1.heap[g]? = some (.cells cur 9 (0, 0)) ∧ ys.length ≤ cap ∧ cap ≤ maxLen ∧ cur.size = cap * 1) := ⟨hgl, hB, hb, r1, r2, r3⟩
    clear hr hH hb r1 r2 r3 r4 hB hgl hl
    go_wp2_with fail
    refine cS.mono ?_
    rintro e w2 ⟨rfl, nn, os, hw2⟩
    have HF : Hid (w2.ownsRow w.heap.size 9 1 (.slice (some ⟨g, 0, none⟩) ys.length cap) ys.length ((sortK (ys.map bk)).map encStr) ∧ Below w.heap.size w w2) := by
      obtain ⟨_, hB, hb, r1, r2, r3⟩ := HR.out
      refine ⟨?_, ?_⟩
      · have := ownsRow_sorted (w := w1) (n := nn) (os := os) (ss := ys.map bk) (ts := sortK (ys.map bk)) (by simp [sortK]) hB hb (by simpa using r1) r2 r3
        rw [List.length_map] at this
        rw [hw2]
        exact this
      · rw [hw2]
        exact h2.out.grown (grownBy_sorted _) h2.out.size (fun j hj => by cases hj; exact hB)
    clear cS hw2 HR h1 h2
    go_wp2
    go_ret
    exact ⟨_, rfl, HF.out.1, HF.out.2⟩
set_option maxHeartbeats 2000000 in
theorem rising_is (w : World) (a : Option Addr) (n c : Nat) (ys : List BA) (hs : Strs w a n ys) (hn : n ≤ 1000000) :
    Calls Try.prog 23 #[.slice a n c] w fun e w' => ∃ v, e = .returned v ∧ Hid (TS w' v (riseB ys)) ∧ Hid (Below w.heap.size w w') := by
  have HN : Hid (Strs w a n ys ∧ n ≤ 1000000) := ⟨hs, hn⟩
  clear hs hn
  go_enter Try.func23, Try.ntmps23
  go_wp2_with fail
  refine (values_is a n c w).mono ?_
  rintro e w1 ⟨rfl, hw1⟩
  have hb1 : Below w.heap.size w w1 := by rw [hw1]; exact below_al _ _
  have hc1 : w1.cell? ⟨w.heap.size, 0, none⟩ = some (.slice a n c) := by
    rw [hw1]
    exact (Blk.new w #[.slice a n c] 31).cell rfl
  have HS := sorted_is w1 w.heap.size a n c ys hc1 (HN.out.1.below hb1) HN.out.2
  have HB1 : Hid (Below w.heap.size w w1) := hb1
  clear hw1 hb1 hc1
  go_wp2_with fail
  refine HS.mono ?_
  rintro e w2 ⟨v, rfl, h1, h2⟩
  have HB2 : Hid (Below w.heap.size w w2) := below_tr HB1.out h2.out
  have HG1 : Hid (w.heap.size ≤ w1.heap.size) := HB1.out.size
  clear HS h2
  have hr := h1.out
  rcases hr.2 with ⟨rfl, hz⟩ | ⟨g, cap, cur, rfl, hB, hb, r1, r2, r3, r4⟩
  · have hy : ys = [] := List.eq_nil_of_length_eq_zero hz
    subst hy
    clear hr
    go_wp2_with fail
    refine (Any.slices_Compact_string_empty laysCompact none 0 w2).mono ?_
    rintro e w3 ⟨rfl, rfl⟩
    have HF : Hid (TS w3 (.slice none 0 0) (riseB [])) := .inl ⟨rfl, by simp [riseB, riseK, sortK, Lib.compact, Lib.compactUpTo]⟩
    go_wp2
    go_ret
    exact ⟨_, rfl, HF, HB2⟩
  · obtain ⟨S, hS⟩ : ∃ S, sortK (ys.map bk) = S := ⟨_, rfl⟩
    rw [hS] at hr r4 h1
    have hl : S.length = ys.length := by rw [← hS]; simp [sortK]
    have hH : Holds encStr w2 g 0 S.toArray := holds_of_block hb (by rw [hl]; simpa using r4)
    have hz : ys.length ≤ 1000000 := by rw [HN.out.1.1]; exact HN.out.2
    have cC := Any.slices_Compact_string laysCompact g 0 cap S w2 hH (by omega) (by omega)
    rw [hl] at cC
    have HR : Hid (w2.ownsRow w1.heap.size 9 1 (.slice (some ⟨g, 0, none⟩) ys.length cap) ys.length (S.map encStr) ∧ w1.heap.size ≤ g ∧ S.length = ys.length ∧ riseK (ys.map bk) = Lib.compact S) := ⟨hr, hB, hl, by unfold riseK; rw [hS]⟩
    have HCL : Hid ((Lib.compact S).length ≤ ys.length) := by
      show _ ≤ _
      unfold Lib.compact Lib.compactUpTo
      rw [List.length_map, ← hl]
      exact Nat.le_trans (List.length_filter_le ..) (by simp)
    obtain ⟨K, hK⟩ : ∃ K, K = Lib.compact S := ⟨_, rfl⟩
    rw [← hK] at cC HR HCL
    clear hr hH hb r1 r2 r3 r4 hB hl hS hK h1 hz
    go_wp2_with fail
    refine cC.mono ?_
    rintro e w3 ⟨rfl, q, hw3⟩
    have HF : Hid (TS w3 (.slice (some ⟨g, 0, none⟩) K.length cap) (riseB ys) ∧ Below w.heap.size w w3) := by
      refine ⟨?_, ?_⟩
      · have := Lib.ownsRow_putRow (q := q) (k := K.length) (ys := K ++ List.replicate (ys.length - K.length) []) HR.out.1 (by have := HCL.out; simp; omega) HCL.out
        rw [List.take_left' rfl, ← hw3] at this
        have e : strC (riseB ys) = K.map encStr := by
          rw [strC_enc, riseB_bk, HR.out.2.2.2]
        have h := TS.own (l := riseB ys) (n := K.length) (by rw [e]; exact this)
        exact h
      · rw [hw3]
        exact Lib.below_putRow HB2.out (by have := HR.out.2.1; have := HG1.out; omega)
    clear cC hw3
    go_wp2
    go_ret
    exact ⟨_, rfl, HF.out.1, HF.out.2⟩
end Go.Proofs.Ytgdecjacbkicmaa.Oct

/- Layer 10 (patch): Paths. -/
namespace Go.Proofs.Ytgdecjacbkicmaa.Oct
open Go.RowKit
set_option maxRecDepth 100000
set_option linter.unusedSimpArgs false
set_option linter.unusedVariables false

theorem TS.strs {w : World} {v : Value} {l : List BA} (h : TS w v l) : ∃ a c, v = .slice a l.length c ∧ Strs w a l.length l := by
  rcases h with ⟨rfl, rfl⟩ | ⟨g, c, rfl, h2, h3, h4, h5⟩
  · exact ⟨none, 0, rfl, rfl, fun h => absurd h (by decide)⟩
  · exact ⟨_, c, rfl, rfl, fun _ => ⟨g, 0, rfl, h4, fun i x hx => by rw [Nat.zero_add]; exact h5 i x hx⟩⟩
set_option maxHeartbeats 4000000 in
theorem paths_is (w : World) (p : PV) (h : PR w p) (hz : p.on ≤ 300) : Calls Try.prog 11 #[.agg p.cells.toArray] w fun e w' => ∃ v, e = .returned v ∧ Hid (TS w' v (pathsB p.O)) ∧ Below w.heap.size w w' := by
  obtain ⟨d0, hd0⟩ : ∃ d, w.heap.size = d := ⟨_, rfl⟩
  obtain ⟨W, hW⟩ : ∃ W, w.alloc (.cells p.cells.toArray 25) = W := ⟨_, rfl⟩
  have hk : Blk W d0 25 p.cells := by rw [← hW, ← hd0]; exact Blk.new w _ _
  have hbw : Below w.heap.size w W := by rw [← hW]; exact below_al _ _
  obtain ⟨n, hn⟩ : ∃ n, p.on = n := ⟨_, rfl⟩
  have HP : Hid (PR W p ∧ Below w.heap.size w W ∧ Blk W d0 25 p.cells ∧ p.on = n ∧ n ≤ 300) := ⟨h.below hbw, hbw, hk, hn, by omega⟩
  have qn : (n : Int) ≤ 300 := by omega
  have ql := h.ops.1
  have HLN : Hid (p.O.length = n) := by show _ = _; rw [ql, hn]
  have c4 : W.cell? ⟨d0, 4, none⟩ = some (.slice p.oa n p.oc) := by rw [← hn]; exact hk.cell rfl
  obtain ⟨Z, hZ, HZ⟩ := zero51
  have HZL : Hid (Z.length = 69) := by show _ = _; rw [HZ.out]; exact OpV.len o00_ok
  clear h hz hk hbw hn ql HZ
  go_enter Try.func11, Try.ntmps11
  go_wp2_with fail
  clear hd0 hW c4
  go_loopw [9, 3] (fun u v wr => ∃ i : Nat, u = iv (i : Int) ∧ (i : Int) ≤ (n : Int) ∧ Hid (wr.ownsRow W.heap.size 9 1 v i (strC ((p.O.take i).map (·.path))) ∧ Below W.heap.size W wr)) (fun u _ _ => n - (intOf u).toNat)
  case atStart => exact ⟨0, rfl, by omega, World.ownsRow_nil _ _ _ _, Below.refl _ _⟩
  case round =>
    obtain ⟨V, hV⟩ : ∃ V, V = wr := ⟨_, rfl⟩
    subst hV
    obtain ⟨v, hv⟩ : ∃ v, v = u3 := ⟨_, rfl⟩
    subst hv
    obtain ⟨i, rfl, qi, HI⟩ := hrel
    by_cases hi : i < n
    · have q1 : (i : Int) < (n : Int) := by omega
      have g1 : decide ((i : Int) < (n : Int)) = true := decide_eq_true q1
      obtain ⟨x, hx⟩ : ∃ x, p.O[i]? = some x := ⟨_, List.getElem?_eq_getElem (by rw [HLN.out]; exact hi)⟩
      obtain ⟨g, off, hoa, hg, hel⟩ := HP.out.1.ops.2.2 (by rw [HP.out.2.2.2.1]; omega)
      have hok := (HP.out.1.ops.2.1 x (List.mem_of_getElem? hx)).1
      have HX : Hid (i < n ∧ x.ok ∧ V.rangeAt g (off + i * 69) x.cells ∧ p.O[i]? = some x) := ⟨hi, hok, rangeAt_same (hel i x hx) (HI.out.2.block g hg), hx⟩
      obtain ⟨d, hdd⟩ : ∃ d, V.heap.size = d := ⟨_, rfl⟩
      have HDD : Hid (V.heap.size = d) := hdd
      rw [hoa]
      clear hx hoa hg hel hok hi qi
      go_wp2_with (with_reducible change wpList _ _ _ ({ dst := some 12, op := _, type := _, pos := _, after := _, guard := _ } :: _) _ _; refine Hid.out ?_)
      show wpList _ _ _ _ _ _
      refine wpList_load_mid rfl 51 (.tmp 11) rfl g (off + i * 69) rfl x.cells _ HX.out.2.2.1 Try.underlying51 rfl (info51 HX.out.2.1) ?_
      go_wp2_with (with_reducible change wpList _ _ _ ({ dst := none, op := Op.store 51 _ _, type := _, pos := _, after := _, guard := _ } :: _) _ _; refine Hid.out ?_)
      show wpList _ _ _ _ _ _
      refine wpList_store_blk rfl 51 (.tmp 5) (.tmp 12) rfl d 0 51 Z x.cells rfl rfl (by rw [← HDD.out]; exact Blk.new V _ _) (by rw [HZL.out, OpV.len HX.out.2.1]; omega) (info51 HX.out.2.1) x.one ?_
      intro W1 hx1 hg1
      have hb1 : Below V.heap.size V W1 := below_gr (below_al V _) hg1.out (by rw [HDD.out]; exact Nat.le_refl _)
      have H1 : Hid (Below W.heap.size W W1 ∧ OpB W1 d x ∧ W1.ownsRow W.heap.size 9 1 v i (strC ((p.O.take i).map (·.path)))) := ⟨below_tr HI.out.2 hb1, ⟨blk_all hx1.out (by rw [HZL.out, OpV.len HX.out.2.1]), HX.out.2.1⟩, ownsRow_below HI.out.1 hb1⟩
      have c1 := H1.out.2.1.path
      have hbs := run_bs31 x.path
      clear hx1 hg1 hdd hb1 HDD
      obtain ⟨W2, hW2⟩ : ∃ W2, W1.alloc (.cells #[.string x.path] 9) = W2 := ⟨_, rfl⟩
      have H2 : Hid (Below W.heap.size W W2 ∧ W2.ownsRow W.heap.size 9 1 v i (strC ((p.O.take i).map (·.path))) ∧ Strs W2 (some ⟨W1.heap.size, 0, none⟩) 1 [x.path]) := by
        rw [← hW2]
        exact ⟨below_tr H1.out.1 (below_al _ _), ownsRow_below H1.out.2.2 (below_al _ _), strs_new _ _⟩
      go_wp2_with (with_reducible change wpList _ _ _ ({ dst := some 17, op := _, type := _, pos := _, after := _, guard := _ } :: _) _ _; refine Hid.out ?_)
      show wpList _ _ _ _ _ _
      refine wpList_append_mine rfl (.tmp 13) (.tmp 16) rfl W2 W.heap.size v i _ H2.out.2.1 _ 1 1 [x.path] rfl rfl H2.out.2.2 H2.out.1.size (by have := HX.out.1; have := HP.out.2.2.2.2; omega) ?_
      intro v17 W3 ho3 hb3
      have H3 : Hid (W3.ownsRow W.heap.size 9 1 v17 (i + 1) (strC ((p.O.take (i + 1)).map (·.path))) ∧ Below W.heap.size W W3) := by
        refine ⟨?_, H2.out.1.trans hb3.out⟩
        have e := ho3.out
        rw [List.take_add_one, HX.out.2.2.2, List.map_append]
        exact e
      have H4 : Hid (i < n) := HX.out.1
      clear ho3 hb3 hbs c1 H1 hW2
      go_wp2
      go_roundw
      case rel => exact ⟨i + 1, by simp, by have := H4.out; omega, H3.out.1, H3.out.2⟩
      case measure => have := H4.out; simp only [intOf]; omega
    · have g1 : decide ((i : Int) < (n : Int)) = false := decide_eq_false (by omega)
      have q5 : (n : Int) ≤ (i : Int) := by omega
      have hf := HI.out.1
      rw [List.take_of_length_le (by rw [HLN.out]; omega)] at hf
      obtain ⟨L, hL⟩ : ∃ L, p.O.map (·.path) = L := ⟨_, rfl⟩
      have HLL : Hid (p.O.map (·.path) = L ∧ L.length = n) := ⟨hL, by rw [← hL, List.length_map, HLN.out]⟩
      rw [hL] at hf
      have ht := TS.own hf
      obtain ⟨a, c, rfl, hst⟩ := ht.strs
      have HF : Hid (Strs V a L.length L ∧ Below w.heap.size w V ∧ L.length ≤ 300) := ⟨hst, below_tr HP.out.2.1 HI.out.2, by rw [HLL.out.2]; exact HP.out.2.2.2.2⟩
      clear hf ht hst hi HI qi hL
      go_wp2_with fail
      refine (rising_is V a _ c _ HF.out.1 (by have := HF.out.2.2; omega)).mono ?_
      rintro e V2 ⟨v2, rfl, hts, hb2⟩
      rw [← HLL.out.1, paths_eq] at hts
      have HG : Hid (Below w.heap.size w V2) := below_tr HF.out.2.1 hb2.out
      clear hb2
      go_wp2
      go_ret
      exact ⟨_, rfl, hts, HG.out⟩
end Go.Proofs.Ytgdecjacbkicmaa.Oct

/- Layer 10 (patch): the law Checks. -/
namespace Go.Proofs.Ytgdecjacbkicmaa.Oct
open Go.RowKit
set_option maxRecDepth 100000
set_option linter.unusedSimpArgs false
set_option linter.unusedVariables false

theorem zero25Z : ∃ Z : List Value, (∀ W, (zeroValue 25).run Try.prog W = .ok (.agg Z.toArray) W) ∧ Hid (Z = p00.cells) := ⟨p00.cells, fun W => by kernel_rfl, rfl⟩
theorem Alike.paths : ∀ {l r : List OpV}, Alike l r → l.map (·.path) = r.map (·.path)
  | [], [], _ => rfl
  | [], _ :: _, h => by have := h.len; simp at this
  | _ :: _, [], h => by have := h.len; simp at this
  | x :: l, y :: r, h => by
    rw [List.map_cons, List.map_cons, (strip_eq h.cons.1).2.1, Alike.paths h.cons.2]
theorem Tw.paths {p q : PV} (h : Tw p q) : pathsB q.O = pathsB p.O := by
  rw [← paths_eq, ← paths_eq, h.O.paths]
set_option maxHeartbeats 4000000 in
theorem checks_law (w : World) (p : PV) (hp : PR w p) : Calls Try.prog 3 #[.agg p.cells.toArray] w fun e w' => e = .returned (.bool true) ∧ Below w.heap.size w w' := by
  obtain ⟨d1, hd1⟩ : ∃ d, w.heap.size = d := ⟨_, rfl⟩
  obtain ⟨W, hW⟩ : ∃ W, w.alloc (.cells p.cells.toArray 25) = W := ⟨_, rfl⟩
  have hk : Blk W d1 25 p.cells := by rw [← hW, ← hd1]; exact Blk.new w _ _
  have hbw : Below w.heap.size w W := by rw [← hW]; exact below_al _ _
  have HP : Hid (PR W p ∧ Below w.heap.size w W ∧ Blk W d1 25 p.cells) := ⟨hp.below hbw, hbw, hk⟩
  obtain ⟨Z, hZ, HZ⟩ := zero25Z
  have HZL : Hid (Z.length = 5) := by show _ = _; rw [HZ.out]; rfl
  clear hp hk hbw HZ
  go_enter Try.func3, Try.ntmps3
  go_wp2_with (with_reducible change wpList _ _ _ ({ dst := some 6, op := _, type := _, pos := _, after := _, guard := _ } :: _) _ _; refine Hid.out ?_)
  show wpList _ _ _ _ _ _
  refine wpList_load_mid rfl 25 (.tmp 1) rfl d1 0 rfl p.cells _ HP.out.2.2.range0 Try.underlying25 rfl (info25 p) ?_
  clear hd1 hW
  go_wp2_with fail
  refine (light_is W p HP.out.1).mono ?_
  rintro e V1 ⟨B1, rfl, hl1, hb1⟩
  have H1 : Hid ((B1 = true → LT p) ∧ PR V1 p ∧ Below w.heap.size w V1 ∧ Blk V1 d1 25 p.cells) := ⟨hl1.out, HP.out.1.below hb1, below_tr HP.out.2.1 hb1, HP.out.2.2.below hb1 HP.out.2.2.lt⟩
  clear hl1 hb1 HP
  cases B1 with
  | false =>
    go_wp2_with fail
    refine (lives_is V1).mono ?_
    rintro e V9 ⟨rfl, hb9⟩
    have HF : Hid (Below w.heap.size w V9) := below_tr H1.out.2.2.1 hb9
    clear hb9
    go_wp2
    go_ret
    exact ⟨rfl, HF.out⟩
  | true =>
  go_wp2_with (with_reducible change wpList _ _ _ ({ dst := some 10, op := _, type := _, pos := _, after := _, guard := _ } :: _) _ _; refine Hid.out ?_)
  show wpList _ _ _ _ _ _
  refine wpList_load_mid rfl 25 (.tmp 1) rfl d1 0 rfl p.cells _ H1.out.2.2.2.range0 Try.underlying25 rfl (info25 p) ?_
  go_wp2_with fail
  refine (twin_is V1 p H1.out.2.1 ⟨by have := (H1.out.1 (by trivial)).1; omega, by have := (H1.out.1 (by trivial)).2.1; omega, fun o ho => by have := (H1.out.1 (by trivial)).2.2 o ho; omega⟩).mono ?_
  rintro e V2 ⟨q, rfl, hq, hb2⟩
  have HQ : Hid (PR V2 q ∧ Tw p q) := hq.out
  have H2 : Hid (LT p ∧ PR V2 p ∧ Below w.heap.size w V2 ∧ Blk V2 d1 25 p.cells) := ⟨H1.out.1 (by trivial), H1.out.2.1.below hb2, below_tr H1.out.2.2.1 hb2, H1.out.2.2.2.below hb2 H1.out.2.2.2.lt⟩
  clear hb2 hq H1
  obtain ⟨d3, hdd⟩ : ∃ d, V2.heap.size = d := ⟨_, rfl⟩
  have HDD : Hid (V2.heap.size = d3) := hdd
  go_wp2_with (with_reducible change wpList _ _ _ ({ dst := none, op := Op.store 25 _ _, type := _, pos := _, after := _, guard := _ } :: _) _ _; refine Hid.out ?_)
  show wpList _ _ _ _ _ _
  refine wpList_store_blk rfl 25 (.tmp 3) (.tmp 11) rfl d3 0 25 Z q.cells rfl rfl (by rw [← HDD.out]; exact Blk.new V2 _ _) (by rw [HZL.out]; show 5 ≤ 5; omega) (info25 q) q.one ?_
  intro V3 hx1 hg1
  have hb3 : Below V2.heap.size V2 V3 := below_gr (below_al V2 _) hg1.out (by rw [HDD.out]; exact Nat.le_refl _)
  have H3 : Hid (LT p ∧ PR V3 p ∧ PR V3 q ∧ Below w.heap.size w V3 ∧ Blk V3 d1 25 p.cells ∧ Blk V3 d3 25 q.cells ∧ Tw p q) := ⟨H2.out.1, H2.out.2.1.below hb3, HQ.out.1.below hb3, below_tr H2.out.2.2.1 hb3, H2.out.2.2.2.below hb3 H2.out.2.2.2.lt, blk_all hx1.out (by rw [HZL.out]; rfl), HQ.out.2⟩
  clear hx1 hg1 hb3 hdd HDD HQ H2 hZ
  obtain ⟨E, hE⟩ : ∃ E, chk p = E := ⟨_, rfl⟩
  have HE : Hid (chk p = E ∧ chk q = E) := ⟨hE, H3.out.2.2.2.2.2.2.chk.trans hE⟩
  clear hE
  go_wp2_with (with_reducible change wpList _ _ _ ({ dst := some 12, op := _, type := _, pos := _, after := _, guard := _ } :: _) _ _; refine Hid.out ?_)
  show wpList _ _ _ _ _ _
  refine wpList_load_mid rfl 25 (.tmp 3) rfl d3 0 rfl q.cells _ H3.out.2.2.2.2.2.1.range0 Try.underlying25 rfl (info25 q) ?_
  go_wp2_with fail
  refine (check_is V3 q H3.out.2.2.1 E HE.out.2).mono ?_
  rintro e V4 ⟨rfl, hb4⟩
  have H4 : Hid (LT p ∧ PR V4 p ∧ PR V4 q ∧ Below w.heap.size w V4 ∧ Blk V4 d1 25 p.cells ∧ Blk V4 d3 25 q.cells ∧ Tw p q) := ⟨H3.out.1, H3.out.2.1.below hb4, H3.out.2.2.1.below hb4, below_tr H3.out.2.2.2.1 hb4, H3.out.2.2.2.2.1.below hb4 H3.out.2.2.2.2.1.lt, H3.out.2.2.2.2.2.1.below hb4 H3.out.2.2.2.2.2.1.lt, H3.out.2.2.2.2.2.2⟩
  clear hb4 H3
  go_wp2_with (with_reducible change wpList _ _ _ ({ dst := some 14, op := _, type := _, pos := _, after := _, guard := _ } :: _) _ _; refine Hid.out ?_)
  show wpList _ _ _ _ _ _
  refine wpList_load_mid rfl 25 (.tmp 3) rfl d3 0 rfl q.cells _ H4.out.2.2.2.2.2.1.range0 Try.underlying25 rfl (info25 q) ?_
  go_wp2_with fail
  refine (paths_is V4 q H4.out.2.2.1 (by rw [H4.out.2.2.2.2.2.2.on]; exact H4.out.1.2.1)).mono ?_
  rintro e V5 ⟨v5, rfl, ht5, hb5⟩
  rw [H4.out.2.2.2.2.2.2.paths] at ht5
  have H5 : Hid (LT p ∧ PR V5 p ∧ PR V5 q ∧ Below w.heap.size w V5 ∧ Blk V5 d1 25 p.cells ∧ Blk V5 d3 25 q.cells ∧ Tw p q ∧ TS V5 v5 (pathsB p.O)) := ⟨H4.out.1, H4.out.2.1.below hb5, H4.out.2.2.1.below hb5, below_tr H4.out.2.2.2.1 hb5, H4.out.2.2.2.2.1.below hb5 H4.out.2.2.2.2.1.lt, H4.out.2.2.2.2.2.1.below hb5 H4.out.2.2.2.2.2.1.lt, H4.out.2.2.2.2.2.2, ht5.out⟩
  clear hb5 ht5 H4
  go_wp2_with (with_reducible change wpList _ _ _ ({ dst := some 17, op := _, type := _, pos := _, after := _, guard := _ } :: _) _ _; refine Hid.out ?_)
  show wpList _ _ _ _ _ _
  refine wpList_load_mid rfl 25 (.tmp 1) rfl d1 0 rfl p.cells _ H5.out.2.2.2.2.1.range0 Try.underlying25 rfl (info25 p) ?_
  go_wp2_with fail
  refine (rcheck_is V5 p H5.out.2.1 (by have := H5.out.1.1; omega) E HE.out.1).mono ?_
  rintro e V6 ⟨rfl, hb6⟩
  have H6 : Hid (LT p ∧ PR V6 p ∧ PR V6 q ∧ Below w.heap.size w V6 ∧ Blk V6 d1 25 p.cells ∧ Blk V6 d3 25 q.cells ∧ Tw p q ∧ TS V6 v5 (pathsB p.O)) := ⟨H5.out.1, H5.out.2.1.below hb6, H5.out.2.2.1.below hb6, below_tr H5.out.2.2.2.1 hb6, H5.out.2.2.2.2.1.below hb6 H5.out.2.2.2.2.1.lt, H5.out.2.2.2.2.2.1.below hb6 H5.out.2.2.2.2.2.1.lt, H5.out.2.2.2.2.2.2.1, H5.out.2.2.2.2.2.2.2.below hb6⟩
  clear hb6 H5
  go_wp2_with (with_reducible change wpList _ _ _ ({ dst := some 22, op := _, type := _, pos := _, after := _, guard := _ } :: _) _ _; refine Hid.out ?_)
  show wpList _ _ _ _ _ _
  refine wpList_load_want (by kernel_rfl) 25 (.tmp 1) rfl d1 0 rfl p.cells _ H6.out.2.2.2.2.1.range0 Try.underlying25 rfl (info25 p) ?_
  go_wp2_with fail
  refine (rpaths_is V6 p H6.out.2.1 H6.out.1.2.1).mono ?_
  rintro e V7 ⟨v7, rfl, ht7, hb7⟩
  obtain ⟨P, hP⟩ : ∃ P, pathsB p.O = P := ⟨_, rfl⟩
  have hPl : P.length ≤ 300 := by
    have h1 := pathsB_len p.O p.O.length
    rw [List.take_length, hP, H6.out.2.1.ops.1] at h1
    have := H6.out.1.2.1
    omega
  have h5 := H6.out.2.2.2.2.2.2.2.below hb7
  have h7 := ht7.out
  rw [hP] at h5 h7
  obtain ⟨a5, c5, rfl, hs5⟩ := h5.strs
  obtain ⟨a7, c7, rfl, hs7⟩ := h7.strs
  have H7 : Hid (LT p ∧ PR V7 p ∧ PR V7 q ∧ Below w.heap.size w V7 ∧ Blk V7 d1 25 p.cells ∧ Blk V7 d3 25 q.cells ∧ Tw p q ∧ Strs V7 a5 P.length P ∧ Strs V7 a7 P.length P ∧ P.length ≤ 300) := ⟨H6.out.1, H6.out.2.1.below hb7, H6.out.2.2.1.below hb7, below_tr H6.out.2.2.2.1 hb7, H6.out.2.2.2.2.1.below hb7 H6.out.2.2.2.2.1.lt, H6.out.2.2.2.2.2.1.below hb7 H6.out.2.2.2.2.2.1.lt, H6.out.2.2.2.2.2.2.1, hs5, hs7, hPl⟩
  clear hb7 H6 ht7 h5 h7 hs5 hs7 hPl hP
  go_wp2_with fail
  refine (eqS13 V7 a5 a7 P.length c5 P.length c7 P P H7.out.2.2.2.2.2.2.2.1 H7.out.2.2.2.2.2.2.2.2.1 (by have := H7.out.2.2.2.2.2.2.2.2.2; omega) (by have := H7.out.2.2.2.2.2.2.2.2.2; omega) true (decide_eq_true rfl)).mono ?_
  rintro e V8 ⟨rfl, hb8⟩
  have H8 : Hid (LT p ∧ PR V8 p ∧ PR V8 q ∧ Below w.heap.size w V8 ∧ Blk V8 d1 25 p.cells ∧ Blk V8 d3 25 q.cells ∧ Tw p q) := ⟨H7.out.1, H7.out.2.1.below hb8, H7.out.2.2.1.below hb8, below_tr H7.out.2.2.2.1 hb8, H7.out.2.2.2.2.1.below hb8 H7.out.2.2.2.2.1.lt, H7.out.2.2.2.2.2.1.below hb8 H7.out.2.2.2.2.2.1.lt, H7.out.2.2.2.2.2.2.1⟩
  clear hb8 H7
  go_wp2_with (with_reducible change wpList _ _ _ ({ dst := some 27, op := _, type := _, pos := _, after := _, guard := _ } :: _) _ _; refine Hid.out ?_)
  show wpList _ _ _ _ _ _
  refine wpList_load_want (by kernel_rfl) 25 (.tmp 1) rfl d1 0 rfl p.cells _ H8.out.2.2.2.2.1.range0 Try.underlying25 rfl (info25 p) ?_
  go_wp2_with (with_reducible change wpList _ _ _ ({ dst := some 28, op := _, type := _, pos := _, after := _, guard := _ } :: _) _ _; refine Hid.out ?_)
  show wpList _ _ _ _ _ _
  refine wpList_load_want (by kernel_rfl) 25 (.tmp 3) rfl d3 0 rfl q.cells _ H8.out.2.2.2.2.2.1.range0 Try.underlying25 rfl (info25 q) ?_
  go_wp2_with fail
  refine (rsame_is V8 p q H8.out.2.1 H8.out.2.2.1 (by have := H8.out.1.1; omega) (by rw [H8.out.2.2.2.2.2.2.dn]; have := H8.out.1.1; omega) true H8.out.2.2.2.2.2.2.same).mono ?_
  rintro e V9 ⟨rfl, hb9⟩
  have H9 : Hid (Below w.heap.size w V9) := below_tr H8.out.2.2.2.1 hb9
  clear hb9 H8
  go_wp2_with fail
  refine (lives_is V9).mono ?_
  rintro e Va ⟨rfl, hba⟩
  have HF : Hid (Below w.heap.size w Va) := below_tr H9.out hba
  clear hba H9
  go_wp2
  go_ret
  exact ⟨rfl, HF.out⟩
end Go.Proofs.Ytgdecjacbkicmaa.Oct
