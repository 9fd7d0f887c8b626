/-
  Layer 12 (deps): a row of numbers that is the call's own: slices.Delete, BinarySearch and Insert of it.
-/
import Derived.Test.YtijkpkcopjkhkaaShelf2
namespace Go.Proofs.Ytijkpkcopjkhkaa.Oct
open Go.RowKit Go.Shelf Go.Lib Go.Sort

theorem own_blk {w : World} {B g cap : Nat} {L : List Value} {xs : List Nat} (hb : Blk w g 3 L) (ht : L.take xs.length = IV xs) (hc : L.length = cap) (hn : xs.length ≤ cap) (hm : cap ≤ maxLen) (hB : B ≤ g) : w.ownsRow B 3 1 (.slice (some ⟨g, 0, none⟩) xs.length cap) xs.length (IV xs) :=
  ⟨by rw [IV_length]; omega, .inr ⟨g, cap, L.toArray, rfl, hB, hb, hn, hm, by simp [hc], by simpa using ht⟩⟩
theorem own_out {w : World} {B : Nat} {v : Value} {xs : List Nat} (h : w.ownsRow B 3 1 v xs.length (IV xs)) : (v = .slice none 0 0 ∧ xs = []) ∨ ∃ g cap L, v = .slice (some ⟨g, 0, none⟩) xs.length cap ∧ Blk w g 3 L ∧ L.take xs.length = IV xs ∧ L.length = cap ∧ xs.length ≤ cap ∧ cap ≤ maxLen ∧ B ≤ g := by
  rcases h.2 with ⟨rfl, h0⟩ | ⟨g, cap, cur, rfl, h1, h2, h3, h4, h5, h6⟩
  · exact .inl ⟨rfl, List.eq_nil_of_length_eq_zero h0⟩
  · exact .inr ⟨g, cap, cur.toList, rfl, by simpa [Blk] using h2, by simpa using h6, by simpa using h5, h3, h4, h1⟩
theorem take_cell {w : World} {g : Nat} {L : List Value} {xs : List Nat} (hb : Blk w g 3 L) (ht : L.take xs.length = IV xs) (j : Nat) (v : Value) (hj : (IV xs)[j]? = some v) : w.cell? ⟨g, 0 + j, none⟩ = some v := by
  have hlt := (List.getElem?_eq_some_iff.1 hj).1
  rw [IV_length] at hlt
  rw [← ht, List.getElem?_take_of_lt hlt] at hj
  rw [Nat.zero_add]
  exact hb.cell hj

theorem holds_IV {w : World} {g : Nat} {L : List Value} {xs : List Nat} (hb : Blk w g 3 L) (ht : L.take xs.length = IV xs) : Holds (Value.int .i64) w g 0 (xs.map (fun (n : Nat) => (n : Int))).toArray := by
  intro j hj
  refine ⟨take_cell hb ht j _ ?_, by rw [Nat.zero_add]; exact hb.free j⟩
  have hj' : j < xs.length := by simpa using hj
  rw [getElem!_pos _ j hj]
  simp [IV, List.getElem?_eq_getElem hj']
set_option maxHeartbeats 1000000 in
theorem del_is (w : World) (B g cap y : Nat) (ys : List Nat) (ho : w.ownsRow B 3 1 (.slice (some ⟨g, 0, none⟩) (y :: ys).length cap) (y :: ys).length (IV (y :: ys))) :
    Calls Try.prog 36 #[.slice (some ⟨g, 0, none⟩) (ys.length + 1) cap, .int .i64 0, .int .i64 1] w fun e w' => e = .returned (.slice (some ⟨g, 0, none⟩) ys.length cap) ∧ Hid (w'.ownsRow B 3 1 (.slice (some ⟨g, 0, none⟩) ys.length cap) ys.length (IV ys)) ∧ Hid (w.grownBy w' (some g)) := by
  rcases own_out ho with ⟨h, _⟩ | ⟨g', cap', L, h1, h2, h3, h4, h5, h6, h7⟩
  · cases h
  obtain ⟨rfl, rfl⟩ : g = g' ∧ cap = cap' := by
    simp only [Value.slice.injEq, Option.some.injEq, Addr.mk.injEq] at h1
    exact ⟨h1.1.1, h1.2.2⟩
  have hH := holds_IV h2 h3
  have hc := Any.slices_Delete_int laysDel g 0 cap 0 1 ((y :: ys).map (fun (n : Nat) => (n : Int))) w hH (by simpa using h5) (by simpa [maxLen] using h6) (by omega) (by simp)
  simp only [List.length_map, List.length_cons] at hc
  refine Calls.mono hc ?_
  rintro e w' ⟨rfl, q, rfl⟩
  refine ⟨by simp, ?_, ?_⟩
  · have hb : Blk (putRow (Value.int .i64) (Go.Sort.ahead w q) g 0 (((y :: ys).map (fun (n : Nat) => (n : Int))).take 0 ++ ((y :: ys).map (fun (n : Nat) => (n : Int))).drop 1 ++ List.replicate (1 - 0) 0).toArray) g 3 (putCells (Value.int .i64) 0 (((y :: ys).map (fun (n : Nat) => (n : Int))).take 0 ++ ((y :: ys).map (fun (n : Nat) => (n : Int))).drop 1 ++ List.replicate (1 - 0) 0).toArray L.toArray).toList := by
      show _ = _
      simp [putRow, mapBlock, Array.getElem?_modify, show w.heap[g]? = _ from h2, onCells]
    refine own_blk hb ?_ (by simp [putCells, h4]) (by simp at h5; omega) h6 h7
    apply List.ext_getElem?
    intro j
    by_cases hj : j < ys.length
    · have hl : j < L.length := by simp at h5; omega
      rw [List.getElem?_take_of_lt hj]
      simp [putCells, IV, List.getElem?_eq_getElem hl, hj]
      rw [if_pos (by omega), List.getElem?_append_left (by simpa using hj)]
      simp [List.getElem?_eq_getElem hj]
    · rw [List.getElem?_eq_none (by simp; omega), List.getElem?_eq_none (by simp [IV]; omega)]
  · refine ⟨rfl, rfl, rfl, by simp, fun k hk hne => ?_⟩
    have hkg : g ≠ k := fun e => hne (by rw [e])
    simp [putRow, mapBlock, Array.getElem?_modify, hkg]
#print axioms del_is

theorem sea_is (w : World) (B : Nat) (v : Value) (xs : List Nat) (x : Nat) (ho : w.ownsRow B 3 1 v xs.length (IV xs)) (hs : xs.Pairwise (· < ·)) (hn : xs.length ≤ 1000000) :
    Calls Try.prog 37 #[v, .int .i64 (x : Int)] w fun e w' => (∃ b : Bool, e = .returned (.tuple #[.int .i64 ((xs.countP (fun y => decide (y < x)) : Nat) : Int), .bool b])) ∧ ∃ q, w' = w.drewN q := by
  rcases own_out ho with ⟨rfl, rfl⟩ | ⟨g, cap, L, rfl, h2, h3, h4, h5, h6, h7⟩
  · refine Calls.mono (Any.slices_BinarySearch_int_empty laysSea none 0 (x : Int) w) ?_
    rintro e w' ⟨rfl, rfl⟩
    exact ⟨⟨false, rfl⟩, 0, rfl⟩
  · have hc := Any.slices_BinarySearch_int laysSea g 0 xs.length cap (xs.map (fun (n : Nat) => (n : Int))) (x : Int) w (by simp) (by omega) (fun j hj => by
      have hj' : j < xs.length := by simpa using hj
      refine take_cell h2 h3 j _ ?_
      simp [IV, List.getElem?_eq_getElem hj', List.getD_eq_getElem?_getD]) (by
      rw [List.take_of_length_le (by simp)]
      exact List.pairwise_map.2 (hs.imp (fun h => by omega)))
    refine Calls.mono hc ?_
    rintro e w' ⟨rfl, q, rfl⟩
    refine ⟨⟨((xs.map (fun (n : Nat) => (n : Int))).take xs.length).contains (x : Int), ?_⟩, q, rfl⟩
    rw [List.take_of_length_le (by simp)]
    have e : (xs.map (fun (n : Nat) => (n : Int))).countP (fun z => decide (z < (x : Int))) = xs.countP (fun y => decide (y < x)) := by
      rw [List.countP_map]
      exact List.countP_congr (fun y _ => by simp)
    rw [e]
#print axioms sea_is

/-- a number put into a list -/
def insAt (k y : Nat) (xs : List Nat) : List Nat := xs.take k ++ y :: xs.drop k
theorem insAt_length {k y : Nat} {xs : List Nat} : (insAt k y xs).length = xs.length + 1 := by
  simp only [insAt, List.length_append, List.length_take, List.length_cons, List.length_drop]; omega
theorem IV_take (k : Nat) (xs : List Nat) : IV (xs.take k) = (IV xs).take k := by simp [IV, List.map_take]
theorem IV_drop (k : Nat) (xs : List Nat) : IV (xs.drop k) = (IV xs).drop k := by simp [IV, List.map_drop]
theorem IV_ins (k y : Nat) (xs : List Nat) : IV (insAt k y xs) = (IV xs).take k ++ .int .i64 (y : Int) :: (IV xs).drop k := by
  unfold insAt
  rw [IV_append, ← IV_take, ← IV_drop]; rfl
theorem own_ins {w : World} {B g cap k y : Nat} {L : List Value} {xs : List Nat} (hb : Blk w g 3 L) (ht : L.take (xs.length + 1) = IV (insAt k y xs)) (hc : L.length = cap) (hn : xs.length + 1 ≤ cap) (hm : cap ≤ maxLen) (hB : B ≤ g) : w.ownsRow B 3 1 (.slice (some ⟨g, 0, none⟩) (xs.length + 1) cap) (xs.length + 1) (IV (insAt k y xs)) := by
  have := own_blk (B := B) (cap := cap) (xs := insAt k y xs) hb (by rw [insAt_length]; exact ht) hc (by rw [insAt_length]; exact hn) hm hB
  rw [insAt_length] at this
  exact this
theorem grown_drew (w : World) (row : Option Nat) : w.grownBy w.drew row := grown_drewN w 1 row
theorem grown_new (w : World) (o : Obj) (row : Option Nat) : w.grownBy (w.drew.alloc o) row :=
  ⟨rfl, rfl, rfl, by simp, fun k hk _ => Below.heap_alloc w.drew o k hk⟩
theorem ins_list {C D : List Value} {k n : Nat} {y : Value} (hD : D.length = n) (hC : C.take n = D) (hk : k ≤ n) (hn : n + 1 ≤ C.length) :
    (((C.take (k + 1) ++ D.drop k ++ C.drop (k + 1 + (D.drop k).length)).take k ++ [y] ++ (C.take (k + 1) ++ D.drop k ++ C.drop (k + 1 + (D.drop k).length)).drop (k + 1))).take (n + 1) = D.take k ++ y :: D.drop k := by
  have h1 : (C.take (k + 1) ++ D.drop k ++ C.drop (k + 1 + (D.drop k).length)).take k = D.take k := by
    rw [List.append_assoc, List.take_append_of_le_length (by rw [List.length_take]; omega), List.take_take, Nat.min_eq_left (by omega), ← hC, List.take_take, Nat.min_eq_left hk]
  have h2 : (C.take (k + 1) ++ D.drop k ++ C.drop (k + 1 + (D.drop k).length)).drop (k + 1) = D.drop k ++ C.drop (k + 1 + (D.drop k).length) := by
    rw [List.append_assoc, List.drop_append_of_le_length (by rw [List.length_take]; omega), List.drop_of_length_le (by rw [List.length_take]; omega)]; rfl
  rw [h1, h2, List.append_assoc, List.singleton_append, ← List.cons_append, ← List.append_assoc]
  rw [List.take_append_of_le_length (by simp only [List.length_append, List.length_take, List.length_cons, List.length_drop]; omega)]
  exact List.take_of_length_le (by simp only [List.length_append, List.length_take, List.length_cons, List.length_drop]; omega)
theorem set_len {C : List Value} {k : Nat} {y : Value} (h : k < C.length) : (C.take k ++ [y] ++ C.drop (k + 1)).length = C.length := by
  simp only [List.length_append, List.length_take, List.length_drop, List.length_singleton]; omega
theorem ins_list2 {C D : List Value} {k n : Nat} {y : Value} (hD : D.length = n) (hC : C.take k = D.take k) (hk : k ≤ n) (hn : n + 1 ≤ C.length) :
    ((C.take k ++ [y] ++ C.drop (k + 1)).take (k + 1) ++ D.drop k ++ (C.take k ++ [y] ++ C.drop (k + 1)).drop (k + 1 + (D.drop k).length)).take (n + 1) = D.take k ++ y :: D.drop k := by
  have h1 : (C.take k ++ [y] ++ C.drop (k + 1)).take (k + 1) = D.take k ++ [y] := by
    rw [List.take_append_of_le_length (by simp; omega), hC]
    exact List.take_of_length_le (by simp; omega)
  rw [h1, List.take_append_of_le_length (by simp; omega)]
  rw [List.take_of_length_le (by simp; omega)]
  simp
theorem ins_len2 {C D : List Value} {k n : Nat} (hD : D.length = n) (hk : k ≤ n) (hn : n + 1 ≤ C.length) : (C.take (k + 1) ++ D.drop k ++ C.drop (k + 1 + (D.drop k).length)).length = C.length := by
  simp only [List.length_append, List.length_take, List.length_drop]; omega
set_option maxHeartbeats 1000000 in
theorem ins_is (w : World) (B : Nat) (v : Value) (xs : List Nat) (k y vb : Nat) (ho : w.ownsRow B 3 1 v xs.length (IV xs)) (hk : k ≤ xs.length) (hn : xs.length ≤ 1000000) (hvb : Blk w vb 3 [.int .i64 (y : Int)]) (hne : v.ownBlock ≠ some vb) (hB : B ≤ w.heap.size) :
    Calls Try.prog 38 #[v, .int .i64 (k : Int), .slice (some ⟨vb, 0, none⟩) 1 1] w fun e w' => ∃ v', e = .returned v' ∧ Hid (w'.ownsRow B 3 1 v' (xs.length + 1) (IV (insAt k y xs))) ∧ Hid (w.grownBy w' v.ownBlock) ∧ Hid (v'.ownBlock = v.ownBlock ∨ v'.ownBlock = some w.heap.size) := by
  have hvs : ∀ j u, [Value.int .i64 (y : Int)][j]? = some u → w.cell? ⟨vb, 0 + j, none⟩ = some u := fun j u hj => by
    rw [Nat.zero_add]; exact hvb.cell hj
  have h1v : ∀ u ∈ [Value.int .i64 (y : Int)], u.oneCell' = true := by simp [Value.oneCell']
  have h63 : xs.length + 1 ≤ maxLen := by unfold maxLen; omega
  by_cases hke : k = xs.length
  · subst hke
    have hfull : insAt xs.length y xs = xs ++ [y] := by unfold insAt; rw [List.take_of_length_le (Nat.le_refl _), List.drop_of_length_le (Nat.le_refl _)]
    have hgrow : ∀ (base : Option Addr) (c : Nat), xs.length ≤ c → c < xs.length + 1 → (base = none → xs.length = 0) → (∀ a, base = some a → ∀ j u, (IV xs)[j]? = some u → w.cell? (a.add j) = some u) → v = .slice base xs.length c →
        Calls Try.prog 38 #[v, .int .i64 (xs.length : Int), .slice (some ⟨vb, 0, none⟩) 1 1] w fun e w' => ∃ v', e = .returned v' ∧ Hid (w'.ownsRow B 3 1 v' (xs.length + 1) (IV (insAt xs.length y xs))) ∧ Hid (w.grownBy w' v.ownBlock) ∧ Hid (v'.ownBlock = v.ownBlock ∨ v'.ownBlock = some w.heap.size) := by
      intro base c h1 h2 h3 h4 h5
      have hc := Any2.slices_Insert_int_end_grow laysIns base xs.length c vb 0 1 1 (IV xs) [.int .i64 (y : Int)] w (by omega) h1 h2 (by omega) (IV_length xs) rfl h3 h4 hvs h1v
      rw [h5]
      refine Calls.mono hc ?_
      rintro e w' ⟨rfl, rfl⟩
      have hown := own_of_grown (w := w) (B := B) (e := 3) (sz := 1) (n := xs.length) (m := 1) (old := c) (z := .int .i64 0) (xs := IV xs) (news := [.int .i64 (y : Int)]) rfl (by rw [IV_length]; omega) rfl hB h63
      refine ⟨_, rfl, ?_, ?_, .inr rfl⟩
      · show World.ownsRow _ _ _ _ _ _ _
        rw [hfull, IV_append]
        have e1 : (IV xs ++ [Value.int .i64 (y : Int)]).toArray = (IV xs).toArray ++ [Value.int .i64 (y : Int)].toArray := by simp
        rw [e1]
        exact hown
      · exact grown_new w _ _
    rcases own_out ho with ⟨rfl, h0⟩ | ⟨g, cap, L, h1, h2, h3, h4, h5, h6, h7⟩
    · exact hgrow none 0 (by rw [h0]; simp) (by omega) (fun _ => by rw [h0]; rfl) (fun a e => by cases e) (by rw [h0]; rfl)
    · by_cases hroom : xs.length + 1 ≤ cap
      · have hc := Any2.slices_Insert_int_end_room laysIns g 0 xs.length cap vb 0 1 1 [.int .i64 (y : Int)] w (by omega) hroom (by simpa [maxLen] using h6) rfl
          (fun j hj => by
            have : j = 0 := by omega
            subst this
            have := h2.cell (List.getElem?_eq_getElem (show xs.length < L.length by omega))
            simp only [Nat.zero_add, Nat.add_zero]
            rw [this]; rfl) (fun j hj => by simp only [Nat.zero_add]; exact h2.free _) hvs h1v
        rw [h1]
        refine Calls.mono hc ?_
        rintro e w' ⟨rfl, rfl⟩
        have hst := Blk.setCells [.int .i64 (y : Int)] (0 + xs.length) w L h2 (by simp; omega)
        refine ⟨_, rfl, ?_, hst.2, .inl rfl⟩
        refine own_ins hst.1 ?_ (by simp; omega) hroom h6 h7
        rw [hfull, IV_append, ← h3]
        simp only [Nat.zero_add, List.length_singleton]
        rw [List.take_append_of_le_length (by simp; omega)]
        exact List.take_of_length_le (by simp; omega)
      · exact hgrow (some ⟨g, 0, none⟩) cap h5 (by omega) (fun e => by cases e) (fun a e j u hj => by
          simp only [Option.some.injEq] at e
          subst e
          have := take_cell h2 h3 j u hj
          rw [Addr.add_lit]; exact this) h1
  · have hkl : k < xs.length := by omega
    rcases own_out ho with ⟨rfl, h0⟩ | ⟨g, cap, L, h1, h2, h3, h4, h5, h6, h7⟩
    · rw [h0] at hkl; simp at hkl
    · have hgv : vb ≠ g := by
        intro e
        apply hne
        rw [h1, e]; rfl
      by_cases hroom : xs.length + 1 ≤ cap
      · have hc := Any2.slices_Insert_int_shift laysIns g 0 xs.length cap k vb 0 1 1 (IV xs) [.int .i64 (y : Int)] w hkl (by omega) hroom (by simpa [maxLen] using h6) hgv (IV_length xs) rfl
          (fun j u hj => take_cell h2 h3 j u hj)
          (fun j hj => by
            have := h2.cell (List.getElem?_eq_getElem (show j < L.length by omega))
            rw [Nat.zero_add, this]; rfl) (fun j hj => by rw [Nat.zero_add]; exact h2.free _) hvs (IV_one xs) h1v
          3 3 1 L.length (by unfold World.shape?; rw [show w.heap[vb]? = _ from hvb]; rfl) (by unfold World.shape?; rw [show w.heap[g]? = _ from h2]; simp) (by omega) (hvb.free 0) (hvb.free 1)
        rw [h1]
        refine Calls.mono hc ?_
        rintro e w' ⟨rfl, rfl⟩
        have hs1 := Blk.setCells ((IV xs).drop k) (0 + (k + 1)) w.drew L h2 (by rw [List.length_drop, IV_length]; omega)
        have hs2 := Blk.setCells [.int .i64 (y : Int)] (0 + k) _ _ hs1.1 (by simp [IV_length]; omega)
        refine ⟨_, rfl, ?_, grown_tr (grown_drew w (some g)) (grown_tr hs1.2 hs2.2), .inl rfl⟩
        refine own_ins hs2.1 ?_ (by simp [IV_length]; omega) hroom h6 h7
        rw [IV_ins]
        simp only [Nat.zero_add, List.length_singleton]
        exact ins_list (IV_length xs) h3 hk (by omega)
      · have hc := Any2.slices_Insert_int_grow laysIns g 0 xs.length cap k vb 0 1 1 (IV xs) [.int .i64 (y : Int)] w hkl (by omega) h5 (by omega) (by omega) (IV_length xs) rfl
          (fun j u hj => take_cell h2 h3 j u hj) hvs (IV_one xs) h1v
        rw [h1]
        refine Calls.mono hc ?_
        rintro e w' ⟨rfl, rfl⟩
        have hge := grownCap_ge w (xs.length + 1) cap (laysIns_ren.t 3)
        have hcm := grownCap_le_maxLen w (xs.length + 1) cap (laysIns_ren.t 3) h63
        obtain ⟨C, hC⟩ : ∃ C, grownCap w (xs.length + 1) cap (laysIns_ren.t 3) = C := ⟨_, rfl⟩
        rw [hC] at hge hcm ⊢
        have hz : ∀ n, (Builtin.zeroCells (Value.int .i64 0).cells n).size = n := fun n => by rw [size_zeroCells]; simp [cells_int]
        obtain ⟨X0, hX0⟩ : ∃ X0 : Array Value, (((IV xs).take k).toArray ++ Builtin.zeroCells (Value.int .i64 0).cells (xs.length + 1 - k) ++ Builtin.zeroCells (Value.int .i64 0).cells (C - (xs.length + 1))) = X0 := ⟨_, rfl⟩
        have hl0 : X0.toList.length = C := by
          rw [← hX0]
          simp only [Array.length_toList, Array.size_append, hz, List.size_toArray, List.length_take, IV_length]; omega
        have ht0 : X0.toList.take k = (IV xs).take k := by
          rw [← hX0]
          simp only [Array.toList_append, List.append_assoc]
          rw [List.take_append_of_le_length (by simp [IV_length]; omega)]
          exact List.take_of_length_le (by simp; exact Nat.min_le_left _ _)
        rw [hX0]
        have hb0 := Blk.new w X0 3
        have hs1 := Blk.setCells [.int .i64 (y : Int)] k _ _ hb0.drew (by rw [hl0]; simp; omega)
        have hl1 := set_len (C := X0.toList) (k := k) (y := .int .i64 (y : Int)) (by omega)
        have hs2 := Blk.setCells ((IV xs).drop k) (k + 1) _ _ hs1.1.drew (by rw [List.length_singleton, hl1, hl0, List.length_drop, IV_length]; omega)
        refine ⟨_, rfl, ?_, ?_, .inr rfl⟩
        · refine own_ins hs2.1 ?_ ?_ hge hcm hB
          · rw [IV_ins]
            exact ins_list2 (IV_length xs) ht0 hk (by omega)
          · have := ins_len2 (C := X0.toList.take k ++ [.int .i64 (y : Int)] ++ X0.toList.drop (k + 1)) (IV_length xs) hk (by rw [hl1, hl0]; exact hge)
            rw [hl1, hl0] at this
            exact this
        · have g1 : w.grownBy (w.alloc (.cells X0 3)) (some g) := ⟨rfl, rfl, rfl, by simp, fun j hj _ => Below.heap_alloc w _ j hj⟩
          have g2 := hs1.2
          have g3 := hs2.2
          refine ⟨?_, ?_, ?_, ?_, fun j hj hne2 => ?_⟩
          · exact g3.os.trans (g2.os.trans g1.os)
          · exact g3.tape.trans (g2.tape.trans g1.tape)
          · exact g3.output.trans (g2.output.trans g1.output)
          · exact Nat.le_trans g1.size (Nat.le_trans g2.size g3.size)
          · have hj2 : j < (w.alloc (.cells X0 3)).heap.size := by simp; omega
            have hjn : some j ≠ some w.heap.size := by simp only [ne_eq, Option.some.injEq]; omega
            exact (g3.block j (Nat.lt_of_lt_of_le hj2 g2.size) hjn).trans ((g2.block j hj2 hjn).trans (Below.heap_alloc w _ j hj))
#print axioms ins_is
end Go.Proofs.Ytijkpkcopjkhkaa.Oct
