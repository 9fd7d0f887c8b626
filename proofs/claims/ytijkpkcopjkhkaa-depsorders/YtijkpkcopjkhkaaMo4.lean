/-
  Layer 12 (deps): slices.Delete, BinarySearch and Insert of numbers as this program bears them.
  Layer 12 (deps): a row of numbers that is the call's own: slices.Delete, BinarySearch and Insert of it.
  Layer 12 (deps): the order by numbers, as lists.
  Layer 12 (deps): orderOf.
  Layer 12 (deps): what the numbers of a web say of the items.
  Layer 12 (deps): Order.
  Layer 12 (deps): the steps as items tell them; needs and above mirror each other.
  Layer 12 (deps): the chapter's example in memory.
-/
import Derived.Test.YtijkpkcopjkhkaaMo3
import Derived.Shelf.Slices.Delete
import Derived.Shelf.Slices.SearchI
import Derived.Shelf.Slices.Empties
import Derived.Shelf.Spec.SlicesInsert
import Derived.Shelf.Spec.SlicesInsertGrow
/- Layer 12 (deps): slices.Delete, BinarySearch and Insert of numbers as this program bears them. -/
namespace Go.Proofs.Ytijkpkcopjkhkaa.Oct
open Go.Shelf
def laysDel_ren : Go.Shelf.Ren := ⟨fun | 23 => 36 | n => n, fun | 22 => 56 | 3 => 3 | 4 => 4 | 0 => 0 | n => n, fun | n => n⟩
theorem laysDel : Go.Proofs.Lays2.n23 Try.prog laysDel_ren := {
  mixed := by kernel_rfl
  f23 := Try.func36.trans (congrArg some (by kernel_rfl))
  t0 := Try.underlying0
  a0 := Try.isAgg0
  z0 := Try.sizeOf0
  v0 := Try.zeroValue0
  t3 := Try.underlying3
  a3 := Try.isAgg3
  z3 := Try.sizeOf3
  v3 := Try.zeroValue3
  t4 := Try.underlying4
  a4 := Try.isAgg4
  z4 := Try.sizeOf4
  v4 := Try.zeroValue4
  t22 := Try.underlying56
  a22 := Try.isAgg56
  z22 := Try.sizeOf56
  v22 := Try.zeroValue56
  i3 := by kernel_rfl }
def laysSea_ren : Go.Shelf.Ren := ⟨fun | 25 => 37 | 31 => 42 | 32 => 43 | 37 => 48 | n => n, fun | 22 => 56 | 3 => 3 | 4 => 4 | 40 => 41 | 0 => 0 | n => n, fun | n => n⟩
theorem laysSea : Go.Proofs.Lays2.n25 Try.prog laysSea_ren := {
  mixed := by kernel_rfl
  f25 := Try.func37.trans (congrArg some (by kernel_rfl))
  f31 := Try.func42.trans (congrArg some (by kernel_rfl))
  f32 := Try.func43.trans (congrArg some (by kernel_rfl))
  f37 := Try.func48.trans (congrArg some (by kernel_rfl))
  t0 := Try.underlying0
  a0 := Try.isAgg0
  z0 := Try.sizeOf0
  v0 := Try.zeroValue0
  t3 := Try.underlying3
  a3 := Try.isAgg3
  z3 := Try.sizeOf3
  v3 := Try.zeroValue3
  t4 := Try.underlying4
  a4 := Try.isAgg4
  z4 := Try.sizeOf4
  v4 := Try.zeroValue4
  t22 := Try.underlying56
  a22 := Try.isAgg56
  z22 := Try.sizeOf56
  v22 := Try.zeroValue56
  t40 := Try.underlying41
  a40 := Try.isAgg41
  z40 := Try.sizeOf41
  v40 := Try.zeroValue41 }
def laysIns_ren : Go.Shelf.Ren := ⟨fun | 21 => 38 | 27 => 44 | 28 => 45 | 35 => 49 | 39 => 52 | n => n, fun | 22 => 56 | 3 => 3 | 4 => 4 | 0 => 0 | n => n, fun | n => n⟩
theorem laysIns : Go.Proofs.Lays2.n21 Try.prog laysIns_ren := {
  mixed := by kernel_rfl
  f21 := Try.func38.trans (congrArg some (by kernel_rfl))
  f27 := Try.func44.trans (congrArg some (by kernel_rfl))
  f28 := Try.func45.trans (congrArg some (by kernel_rfl))
  f35 := Try.func49.trans (congrArg some (by kernel_rfl))
  f39 := Try.func52.trans (congrArg some (by kernel_rfl))
  t0 := Try.underlying0
  a0 := Try.isAgg0
  z0 := Try.sizeOf0
  v0 := Try.zeroValue0
  t3 := Try.underlying3
  a3 := Try.isAgg3
  z3 := Try.sizeOf3
  v3 := Try.zeroValue3
  t4 := Try.underlying4
  a4 := Try.isAgg4
  z4 := Try.sizeOf4
  v4 := Try.zeroValue4
  t22 := Try.underlying56
  a22 := Try.isAgg56
  z22 := Try.sizeOf56
  v22 := Try.zeroValue56
  i3 := by kernel_rfl }
end Go.Proofs.Ytijkpkcopjkhkaa.Oct

/- Layer 12 (deps): a row of numbers that is the call's own: slices.Delete, BinarySearch and Insert of it. -/
namespace Go.Proofs.Ytijkpkcopjkhkaa.Oct
open Go.RowKit Go.Shelf Go.Lib Go.Sort

theorem own_blk {w : World} {B g cap : Nat} {L : List Value} {xs : List Nat} (hb : Blk w g 3 L) (ht : L.take xs.length = IV xs) (hc : L.length = cap) (hn : xs.length ≤ cap) (hm : cap ≤ maxLen) (hB : B ≤ g) : w.ownsRow B 3 1 (.slice (some ⟨g, 0, none⟩) xs.length cap) xs.length (IV xs) :=
  ⟨by rw [IV_length]; omega, .inr ⟨g, cap, L.toArray, rfl, hB, hb, hn, hm, by simp [hc], by simpa using ht⟩⟩
theorem own_out {w : World} {B : Nat} {v : Value} {xs : List Nat} (h : w.ownsRow B 3 1 v xs.length (IV xs)) : (v = .slice none 0 0 ∧ xs = []) ∨ ∃ g cap L, v = .slice (some ⟨g, 0, none⟩) xs.length cap ∧ Blk w g 3 L ∧ L.take xs.length = IV xs ∧ L.length = cap ∧ xs.length ≤ cap ∧ cap ≤ maxLen ∧ B ≤ g := by
  rcases h.2 with ⟨rfl, h0⟩ | ⟨g, cap, cur, rfl, h1, h2, h3, h4, h5, h6⟩
  · exact .inl ⟨rfl, List.eq_nil_of_length_eq_zero h0⟩
  · exact .inr ⟨g, cap, cur.toList, rfl, by simpa [Blk] using h2, by simpa using h6, by simpa using h5, h3, h4, h1⟩
theorem take_cell {w : World} {g : Nat} {L : List Value} {xs : List Nat} (hb : Blk w g 3 L) (ht : L.take xs.length = IV xs) (j : Nat) (v : Value) (hj : (IV xs)[j]? = some v) : w.cell? ⟨g, 0 + j, none⟩ = some v := by
  have hlt := (List.getElem?_eq_some_iff.1 hj).1
  rw [IV_length] at hlt
  rw [← ht, List.getElem?_take_of_lt hlt] at hj
  rw [Nat.zero_add]
  exact hb.cell hj

theorem holds_IV {w : World} {g : Nat} {L : List Value} {xs : List Nat} (hb : Blk w g 3 L) (ht : L.take xs.length = IV xs) : Holds (Value.int .i64) w g 0 (xs.map (fun (n : Nat) => (n : Int))).toArray := by
  intro j hj
  refine ⟨take_cell hb ht j _ ?_, by rw [Nat.zero_add]; exact hb.free j⟩
  have hj' : j < xs.length := by simpa using hj
  rw [getElem!_pos _ j hj]
  simp [IV, List.getElem?_eq_getElem hj']
set_option maxHeartbeats 1000000 in
theorem del_is (w : World) (B g cap y : Nat) (ys : List Nat) (ho : w.ownsRow B 3 1 (.slice (some ⟨g, 0, none⟩) (y :: ys).length cap) (y :: ys).length (IV (y :: ys))) :
    Calls Try.prog 36 #[.slice (some ⟨g, 0, none⟩) (ys.length + 1) cap, .int .i64 0, .int .i64 1] w fun e w' => e = .returned (.slice (some ⟨g, 0, none⟩) ys.length cap) ∧ Hid (w'.ownsRow B 3 1 (.slice (some ⟨g, 0, none⟩) ys.length cap) ys.length (IV ys)) ∧ Hid (w.grownBy w' (some g)) := by
  rcases own_out ho with ⟨h, _⟩ | ⟨g', cap', L, h1, h2, h3, h4, h5, h6, h7⟩
  · cases h
  obtain ⟨rfl, rfl⟩ : g = g' ∧ cap = cap' := by
    simp only [Value.slice.injEq, Option.some.injEq, Addr.mk.injEq] at h1
    exact ⟨h1.1.1, h1.2.2⟩
  have hH := holds_IV h2 h3
  have hc := Any.slices_Delete_int laysDel g 0 cap 0 1 ((y :: ys).map (fun (n : Nat) => (n : Int))) w hH (by simpa using h5) (by simpa [maxLen] using h6) (by omega) (by simp)
  simp only [List.length_map, List.length_cons] at hc
  refine Calls.mono hc ?_
  rintro e w' ⟨rfl, q, rfl⟩
  refine ⟨by simp, ?_, ?_⟩
  · have hb : Blk (putRow (Value.int .i64) (Go.Sort.ahead w q) g 0 (((y :: ys).map (fun (n : Nat) => (n : Int))).take 0 ++ ((y :: ys).map (fun (n : Nat) => (n : Int))).drop 1 ++ List.replicate (1 - 0) 0).toArray) g 3 (putCells (Value.int .i64) 0 (((y :: ys).map (fun (n : Nat) => (n : Int))).take 0 ++ ((y :: ys).map (fun (n : Nat) => (n : Int))).drop 1 ++ List.replicate (1 - 0) 0).toArray L.toArray).toList := by
      show _ = _
      simp [putRow, mapBlock, Array.getElem?_modify, show w.heap[g]? = _ from h2, onCells]
    refine own_blk hb ?_ (by simp [putCells, h4]) (by simp at h5; omega) h6 h7
    apply List.ext_getElem?
    intro j
    by_cases hj : j < ys.length
    · have hl : j < L.length := by simp at h5; omega
      rw [List.getElem?_take_of_lt hj]
      simp [putCells, IV, List.getElem?_eq_getElem hl, hj]
      rw [if_pos (by omega), List.getElem?_append_left (by simpa using hj)]
      simp [List.getElem?_eq_getElem hj]
    · rw [List.getElem?_eq_none (by simp; omega), List.getElem?_eq_none (by simp [IV]; omega)]
  · refine ⟨rfl, rfl, rfl, by simp, fun k hk hne => ?_⟩
    have hkg : g ≠ k := fun e => hne (by rw [e])
    simp [putRow, mapBlock, Array.getElem?_modify, hkg]

theorem sea_is (w : World) (B : Nat) (v : Value) (xs : List Nat) (x : Nat) (ho : w.ownsRow B 3 1 v xs.length (IV xs)) (hs : xs.Pairwise (· < ·)) (hn : xs.length ≤ 1000000) :
    Calls Try.prog 37 #[v, .int .i64 (x : Int)] w fun e w' => (∃ b : Bool, e = .returned (.tuple #[.int .i64 ((xs.countP (fun y => decide (y < x)) : Nat) : Int), .bool b])) ∧ ∃ q, w' = w.drewN q := by
  rcases own_out ho with ⟨rfl, rfl⟩ | ⟨g, cap, L, rfl, h2, h3, h4, h5, h6, h7⟩
  · refine Calls.mono (Any.slices_BinarySearch_int_empty laysSea none 0 (x : Int) w) ?_
    rintro e w' ⟨rfl, rfl⟩
    exact ⟨⟨false, rfl⟩, 0, rfl⟩
  · have hc := Any.slices_BinarySearch_int laysSea g 0 xs.length cap (xs.map (fun (n : Nat) => (n : Int))) (x : Int) w (by simp) (by omega) (fun j hj => by
      have hj' : j < xs.length := by simpa using hj
      refine take_cell h2 h3 j _ ?_
      simp [IV, List.getElem?_eq_getElem hj', List.getD_eq_getElem?_getD]) (by
      rw [List.take_of_length_le (by simp)]
      exact List.pairwise_map.2 (hs.imp (fun h => by omega)))
    refine Calls.mono hc ?_
    rintro e w' ⟨rfl, q, rfl⟩
    refine ⟨⟨((xs.map (fun (n : Nat) => (n : Int))).take xs.length).contains (x : Int), ?_⟩, q, rfl⟩
    rw [List.take_of_length_le (by simp)]
    have e : (xs.map (fun (n : Nat) => (n : Int))).countP (fun z => decide (z < (x : Int))) = xs.countP (fun y => decide (y < x)) := by
      rw [List.countP_map]
      exact List.countP_congr (fun y _ => by simp)
    rw [e]

/-- a number put into a list -/
def insAt (k y : Nat) (xs : List Nat) : List Nat := xs.take k ++ y :: xs.drop k
theorem insAt_length {k y : Nat} {xs : List Nat} : (insAt k y xs).length = xs.length + 1 := by
  simp only [insAt, List.length_append, List.length_take, List.length_cons, List.length_drop]; omega
theorem IV_take (k : Nat) (xs : List Nat) : IV (xs.take k) = (IV xs).take k := by simp [IV, List.map_take]
theorem IV_drop (k : Nat) (xs : List Nat) : IV (xs.drop k) = (IV xs).drop k := by simp [IV, List.map_drop]
theorem IV_ins (k y : Nat) (xs : List Nat) : IV (insAt k y xs) = (IV xs).take k ++ .int .i64 (y : Int) :: (IV xs).drop k := by
  unfold insAt
  rw [IV_append, ← IV_take, ← IV_drop]; rfl
theorem own_ins {w : World} {B g cap k y : Nat} {L : List Value} {xs : List Nat} (hb : Blk w g 3 L) (ht : L.take (xs.length + 1) = IV (insAt k y xs)) (hc : L.length = cap) (hn : xs.length + 1 ≤ cap) (hm : cap ≤ maxLen) (hB : B ≤ g) : w.ownsRow B 3 1 (.slice (some ⟨g, 0, none⟩) (xs.length + 1) cap) (xs.length + 1) (IV (insAt k y xs)) := by
  have := own_blk (B := B) (cap := cap) (xs := insAt k y xs) hb (by rw [insAt_length]; exact ht) hc (by rw [insAt_length]; exact hn) hm hB
  rw [insAt_length] at this
  exact this
theorem grown_drew (w : World) (row : Option Nat) : w.grownBy w.drew row := grown_drewN w 1 row
theorem grown_new (w : World) (o : Obj) (row : Option Nat) : w.grownBy (w.drew.alloc o) row :=
  ⟨rfl, rfl, rfl, by simp, fun k hk _ => Below.heap_alloc w.drew o k hk⟩
theorem ins_list {C D : List Value} {k n : Nat} {y : Value} (hD : D.length = n) (hC : C.take n = D) (hk : k ≤ n) (hn : n + 1 ≤ C.length) :
    (((C.take (k + 1) ++ D.drop k ++ C.drop (k + 1 + (D.drop k).length)).take k ++ [y] ++ (C.take (k + 1) ++ D.drop k ++ C.drop (k + 1 + (D.drop k).length)).drop (k + 1))).take (n + 1) = D.take k ++ y :: D.drop k := by
  have h1 : (C.take (k + 1) ++ D.drop k ++ C.drop (k + 1 + (D.drop k).length)).take k = D.take k := by
    rw [List.append_assoc, List.take_append_of_le_length (by rw [List.length_take]; omega), List.take_take, Nat.min_eq_left (by omega), ← hC, List.take_take, Nat.min_eq_left hk]
  have h2 : (C.take (k + 1) ++ D.drop k ++ C.drop (k + 1 + (D.drop k).length)).drop (k + 1) = D.drop k ++ C.drop (k + 1 + (D.drop k).length) := by
    rw [List.append_assoc, List.drop_append_of_le_length (by rw [List.length_take]; omega), List.drop_of_length_le (by rw [List.length_take]; omega)]; rfl
  rw [h1, h2, List.append_assoc, List.singleton_append, ← List.cons_append, ← List.append_assoc]
  rw [List.take_append_of_le_length (by simp only [List.length_append, List.length_take, List.length_cons, List.length_drop]; omega)]
  exact List.take_of_length_le (by simp only [List.length_append, List.length_take, List.length_cons, List.length_drop]; omega)
theorem set_len {C : List Value} {k : Nat} {y : Value} (h : k < C.length) : (C.take k ++ [y] ++ C.drop (k + 1)).length = C.length := by
  simp only [List.length_append, List.length_take, List.length_drop, List.length_singleton]; omega
theorem ins_list2 {C D : List Value} {k n : Nat} {y : Value} (hD : D.length = n) (hC : C.take k = D.take k) (hk : k ≤ n) (hn : n + 1 ≤ C.length) :
    ((C.take k ++ [y] ++ C.drop (k + 1)).take (k + 1) ++ D.drop k ++ (C.take k ++ [y] ++ C.drop (k + 1)).drop (k + 1 + (D.drop k).length)).take (n + 1) = D.take k ++ y :: D.drop k := by
  have h1 : (C.take k ++ [y] ++ C.drop (k + 1)).take (k + 1) = D.take k ++ [y] := by
    rw [List.take_append_of_le_length (by simp; omega), hC]
    exact List.take_of_length_le (by simp; omega)
  rw [h1, List.take_append_of_le_length (by simp; omega)]
  rw [List.take_of_length_le (by simp; omega)]
  simp
theorem ins_len2 {C D : List Value} {k n : Nat} (hD : D.length = n) (hk : k ≤ n) (hn : n + 1 ≤ C.length) : (C.take (k + 1) ++ D.drop k ++ C.drop (k + 1 + (D.drop k).length)).length = C.length := by
  simp only [List.length_append, List.length_take, List.length_drop]; omega
set_option maxHeartbeats 1000000 in
theorem ins_is (w : World) (B : Nat) (v : Value) (xs : List Nat) (k y vb : Nat) (ho : w.ownsRow B 3 1 v xs.length (IV xs)) (hk : k ≤ xs.length) (hn : xs.length ≤ 1000000) (hvb : Blk w vb 3 [.int .i64 (y : Int)]) (hne : v.ownBlock ≠ some vb) (hB : B ≤ w.heap.size) :
    Calls Try.prog 38 #[v, .int .i64 (k : Int), .slice (some ⟨vb, 0, none⟩) 1 1] w fun e w' => ∃ v', e = .returned v' ∧ Hid (w'.ownsRow B 3 1 v' (xs.length + 1) (IV (insAt k y xs))) ∧ Hid (w.grownBy w' v.ownBlock) ∧ Hid (v'.ownBlock = v.ownBlock ∨ v'.ownBlock = some w.heap.size) := by
  have hvs : ∀ j u, [Value.int .i64 (y : Int)][j]? = some u → w.cell? ⟨vb, 0 + j, none⟩ = some u := fun j u hj => by
    rw [Nat.zero_add]; exact hvb.cell hj
  have h1v : ∀ u ∈ [Value.int .i64 (y : Int)], u.oneCell' = true := by simp [Value.oneCell']
  have h63 : xs.length + 1 ≤ maxLen := by unfold maxLen; omega
  by_cases hke : k = xs.length
  · subst hke
    have hfull : insAt xs.length y xs = xs ++ [y] := by unfold insAt; rw [List.take_of_length_le (Nat.le_refl _), List.drop_of_length_le (Nat.le_refl _)]
    have hgrow : ∀ (base : Option Addr) (c : Nat), xs.length ≤ c → c < xs.length + 1 → (base = none → xs.length = 0) → (∀ a, base = some a → ∀ j u, (IV xs)[j]? = some u → w.cell? (a.add j) = some u) → v = .slice base xs.length c →
        Calls Try.prog 38 #[v, .int .i64 (xs.length : Int), .slice (some ⟨vb, 0, none⟩) 1 1] w fun e w' => ∃ v', e = .returned v' ∧ Hid (w'.ownsRow B 3 1 v' (xs.length + 1) (IV (insAt xs.length y xs))) ∧ Hid (w.grownBy w' v.ownBlock) ∧ Hid (v'.ownBlock = v.ownBlock ∨ v'.ownBlock = some w.heap.size) := by
      intro base c h1 h2 h3 h4 h5
      have hc := Any2.slices_Insert_int_end_grow laysIns base xs.length c vb 0 1 1 (IV xs) [.int .i64 (y : Int)] w (by omega) h1 h2 (by omega) (IV_length xs) rfl h3 h4 hvs h1v
      rw [h5]
      refine Calls.mono hc ?_
      rintro e w' ⟨rfl, rfl⟩
      have hown := own_of_grown (w := w) (B := B) (e := 3) (sz := 1) (n := xs.length) (m := 1) (old := c) (z := .int .i64 0) (xs := IV xs) (news := [.int .i64 (y : Int)]) rfl (by rw [IV_length]; omega) rfl hB h63
      refine ⟨_, rfl, ?_, ?_, .inr rfl⟩
      · show World.ownsRow _ _ _ _ _ _ _
        rw [hfull, IV_append]
        have e1 : (IV xs ++ [Value.int .i64 (y : Int)]).toArray = (IV xs).toArray ++ [Value.int .i64 (y : Int)].toArray := by simp
        rw [e1]
        exact hown
      · exact grown_new w _ _
    rcases own_out ho with ⟨rfl, h0⟩ | ⟨g, cap, L, h1, h2, h3, h4, h5, h6, h7⟩
    · exact hgrow none 0 (by rw [h0]; simp) (by omega) (fun _ => by rw [h0]; rfl) (fun a e => by cases e) (by rw [h0]; rfl)
    · by_cases hroom : xs.length + 1 ≤ cap
      · have hc := Any2.slices_Insert_int_end_room laysIns g 0 xs.length cap vb 0 1 1 [.int .i64 (y : Int)] w (by omega) hroom (by simpa [maxLen] using h6) rfl
          (fun j hj => by
            have : j = 0 := by omega
            subst this
            have := h2.cell (List.getElem?_eq_getElem (show xs.length < L.length by omega))
            simp only [Nat.zero_add, Nat.add_zero]
            rw [this]; rfl) (fun j hj => by simp only [Nat.zero_add]; exact h2.free _) hvs h1v
        rw [h1]
        refine Calls.mono hc ?_
        rintro e w' ⟨rfl, rfl⟩
        have hst := Blk.setCells [.int .i64 (y : Int)] (0 + xs.length) w L h2 (by simp; omega)
        refine ⟨_, rfl, ?_, hst.2, .inl rfl⟩
        refine own_ins hst.1 ?_ (by simp; omega) hroom h6 h7
        rw [hfull, IV_append, ← h3]
        simp only [Nat.zero_add, List.length_singleton]
        rw [List.take_append_of_le_length (by simp; omega)]
        exact List.take_of_length_le (by simp; omega)
      · exact hgrow (some ⟨g, 0, none⟩) cap h5 (by omega) (fun e => by cases e) (fun a e j u hj => by
          simp only [Option.some.injEq] at e
          subst e
          have := take_cell h2 h3 j u hj
          rw [Addr.add_lit]; exact this) h1
  · have hkl : k < xs.length := by omega
    rcases own_out ho with ⟨rfl, h0⟩ | ⟨g, cap, L, h1, h2, h3, h4, h5, h6, h7⟩
    · rw [h0] at hkl; simp at hkl
    · have hgv : vb ≠ g := by
        intro e
        apply hne
        rw [h1, e]; rfl
      by_cases hroom : xs.length + 1 ≤ cap
      · have hc := Any2.slices_Insert_int_shift laysIns g 0 xs.length cap k vb 0 1 1 (IV xs) [.int .i64 (y : Int)] w hkl (by omega) hroom (by simpa [maxLen] using h6) hgv (IV_length xs) rfl
          (fun j u hj => take_cell h2 h3 j u hj)
          (fun j hj => by
            have := h2.cell (List.getElem?_eq_getElem (show j < L.length by omega))
            rw [Nat.zero_add, this]; rfl) (fun j hj => by rw [Nat.zero_add]; exact h2.free _) hvs (IV_one xs) h1v
          3 3 1 L.length (by unfold World.shape?; rw [show w.heap[vb]? = _ from hvb]; rfl) (by unfold World.shape?; rw [show w.heap[g]? = _ from h2]; simp) (by omega) (hvb.free 0) (hvb.free 1)
        rw [h1]
        refine Calls.mono hc ?_
        rintro e w' ⟨rfl, rfl⟩
        have hs1 := Blk.setCells ((IV xs).drop k) (0 + (k + 1)) w.drew L h2 (by rw [List.length_drop, IV_length]; omega)
        have hs2 := Blk.setCells [.int .i64 (y : Int)] (0 + k) _ _ hs1.1 (by simp [IV_length]; omega)
        refine ⟨_, rfl, ?_, grown_tr (grown_drew w (some g)) (grown_tr hs1.2 hs2.2), .inl rfl⟩
        refine own_ins hs2.1 ?_ (by simp [IV_length]; omega) hroom h6 h7
        rw [IV_ins]
        simp only [Nat.zero_add, List.length_singleton]
        exact ins_list (IV_length xs) h3 hk (by omega)
      · have hc := Any2.slices_Insert_int_grow laysIns g 0 xs.length cap k vb 0 1 1 (IV xs) [.int .i64 (y : Int)] w hkl (by omega) h5 (by omega) (by omega) (IV_length xs) rfl
          (fun j u hj => take_cell h2 h3 j u hj) hvs (IV_one xs) h1v
        rw [h1]
        refine Calls.mono hc ?_
        rintro e w' ⟨rfl, rfl⟩
        have hge := grownCap_ge w (xs.length + 1) cap (laysIns_ren.t 3)
        have hcm := grownCap_le_maxLen w (xs.length + 1) cap (laysIns_ren.t 3) h63
        obtain ⟨C, hC⟩ : ∃ C, grownCap w (xs.length + 1) cap (laysIns_ren.t 3) = C := ⟨_, rfl⟩
        rw [hC] at hge hcm ⊢
        have hz : ∀ n, (Builtin.zeroCells (Value.int .i64 0).cells n).size = n := fun n => by rw [size_zeroCells]; simp [cells_int]
        obtain ⟨X0, hX0⟩ : ∃ X0 : Array Value, (((IV xs).take k).toArray ++ Builtin.zeroCells (Value.int .i64 0).cells (xs.length + 1 - k) ++ Builtin.zeroCells (Value.int .i64 0).cells (C - (xs.length + 1))) = X0 := ⟨_, rfl⟩
        have hl0 : X0.toList.length = C := by
          rw [← hX0]
          simp only [Array.length_toList, Array.size_append, hz, List.size_toArray, List.length_take, IV_length]; omega
        have ht0 : X0.toList.take k = (IV xs).take k := by
          rw [← hX0]
          simp only [Array.toList_append, List.append_assoc]
          rw [List.take_append_of_le_length (by simp [IV_length]; omega)]
          exact List.take_of_length_le (by simp; exact Nat.min_le_left _ _)
        rw [hX0]
        have hb0 := Blk.new w X0 3
        have hs1 := Blk.setCells [.int .i64 (y : Int)] k _ _ hb0.drew (by rw [hl0]; simp; omega)
        have hl1 := set_len (C := X0.toList) (k := k) (y := .int .i64 (y : Int)) (by omega)
        have hs2 := Blk.setCells ((IV xs).drop k) (k + 1) _ _ hs1.1.drew (by rw [List.length_singleton, hl1, hl0, List.length_drop, IV_length]; omega)
        refine ⟨_, rfl, ?_, ?_, .inr rfl⟩
        · refine own_ins hs2.1 ?_ ?_ hge hcm hB
          · rw [IV_ins]
            exact ins_list2 (IV_length xs) ht0 hk (by omega)
          · have := ins_len2 (C := X0.toList.take k ++ [.int .i64 (y : Int)] ++ X0.toList.drop (k + 1)) (IV_length xs) hk (by rw [hl1, hl0]; exact hge)
            rw [hl1, hl0] at this
            exact this
        · have g1 : w.grownBy (w.alloc (.cells X0 3)) (some g) := ⟨rfl, rfl, rfl, by simp, fun j hj _ => Below.heap_alloc w _ j hj⟩
          have g2 := hs1.2
          have g3 := hs2.2
          refine ⟨?_, ?_, ?_, ?_, fun j hj hne2 => ?_⟩
          · exact g3.os.trans (g2.os.trans g1.os)
          · exact g3.tape.trans (g2.tape.trans g1.tape)
          · exact g3.output.trans (g2.output.trans g1.output)
          · exact Nat.le_trans g1.size (Nat.le_trans g2.size g3.size)
          · have hj2 : j < (w.alloc (.cells X0 3)).heap.size := by simp; omega
            have hjn : some j ≠ some w.heap.size := by simp only [ne_eq, Option.some.injEq]; omega
            exact (g3.block j (Nat.lt_of_lt_of_le hj2 g2.size) hjn).trans ((g2.block j hj2 hjn).trans (Below.heap_alloc w _ j hj))
end Go.Proofs.Ytijkpkcopjkhkaa.Oct

/- Layer 12 (deps): the order by numbers, as lists. -/
namespace Go.Proofs.Ytijkpkcopjkhkaa.Oct
open Go.RowKit

/-- how often a number stands in the row of another one -/
def cnt (ab : List (List Nat)) (n k : Nat) : Nat := (ab.getD k []).count n
/-- .. in the rows of some -/
def sumOf (ab : List (List Nat)) (told : List Nat) (n : Nat) : Nat := (told.map (cnt ab n)).sum
theorem sumOf_snoc (ab : List (List Nat)) (told : List Nat) (y n : Nat) : sumOf ab (told ++ [y]) n = sumOf ab told n + (ab.getD y []).count n := by
  simp [sumOf, cnt]
/-- all that it waits for is told -/
def Free (ab : List (List Nat)) (wt0 : List Nat) (told : List Nat) (n : Nat) : Prop := sumOf ab told n = wt0.getD n 0
/-- where the order stands: some told, of the last one's row a rest not yet taken off -/
structure OI (N : Nat) (ab : List (List Nat)) (wt0 told rest wt ready : List Nat) : Prop where
  eq : ∀ n, n < N → wt.getD n 0 + sumOf ab told n = wt0.getD n 0 + rest.count n
  len : wt.length = N
  rise : ready.Pairwise (· < ·)
  mem : ∀ n, n ∈ ready ↔ n < N ∧ n ∉ told ∧ wt.getD n 0 = 0
  zero : ∀ n, n ∈ told → n < N ∧ wt.getD n 0 = 0
  nd : told.Nodup
/-- each told is the least of those that were free -/
def Gr (N : Nat) (ab : List (List Nat)) (wt0 T : List Nat) : Prop := ∀ (i t : Nat), T[i]? = some t → t < N ∧ t ∉ T.take i ∧ Free ab wt0 (T.take i) t ∧ ∀ n, n < N → n ∉ T.take i → Free ab wt0 (T.take i) n → t ≤ n
section
variable {N : Nat} {ab : List (List Nat)} {wt0 told rest wt ready ys : List Nat} {y n m : Nat}
theorem OI.free (h : OI N ab wt0 told [] wt ready) (hn : n < N) : wt.getD n 0 = 0 ↔ Free ab wt0 told n := by
  have := h.eq n hn
  simp only [List.count_nil, Nat.add_zero] at this
  unfold Free
  omega
theorem Gr.snoc (hg : Gr N ab wt0 told) (h : OI N ab wt0 told [] wt (y :: ys)) : Gr N ab wt0 (told ++ [y]) := by
  intro i t ht
  by_cases hi : i < told.length
  · rw [List.getElem?_append_left hi] at ht
    rw [List.take_append_of_le_length (by omega)]
    exact hg i t ht
  · have hi2 : i = told.length := by
      have := (List.getElem?_eq_some_iff.1 ht).1
      simp at this; omega
    subst hi2
    rw [List.getElem?_append_right (Nat.le_refl _)] at ht
    simp at ht
    subst ht
    rw [List.take_append_of_le_length (Nat.le_refl _), List.take_length]
    obtain ⟨h1, h2, h3⟩ := (h.mem y).1 (by simp)
    refine ⟨h1, h2, (h.free h1).1 h3, fun n hn hnt hf => ?_⟩
    have hm := (h.mem n).2 ⟨hn, hnt, (h.free hn).2 hf⟩
    rcases List.mem_cons.1 hm with rfl | hm
    · exact Nat.le_refl _
    · have := (List.pairwise_cons.1 h.rise).1 n hm
      omega
theorem OI.take (h : OI N ab wt0 told [] wt (y :: ys)) : OI N ab wt0 (told ++ [y]) (ab.getD y []) wt ys := by
  obtain ⟨h1, h2, h3⟩ := (h.mem y).1 (by simp)
  have hr := List.pairwise_cons.1 h.rise
  refine ⟨fun n hn => ?_, h.len, hr.2, fun n => ?_, fun n hn => ?_, ?_⟩
  · have := h.eq n hn
    rw [sumOf_snoc]
    simp only [List.count_nil] at this
    omega
  · constructor
    · intro hn
      obtain ⟨a1, a2, a3⟩ := (h.mem n).1 (by simp [hn])
      have := hr.1 n hn
      exact ⟨a1, by simp only [List.mem_append, List.mem_singleton, not_or]; exact ⟨a2, by omega⟩, a3⟩
    · rintro ⟨a1, a2, a3⟩
      simp only [List.mem_append, List.mem_singleton, not_or] at a2
      have := (h.mem n).2 ⟨a1, a2.1, a3⟩
      rcases List.mem_cons.1 this with e | e
      · exact absurd e a2.2
      · exact e
  · rcases List.mem_append.1 hn with hn | hn
    · exact h.zero n hn
    · obtain rfl := List.mem_singleton.1 hn
      exact ⟨h1, h3⟩
  · rw [List.nodup_append]
    refine ⟨h.nd, by simp, fun a ha b hb e => ?_⟩
    obtain rfl := List.mem_singleton.1 hb
    exact h2 (by rw [← e]; exact ha)
theorem OI.pos (h : OI N ab wt0 told (n :: rest) wt ready) (hn : n < N) (hc : sumOf ab told n ≤ wt0.getD n 0) : 1 ≤ wt.getD n 0 := by
  have := h.eq n hn
  rw [List.count_cons_self] at this
  omega
theorem getD_set (wt : List Nat) (n m k : Nat) (hn : n < wt.length) : (wt.set n m).getD k 0 = if k = n then m else wt.getD k 0 := by
  rw [List.getD_eq_getElem?_getD, List.getD_eq_getElem?_getD]
  by_cases hk : k = n
  · subst hk
    rw [List.getElem?_set_self hn, if_pos rfl]; rfl
  · rw [List.getElem?_set_ne (by omega), if_neg hk]
theorem OI.step0 (h : OI N ab wt0 told (n :: rest) wt ready) (hn : n < N) (hw : wt.getD n 0 = m + 1) (hm : m ≠ 0) : OI N ab wt0 told rest (wt.set n m) ready := by
  have hnt : n ∉ told := fun e => by have := (h.zero n e).2; omega
  refine ⟨fun k hk => ?_, by simp [h.len], h.rise, fun k => ?_, fun k hk => ?_, h.nd⟩
  · have := h.eq k hk
    rw [getD_set wt n m k (by rw [h.len]; exact hn)]
    by_cases e : k = n
    · subst e
      rw [if_pos rfl]
      rw [List.count_cons_self] at this
      omega
    · rw [if_neg e]
      rw [List.count_cons_of_ne (by omega)] at this
      exact this
  · rw [h.mem k, getD_set wt n m k (by rw [h.len]; exact hn)]
    by_cases e : k = n
    · subst e; rw [if_pos rfl]
      constructor
      · rintro ⟨_, _, a⟩; omega
      · rintro ⟨_, _, a⟩; omega
    · rw [if_neg e]
  · rw [getD_set wt n m k (by rw [h.len]; exact hn), if_neg (fun e => hnt (by rw [← e]; exact hk))]
    exact h.zero k hk
theorem insAt_rise : ∀ (xs : List Nat), xs.Pairwise (· < ·) → n ∉ xs → (insAt (xs.countP (fun y => decide (y < n))) n xs).Pairwise (· < ·) ∧ ∀ k, k ∈ insAt (xs.countP (fun y => decide (y < n))) n xs ↔ k = n ∨ k ∈ xs
  | [], _, _ => by simp [insAt]
  | x :: t, hr, hn => by
    have hr2 := List.pairwise_cons.1 hr
    have hnx : n ≠ x := fun e => hn (by simp [e])
    by_cases hx : x < n
    · have ih := insAt_rise t hr2.2 (fun e => hn (by simp [e]))
      have e : insAt ((x :: t).countP (fun y => decide (y < n))) n (x :: t) = x :: insAt (t.countP (fun y => decide (y < n))) n t := by
        rw [List.countP_cons_of_pos (by simpa using hx)]; rfl
      rw [e]
      refine ⟨List.pairwise_cons.2 ⟨fun k hk => ?_, ih.1⟩, fun k => ?_⟩
      · rcases (ih.2 k).1 hk with rfl | hk
        · exact hx
        · exact hr2.1 k hk
      · simp only [List.mem_cons, ih.2 k]
        constructor
        · rintro (h | h | h)
          · exact .inr (.inl h)
          · exact .inl h
          · exact .inr (.inr h)
        · rintro (h | h | h)
          · exact .inr (.inl h)
          · exact .inl h
          · exact .inr (.inr h)
    · have h0 : (x :: t).countP (fun y => decide (y < n)) = 0 := by
        rw [List.countP_eq_zero]
        intro a ha
        rcases List.mem_cons.1 ha with rfl | ha
        · simpa using hx
        · have := hr2.1 a ha
          simp; omega
      rw [h0]
      refine ⟨?_, fun k => by simp [insAt]⟩
      show (n :: x :: t).Pairwise (· < ·)
      refine List.pairwise_cons.2 ⟨fun k hk => ?_, hr⟩
      rcases List.mem_cons.1 hk with rfl | hk
      · omega
      · have := hr2.1 k hk; omega
theorem OI.step1 (h : OI N ab wt0 told (n :: rest) wt ready) (hn : n < N) (hw : wt.getD n 0 = 0 + 1) : OI N ab wt0 told rest (wt.set n 0) (insAt (ready.countP (fun y => decide (y < n))) n ready) := by
  have hnt : n ∉ told := fun e => by have := (h.zero n e).2; omega
  have hnr : n ∉ ready := fun e => by have := ((h.mem n).1 e).2.2; omega
  have hi := insAt_rise ready h.rise hnr
  refine ⟨fun k hk => ?_, by simp [h.len], hi.1, fun k => ?_, fun k hk => ?_, h.nd⟩
  · have := h.eq k hk
    rw [getD_set wt n 0 k (by rw [h.len]; exact hn)]
    by_cases e : k = n
    · subst e
      rw [if_pos rfl]
      rw [List.count_cons_self] at this
      omega
    · rw [if_neg e]
      rw [List.count_cons_of_ne (by omega)] at this
      exact this
  · rw [hi.2 k, h.mem k, getD_set wt n 0 k (by rw [h.len]; exact hn)]
    by_cases e : k = n
    · subst e; rw [if_pos rfl]
      exact ⟨fun _ => ⟨hn, hnt, rfl⟩, fun _ => .inl rfl⟩
    · rw [if_neg e]
      exact ⟨fun a => a.resolve_left e, .inr⟩
  · rw [getD_set wt n 0 k (by rw [h.len]; exact hn), if_neg (fun e => hnt (by rw [← e]; exact hk))]
    exact h.zero k hk
/-- the beginning -/
def firstR (wt0 : List Nat) (i : Nat) : List Nat := (List.range i).filter (fun n => wt0.getD n 0 = 0)
theorem firstR_succ (wt0 : List Nat) (i : Nat) : firstR wt0 (i + 1) = if wt0.getD i 0 = 0 then firstR wt0 i ++ [i] else firstR wt0 i := by
  unfold firstR
  rw [List.range_succ, List.filter_append]
  by_cases h : wt0.getD i 0 = 0
  · simp only [List.filter_cons, List.filter_nil, h, if_true, decide_true]
  · simp only [List.filter_cons, List.filter_nil, h, if_false, decide_false, Bool.false_eq_true, List.append_nil]
theorem firstR_length (wt0 : List Nat) (i : Nat) : (firstR wt0 i).length ≤ i := by
  unfold firstR
  have := List.length_filter_le (fun n => decide (wt0.getD n 0 = 0)) (List.range i)
  simpa using this
theorem OI.start (ab : List (List Nat)) (wt0 : List Nat) : OI wt0.length ab wt0 [] [] wt0 (firstR wt0 wt0.length) := by
  refine ⟨fun n hn => by simp [sumOf], rfl, ?_, fun n => by simp [firstR], by simp, List.nodup_nil⟩
  exact List.Pairwise.filter _ List.pairwise_lt_range
/-- no more are ready than there are -/
theorem rise_len : ∀ (xs : List Nat) (N : Nat), xs.Pairwise (· < ·) → (∀ n ∈ xs, n < N) → xs.length ≤ N := by
  intro xs N hr hn
  have key : ∀ (xs : List Nat) (lo : Nat), xs.Pairwise (· < ·) → (∀ n ∈ xs, lo ≤ n ∧ n < N) → lo ≤ N → xs.length + lo ≤ N := by
    intro xs
    induction xs with
    | nil => intro lo _ _ h; simpa using h
    | cons x t ih =>
      intro lo hr hb hl
      have hx := hb x (by simp)
      have hr2 := List.pairwise_cons.1 hr
      have := ih (x + 1) hr2.2 (fun n hn => ⟨hr2.1 n hn, (hb n (by simp [hn])).2⟩) (by omega)
      simp only [List.length_cons]; omega
  have := key xs 0 hr (fun n h => ⟨Nat.zero_le _, hn n h⟩) (Nat.zero_le _)
  omega
theorem OI.ready_len (h : OI N ab wt0 told rest wt ready) : ready.length ≤ N := rise_len ready N h.rise (fun n hn => ((h.mem n).1 hn).1)
theorem nodup_len : ∀ (told : List Nat) (N : Nat), told.Nodup → (∀ n ∈ told, n < N) → told.length ≤ N
  | told, N, hn, hb => by
    have key : ∀ (a b : List Nat), a.Nodup → (∀ x ∈ a, x ∈ b) → a.length ≤ b.length := by
      intro a
      induction a with
      | nil => intro b _ _; exact Nat.zero_le _
      | cons x a ih =>
        intro b hn h
        rw [List.nodup_cons] at hn
        have hx := h x (by simp)
        have := ih (b.erase x) hn.2 (fun y hy => by
          have hyx : y ≠ x := fun e => hn.1 (by rw [← e]; exact hy)
          exact (List.mem_erase_of_ne hyx).2 (h y (by simp [hy])))
        rw [List.length_erase_of_mem hx] at this
        have hp : 0 < b.length := List.length_pos_of_mem hx
        simp only [List.length_cons]; omega
    have := key told (List.range N) hn (fun x hx => by simpa using hb x hx)
    simpa using this
theorem OI.told_len (h : OI N ab wt0 told rest wt ready) : told.length ≤ N := nodup_len told N h.nd (fun n hn => (h.zero n hn).1)
end
end Go.Proofs.Ytijkpkcopjkhkaa.Oct

/- Layer 12 (deps): orderOf. -/
namespace Go.Proofs.Ytijkpkcopjkhkaa.Oct
open Go.RowKit

section
variable {ops : Array Oper} {rest : List Oper} {o : Oper} {a : Act} {w : World} {Q : Exit → Act → World → Prop}
theorem wpList_bs56 (hg : o.guard = none) (x : Operand) (hop : o.op = Op.buildSlice 56 1 #[(0, x)]) (m : Nat) (hx : a.eval x = .int .i64 (m : Int))
    (hK : wpList Try.prog ops Q rest (a.put o.dst (.slice (some ⟨w.heap.size, 0, none⟩) 1 1)) (w.alloc (.cells #[.int .i64 (m : Int)] 3))) : wpList Try.prog ops Q (o :: rest) a w :=
  wpList_plain hg fun _ hK' => wp_bs56 x hop m hx (hK' _ _ hK)
theorem wpList_appI (hg : o.guard = none) (s x : Operand) (hop : o.op = Op.call { callee := Callee.builtin Builtin.append, args := #[s, x], argTypes := #[56, 56] }) (B : Nat) (v : Value) (xs : List Nat) (g y : Nat) (hv : a.eval s = v) (hx : a.eval x = .slice (some ⟨g, 0, none⟩) 1 1)
    (hown : w.ownsRow B 3 1 v xs.length (IV xs)) (hc : w.cell? ⟨g, 0, none⟩ = some (.int .i64 (y : Int))) (hn : xs.length ≤ 1000000) (hB : B ≤ w.heap.size)
    (hK : ∀ v' w', w'.ownsRow B 3 1 v' (xs.length + 1) (IV (xs ++ [y])) → w.grownBy w' v.ownBlock → (v'.ownBlock = v.ownBlock ∨ v'.ownBlock = some w.heap.size) → wpList Try.prog ops Q rest (a.put o.dst v') w') : wpList Try.prog ops Q (o :: rest) a w :=
  wpList_plain hg fun _ hK' => wp_appI s x hop B v xs g y hv hx hown hc hn hB (fun v' w' r1 r2 r3 => hK' _ _ (hK v' w' r1 r2 r3))
end
theorem own_keep {w w' : World} {B e sz n : Nat} {v : Value} {xs : List Value} (h : w.ownsRow B e sz v n xs) (hb : Below w.heap.size w w') : w'.ownsRow B e sz v n xs := by
  refine h.kept (row := none) ⟨hb.os, hb.tape, hb.output, hb.size, fun k hk _ => hb.block k hk⟩ ?_
  cases v.ownBlock with
  | none => exact .inl rfl
  | some g => exact .inr (by simp)
/-- rows of unlike cells lie apart -/
theorem own_apart {w : World} {B B' e e' sz sz' n n' : Nat} {v v' : Value} {xs xs' : List Value} (h : w.ownsRow B e sz v n xs) (h' : w.ownsRow B' e' sz' v' n' xs') (hne : e ≠ e') : v.ownBlock = none ∨ v.ownBlock ≠ v'.ownBlock := by
  rcases h.2 with ⟨rfl, _⟩ | ⟨g, cap, cur, rfl, _, h2, _⟩
  · exact .inl rfl
  · rcases h'.2 with ⟨rfl, _⟩ | ⟨g', cap', cur', rfl, _, h2', _⟩
    · exact .inr (by simp [Value.ownBlock])
    · refine .inr ?_
      intro e1
      have : g = g' := by simpa [Value.ownBlock] using e1
      subst this
      rw [h2] at h2'
      simp only [Option.some.injEq, Obj.cells.injEq] at h2'
      exact hne h2'.2.1
theorem own_wrote {w w' : World} {B e sz n g : Nat} {v : Value} {xs : List Value} (h : w.ownsRow B e sz v n xs) (hg : w.grownBy w' (some g)) (hB : g < B) : w'.ownsRow B e sz v n xs := by
  refine h.kept hg ?_
  cases e : v.ownBlock with
  | none => exact .inl rfl
  | some k =>
    refine .inr ?_
    have := (h.lt k e).1
    simp only [ne_eq, Option.some.injEq]; omega
def nmOf (ns : List Hs) (T : List Nat) : List Hs := T.map (fun n => ns.getD n [])
/-- what stands in every round -/
def OInv (w W wr : World) (gw nn : Nat) (ns : List Hs) (ab : List (List Nat)) (wt0 told rest wt ready : List Nat) (v5 v4 : Value) : Prop :=
  Below w.heap.size w wr ∧ Fr W.heap.size W wr gw gw ∧ Blk wr gw 3 (IV wt) ∧ wr.ownsRow W.heap.size 3 1 v5 ready.length (IV ready) ∧ wr.ownsRow W.heap.size 34 32 v4 told.length (UU (nmOf ns told)) ∧ OI nn ab wt0 told rest wt ready ∧ Gr nn ab wt0 told
/-- what 'orderOf' answers -/
def OrdP (w : World) (l : List It) (nn : Nat) (e : Ending) (w' : World) : Prop :=
  ∃ p c ns T, e = .returned (.slice p T.length c) ∧ Hid (HsR w' p T.length (nmOf ns T)) ∧ Hid (ns.Pairwise LtH ∧ (∀ x, x ∈ ns ↔ x ∈ namesK l) ∧ ns.length = nn) ∧ Hid (Gr nn (webA ns l) (webW ns l) T ∧ ∀ n, n < nn → n ∉ T → ¬ Free (webA ns l) (webW ns l) T n) ∧ Hid (Below w.heap.size w w')

set_option maxRecDepth 100000 in
set_option maxHeartbeats 4000000 in
theorem orderOf_is (w : World) (a : Option Addr) (len cap : Nat) (l : List It) (hi : Its w a len l) (hn : len ≤ 100000) (hm : many l ≤ 90000) (hnm : (namesK l).length = len) (hc : ∀ x ∈ l, ∀ d ∈ x.deps, d ∈ namesK l)
    (hcap : ∀ ns, ns.Pairwise LtH → (∀ x, x ∈ ns ↔ x ∈ namesK l) → (∀ told, told.Nodup → (∀ n ∈ told, n < len) → ∀ n, n < len → sumOf (webA ns l) told n ≤ (webW ns l).getD n 0) ∧ (∀ x ∈ webA ns l, ∀ n ∈ x, n < len) ∧ ∀ n ∈ webW ns l, n ≤ 100000) :
    Calls Try.prog 25 #[.slice a len cap] w (OrdP w l len) := by
  have HA : Hid (Its w a len l ∧ len ≤ 100000 ∧ many l ≤ 90000) := ⟨hi, hn, hm⟩
  have HC : Hid ((namesK l).length = len ∧ ∀ x ∈ l, ∀ d ∈ x.deps, d ∈ namesK l) := ⟨hnm, hc⟩
  have HCAP : Hid _ := hcap
  have q5 : (len : Int) ≤ 100000 := by omega
  clear hi hn hm hnm hc hcap
  obtain ⟨Y, hYl, hY⟩ := zero34
  have HZ : Hid (Y.length = 32) := hYl
  clear hYl
  have hz58 := zero58
  go_enter Try.func25, Try.ntmps25
  go_wp2_with (first
    | (go_at_call 35; refine (webOf_is w a len cap l HA.out.1 HA.out.2.1 HA.out.2.2 HC.out.1 HC.out.2).mono ?_; rintro e w1 ⟨an, cc, ga, gw, ns, L, B, rfl, H1, H2, H3⟩)
    | (with_reducible change wpList _ _ _ ({ dst := none, op := Op.store 58 _ _, type := _, pos := _, after := _, guard := _ } :: _) _ _
       refine Hid.out ?_)
    | fail)
  show wpList _ _ _ _ _ _
  refine wpList_store_fresh rfl 58 (.tmp 3) (.tmp 14) rfl [.slice none 0 0, .slice none 0 0, .slice none 0 0] [.slice an len cc, .slice (some ⟨ga, 0, none⟩) len len, .slice (some ⟨gw, 0, none⟩) len len] 58 rfl rfl rfl (by kernel_rfl) (by simp [Value.oneCell']) ?_
  clear hz58
  obtain ⟨gs, hgs⟩ : ∃ gs, w1.heap.size = gs := ⟨_, rfl⟩
  obtain ⟨W, hW⟩ : ∃ W, w1.alloc (.cells [.slice an len cc, .slice (some ⟨ga, 0, none⟩) len len, .slice (some ⟨gw, 0, none⟩) len len].toArray 58) = W := ⟨_, rfl⟩
  have hbW : Below w1.heap.size w1 W := by rw [← hW]; exact below_new w1 _
  obtain ⟨ab, hab⟩ : ∃ ab, webA ns l = ab := ⟨_, rfl⟩
  obtain ⟨wt0, hwt0⟩ : ∃ wt0, webW ns l = wt0 := ⟨_, rfl⟩
  have HW : Hid (Below w.heap.size w W ∧ Blk W gs 58 [.slice an len cc, .slice (some ⟨ga, 0, none⟩) len len, .slice (some ⟨gw, 0, none⟩) len len] ∧ HsR W an len ns ∧ Blk W gw 3 (IV wt0) ∧ AbM W B ga L ab ∧ w.heap.size ≤ gw ∧ gw < B ∧ ga < B ∧ B ≤ W.heap.size ∧ gs < W.heap.size) := by
    refine ⟨H3.out.trans (hbW.mono H3.out.size), by rw [← hW, ← hgs]; simpa using Blk.new w1 [.slice an len cc, .slice (some ⟨ga, 0, none⟩) len len, .slice (some ⟨gw, 0, none⟩) len len].toArray 58, H1.out.1.below hbW, by rw [← hwt0]; exact H2.out.1.below hbW H2.out.1.lt, by rw [← hab]; exact H2.out.2.1.below hbW, H2.out.2.2.2.1, H2.out.2.2.2.2.1, H2.out.2.2.2.2.2.1, Nat.le_trans H2.out.2.2.2.2.2.2 hbW.size, by rw [← hW, ← hgs]; simp⟩
  have HNS : Hid (ns.length = len ∧ ns.Pairwise LtH ∧ (∀ x, x ∈ ns ↔ x ∈ namesK l) ∧ (∀ h ∈ ns, h.length = 32) ∧ ab.length = len ∧ wt0.length = len) := ⟨H1.out.1.1, H1.out.2.1, H1.out.2.2.1, H1.out.1.2.1, by rw [← hab, webA_length]; exact H1.out.1.1, by rw [← hwt0, webW_length]; exact H1.out.1.1⟩
  have HCP : Hid ((∀ told, told.Nodup → (∀ n ∈ told, n < len) → ∀ n, n < len → sumOf ab told n ≤ wt0.getD n 0) ∧ (∀ x ∈ ab, ∀ n ∈ x, n < len) ∧ ∀ n ∈ wt0, n ≤ 100000) := by
    have := HCAP.out ns H1.out.2.1 H1.out.2.2.1
    rw [hab, hwt0] at this
    exact this
  have HEQ : Hid (webA ns l = ab ∧ webW ns l = wt0) := ⟨hab, hwt0⟩
  have HNE : Hid (gs ≠ gw ∧ ga ≠ gw) := ⟨blk_ne HW.out.2.1 HW.out.2.2.2.1 (by decide), blk_ne HW.out.2.2.2.2.1.blk HW.out.2.2.2.1 (by decide)⟩
  have hcs2 : W.cell? ⟨gs, 2, none⟩ = some (.slice (some ⟨gw, 0, none⟩) len len) := HW.out.2.1.cell rfl
  rw [hW, hgs]
  clear hW hgs hbW hab hwt0 H1 H2 H3 HCAP
  go_wp2
  clear hcs2
  go_loopw [18, 5] (fun u v wr => ∃ i : Nat, u = .int .i64 (i : Int) ∧ Hid (i ≤ len ∧ Below w.heap.size w wr ∧ Fr W.heap.size W wr gw gw ∧ Blk wr gw 3 (IV wt0) ∧ wr.ownsRow W.heap.size 3 1 v (firstR wt0 i).length (IV (firstR wt0 i)))) (fun u _ _ => len - (intOf u).toNat)
  case atStart => exact ⟨0, rfl, ⟨Nat.zero_le _, HW.out.1, ⟨Nat.le_refl _, fun _ _ _ _ => rfl⟩, HW.out.2.2.2.1, World.ownsRow_nil _ _ _ _⟩⟩
  case round =>
    obtain ⟨i, rfl, HB⟩ := hrel
    by_cases hi : i < len
    · obtain ⟨x, hx⟩ : ∃ x, wt0[i]? = some x := ⟨_, List.getElem?_eq_getElem (by rw [HNS.out.2.2.2.2.2]; exact hi)⟩
      have HI : Hid (i < len ∧ wt0[i]? = some x ∧ wt0.getD i 0 = x) := ⟨hi, hx, by rw [List.getD_eq_getElem?_getD, hx]; rfl⟩
      have hcx := HB.out.2.2.2.1.cell (IV_get wt0 i x hx)
      have q1 : (i : Int) < (len : Int) := by omega
      clear hx hi
      by_cases hx0 : x = 0
      · subst hx0
        simp only [Int.ofNat_zero] at hcx
        go_wp2_with (first
          | (with_reducible change wpList _ _ _ ({ dst := some 27, op := _, type := _, pos := _, after := _, guard := _ } :: _) _ _
             refine wpList_bs56 rfl (.tmp 26) rfl i rfl ?_)
          | (with_reducible change wpList _ _ _ ({ dst := some 28, op := _, type := _, pos := _, after := _, guard := _ } :: _) _ _
             refine Hid.out ?_)
          | fail)
        show wpList _ _ _ _ _ _
        refine wpList_appI rfl (.tmp 25) (.tmp 27) rfl W.heap.size u5 (firstR wt0 i) wr.heap.size i rfl rfl (HB.out.2.2.2.2.alloc _) ((Blk.new wr #[.int .i64 (i : Int)] 3).cell (i := 0) rfl) (by have := firstR_length wt0 i; have := HI.out.1; have := HA.out.2.1; omega) (by have := HB.out.2.2.1.1; simp; omega) ?_
        intro v' w2 r1 r2 r3
        have hlt := HB.out.2.2.2.2.lt
        have H9 : Hid (Below w.heap.size w w2 ∧ Fr W.heap.size W w2 gw gw ∧ Blk w2 gw 3 (IV wt0) ∧ w2.ownsRow W.heap.size 3 1 v' ((firstR wt0 i).length + 1) (IV (firstR wt0 i ++ [i]))) := by
          have hb1 := below_new wr (.cells #[.int .i64 (i : Int)] 3)
          refine ⟨below_grown' (HB.out.2.1.trans (hb1.mono HB.out.2.1.size)) r2 (fun g e => by have := (hlt g e).1; have := HW.out.1.size; omega) (Nat.le_refl _), (HB.out.2.2.1.below hb1).grown r2 (fun g e => .inr (.inr (hlt g e).1)), (HB.out.2.2.2.1.below hb1 HB.out.2.2.2.1.lt).kept r2 (fun e => ?_), r1⟩
          have := (hlt gw e.symm).1
          have := HW.out.2.2.2.2.2.2.1
          have := HW.out.2.2.2.2.2.2.2.2.1
          omega
        clear r1 r2 r3 hlt hcx
        go_wp2
        refine ⟨⟨i + 1, by simp, ⟨HI.out.1, H9.out.1, H9.out.2.1, H9.out.2.2.1, ?_⟩⟩, ?_⟩
        · rw [firstR_succ, if_pos HI.out.2.2, List.length_append]; exact H9.out.2.2.2
        · have := HI.out.1; simp [intOf]; omega
      · have q2 : ¬ (x : Int) = 0 := by omega
        go_wp2
        refine ⟨⟨i + 1, by simp, ⟨HI.out.1, HB.out.2.1, HB.out.2.2.1, HB.out.2.2.2.1, ?_⟩⟩, ?_⟩
        · rw [firstR_succ, if_neg (by rw [HI.out.2.2]; exact hx0)]; exact HB.out.2.2.2.2
        · have := HI.out.1; simp [intOf]; omega
    · have q1 : ¬ (i : Int) < (len : Int) := by omega
      obtain ⟨W0, hW0⟩ : ∃ W0, W0 = wr := ⟨_, rfl⟩
      subst hW0
      have H0 : Hid (OInv w W W0 gw len ns ab wt0 [] [] wt0 (firstR wt0 len) u5 (.slice none 0 0)) := by
        obtain ⟨c1, c2, c3, c4, c5⟩ := HB.out
        have e : i = len := by omega
        subst e
        refine ⟨c2, c3, c4, c5, World.ownsRow_nil _ _ _ _, ?_, fun i t h => by simp at h⟩
        have := OI.start ab wt0
        rw [HNS.out.2.2.2.2.2] at this
        exact this
      obtain ⟨p0, c0, rfl⟩ := own_slice H0.out.2.2.2.1
      clear HB hi
      go_wp2
      go_loopw [5, 4] (fun u v wr => ∃ (told wt ready : List Nat) (p5 : Option Addr) (n5 c5 : Nat) (p4 : Option Addr) (n4 c4 : Nat), u = .slice p5 n5 c5 ∧ v = .slice p4 n4 c4 ∧ Hid (OInv w W wr gw len ns ab wt0 told [] wt ready (.slice p5 n5 c5) (.slice p4 n4 c4) ∧ ready.length = n5 ∧ told.length = n4)) (fun _ v _ => len - lenOf v)
      case atStart => exact ⟨[], wt0, firstR wt0 len, p0, _, c0, none, 0, 0, rfl, rfl, ⟨H0.out, rfl, rfl⟩⟩
      case round =>
        obtain ⟨told, wt, ready, p5, n5, c5, p4, n4, c4, rfl, rfl, HI⟩ := hrel
        cases ready with
        | nil =>
          obtain rfl : n5 = 0 := HI.out.2.1.symm
          go_wp2
          go_ret
          obtain rfl : n4 = told.length := HI.out.2.2.symm
          obtain ⟨c1, c2, c3, c4', c5', c6, c7⟩ := HI.out.1
          have hl : ∀ x ∈ nmOf ns told, x.length = 32 := by
            intro x hx
            obtain ⟨n, hn, rfl⟩ := List.mem_map.1 hx
            have := (c6.zero n hn).1
            refine HNS.out.2.2.2.1 _ ?_
            rw [List.getD_eq_getElem?_getD, List.getElem?_eq_getElem (by rw [HNS.out.1]; exact this)]
            exact List.getElem_mem _
          obtain ⟨a', c', he, hr, _⟩ := own_read c5' hl
          simp only [Value.slice.injEq, true_and] at he
          obtain ⟨rfl, rfl⟩ := he
          refine ⟨p4, c4, ns, told, rfl, hr, ⟨HNS.out.2.1, HNS.out.2.2.1, HNS.out.1⟩, ?_, c1⟩
          rw [HEQ.out.1, HEQ.out.2]
          refine ⟨c7, fun n hn hnt hf => ?_⟩
          have := (c6.mem n).2 ⟨hn, hnt, (c6.free hn).2 hf⟩
          simp at this
        | cons y ys =>
          obtain rfl : n5 = ys.length + 1 := HI.out.2.1.symm
          obtain rfl : n4 = told.length := HI.out.2.2.symm
          obtain ⟨g, hg5⟩ : ∃ g, p5 = some ⟨g, 0, none⟩ := by
            rcases own_out HI.out.1.2.2.2.1 with ⟨h, _⟩ | ⟨g, cap5, Lr, h, _⟩
            · simp at h
            · simp only [Value.slice.injEq] at h
              exact ⟨g, h.1⟩
          subst hg5
          have HO5 : Hid (wr.ownsRow W.heap.size 3 1 (.slice (some ⟨g, 0, none⟩) (y :: ys).length c5) (y :: ys).length (IV (y :: ys))) := HI.out.1.2.2.2.1
          have hcy : wr.cell? ⟨g, 0, none⟩ = some (.int .i64 (y : Int)) := by
            have := HO5.out.cells (g := g) rfl 0 (.int .i64 (y : Int)) rfl
            rw [Addr.add_lit] at this
            exact this
          have HY : Hid (y < len ∧ y ∉ told ∧ OI len ab wt0 (told ++ [y]) (ab.getD y []) wt ys ∧ Gr len ab wt0 (told ++ [y])) := by
            have h := HI.out.1.2.2.2.2.2.1
            have hm := (h.mem y).1 (by simp)
            exact ⟨hm.1, hm.2.1, h.take, HI.out.1.2.2.2.2.2.2.snoc h⟩
          go_wp2_with fail
          refine (del_is wr W.heap.size g c5 y ys HO5.out).mono ?_
          rintro e w2 ⟨rfl, R1, R2⟩
          dsimp only
          have H2 : Hid (Below w.heap.size w w2 ∧ Fr W.heap.size W w2 gw gw ∧ Blk w2 gw 3 (IV wt) ∧ w2.ownsRow W.heap.size 3 1 (.slice (some ⟨g, 0, none⟩) ys.length c5) ys.length (IV ys) ∧ w2.ownsRow W.heap.size 34 32 (.slice p4 told.length c4) told.length (UU (nmOf ns told))) := by
            obtain ⟨c1, c2, c3, c4', c5', c6, c7⟩ := HI.out.1
            have hgl := (HO5.out.lt g rfl).1
            have hsz := HW.out.1.size
            have hgw := HW.out.2.2.2.2.2.2.1
            have hBW := HW.out.2.2.2.2.2.2.2.2.1
            refine ⟨below_grownBy c1 R2.out (by omega) (Nat.le_refl _), c2.grown R2.out (fun k e => by simp only [Option.some.injEq] at e; exact .inr (.inr (by omega))), c3.kept R2.out (by simp only [ne_eq, Option.some.injEq]; omega), R1.out, c5'.kept R2.out ?_⟩
            exact own_apart c5' HO5.out (by decide)
          obtain ⟨h, hh⟩ : ∃ h, ns[y]? = some h := ⟨_, List.getElem?_eq_getElem (by rw [HNS.out.1]; exact HY.out.1)⟩
          obtain ⟨gn, offn, hna, hgn, heln⟩ := HW.out.2.2.1.2.2 (by have := HY.out.1; omega)
          have hgnw := (row_apart HW.out.2.2.1 HW.out.2.2.2.1 (fun v hv k => by obtain ⟨z, _, rfl⟩ := List.mem_map.1 hv; simp) gn offn (by have := HY.out.1; omega) hna).1
          have HH : Hid (ns[y]? = some h ∧ h.length = 32 ∧ w2.rangeAt gn (offn + y * 32) (U h)) := ⟨hh, HNS.out.2.2.2.1 h (List.mem_of_getElem? hh), rangeAt_same (heln y h hh) (H2.out.2.1.2 gn hgn hgnw hgnw)⟩
          have hgs0 : w2.cell? ⟨gs, 0, none⟩ = some (.slice an len cc) := Blk.cell (w := w2) ((H2.out.2.1.2 gs HW.out.2.2.2.2.2.2.2.2.2 HNE.out.1 HNE.out.1).trans HW.out.2.1) rfl
          have q2 : (y : Int) < (len : Int) := by have := HY.out.1; omega
          clear hh heln hgnw hgn hcy R1 R2
          rw [hna] at hgs0
          have HTL : Hid (told.length + 1 ≤ len) := by
            have := HY.out.2.2.1.told_len
            simp at this
            exact this
          go_wp2_with (first
            | (with_reducible change wpList _ _ _ ({ dst := some 43, op := _, type := _, pos := _, after := _, guard := _ } :: _) _ _
               refine wpList_load_mid rfl 34 (.tmp 42) rfl gn (offn + y * 32) rfl (U h) _ HH.out.2.2 Try.underlying34 rfl (info34 h HH.out.2.1) ?_)
            | (with_reducible change wpList _ _ _ ({ dst := some 44, op := _, type := _, pos := _, after := _, guard := _ } :: _) _ _
               refine wpList_bslice1 rfl (.tmp 43) rfl h HH.out.2.1 rfl ?_)
            | (with_reducible change wpList _ _ _ ({ dst := some 45, op := _, type := _, pos := _, after := _, guard := _ } :: _) _ _
               refine Hid.out ?_)
            | fail)
          show wpList _ _ _ _ _ _
          refine wpList_app rfl (.tmp 38) (.tmp 44) rfl W.heap.size (.slice p4 told.length c4) told.length (nmOf ns told) (some ⟨w2.heap.size, 0, none⟩) 1 1 [h] rfl rfl (H2.out.2.2.2.2.alloc _) (HsR.one w2 h HH.out.2.1) (by have := HTL.out; have := HA.out.2.1; omega) (by have := H2.out.2.1.1; simp; omega) ?_
          intro v4 w3 r1 r2 r3
          have hlt4 := H2.out.2.2.2.2.lt
          have H3 : Hid (OInv w W w3 gw len ns ab wt0 (told ++ [y]) (ab.getD y []) wt ys (.slice (some ⟨g, 0, none⟩) ys.length c5) v4) := by
            obtain ⟨c1, c2, c3, c4', c5'⟩ := H2.out
            have hb1 := below_new w2 (.cells (U h).toArray 34)
            have hsz := HW.out.1.size
            have hgw := HW.out.2.2.2.2.2.2.1
            have hBW := HW.out.2.2.2.2.2.2.2.2.1
            have hnm : nmOf ns (told ++ [y]) = nmOf ns told ++ [h] := by
              simp only [nmOf, List.map_append, List.map_cons, List.map_nil, List.getD_eq_getElem?_getD, HH.out.1, Option.getD_some]
            refine ⟨below_grown' (c1.trans (hb1.mono c1.size)) r2 (fun k e => by have := (hlt4 k e).1; omega) (Nat.le_refl _), (c2.below hb1).grown r2 (fun k e => .inr (.inr (hlt4 k e).1)), (c3.below hb1 c3.lt).kept r2 (fun e => by have := (hlt4 gw e.symm).1; omega), (own_keep c4' hb1).kept r2 (own_apart c4' c5' (by decide)), ?_, HY.out.2.2.1, HY.out.2.2.2⟩
            rw [hnm, List.length_append]
            exact r1
          obtain ⟨p6, c6, rfl⟩ := own_slice r1
          clear r1 r2 r3 hlt4 hgs0 H2
          obtain ⟨row, hrow⟩ : ∃ row, ab[y]? = some row := ⟨_, List.getElem?_eq_getElem (by rw [HNS.out.2.2.2.2.1]; exact HY.out.1)⟩
          obtain ⟨vy, hvy⟩ : ∃ vy, L[y]? = some vy := ⟨_, List.getElem?_eq_getElem (by rw [HW.out.2.2.2.2.1.len, HNS.out.2.2.2.2.1]; exact HY.out.1)⟩
          have hrw := HW.out.2.2.2.2.1.rows y vy row hvy hrow
          obtain ⟨pr, cr, rfl⟩ := own_slice hrw
          have HRW : Hid (ab.getD y [] = row ∧ W.ownsRow B 3 1 (.slice pr row.length cr) row.length (IV row) ∧ (∀ n ∈ row, n < len) ∧ row.length ≤ 1000000) := by
            refine ⟨getD_at hrow, hrw, HCP.out.2.1 row (List.mem_of_getElem? hrow), ?_⟩
            have := webA_bound ns l row (by rw [HEQ.out.1]; exact List.mem_of_getElem? hrow)
            have := HA.out.2.2
            omega
          have hgs1 : w3.cell? ⟨gs, 1, none⟩ = some (.slice (some ⟨ga, 0, none⟩) len len) := Blk.cell (w := w3) ((H3.out.2.1.2 gs HW.out.2.2.2.2.2.2.2.2.2 HNE.out.1 HNE.out.1).trans HW.out.2.1) rfl
          have hgay : w3.cell? ⟨ga, y, none⟩ = some (.slice pr row.length cr) := Blk.cell (w := w3) ((H3.out.2.1.2 ga (by have := HW.out.2.2.2.2.2.2.2.1; have := HW.out.2.2.2.2.2.2.2.2.1; omega) HNE.out.2 HNE.out.2).trans HW.out.2.2.2.2.1.blk) hvy
          have q3 : (row.length : Int) ≤ 1000000 := by have := HRW.out.2.2.2; omega
          clear hrow hvy hrw
          go_wp2
          clear hgs1 hgay
          obtain ⟨W1, hW1⟩ : ∃ W1, W1 = wr := ⟨_, rfl⟩
          subst hW1
          go_loopw [52, 5] (fun u v wr => ∃ (j : Nat) (wt ready : List Nat) (p5 : Option Addr) (n5 c5 : Nat), u = .int .i64 (j : Int) ∧ v = .slice p5 n5 c5 ∧ Hid (j ≤ row.length ∧ OInv w W wr gw len ns ab wt0 (told ++ [y]) (row.drop j) wt ready (.slice p5 n5 c5) (.slice p6 (told.length + 1) c6) ∧ ready.length = n5)) (fun u _ _ => row.length - (intOf u).toNat)
          case atStart => exact ⟨0, wt, ys, some ⟨g, 0, none⟩, ys.length, c5, rfl, rfl, ⟨Nat.zero_le _, by have := H3.out; rw [HRW.out.1] at this; exact this, rfl⟩⟩
          case round =>
            obtain ⟨j, wt2, ready2, p5, n5, c5', rfl, rfl, HJ⟩ := hrel
            by_cases hj : j < row.length
            · obtain ⟨m, hm⟩ : ∃ m, row[j]? = some m := ⟨_, List.getElem?_eq_getElem hj⟩
              obtain rfl : n5 = ready2.length := HJ.out.2.2.symm
              obtain ⟨c1, c2, c3, c4', c5'', c6', c7⟩ := HJ.out.2.1
              have hdr : row.drop j = m :: row.drop (j + 1) := by
                rw [List.drop_eq_getElem_cons hj]
                have := (List.getElem?_eq_some_iff.1 hm).2
                rw [this]
              rw [hdr] at c6'
              have hml : m < len := HRW.out.2.2.1 m (List.mem_of_getElem? hm)
              obtain ⟨q, hq⟩ : ∃ q, wt2.getD m 0 = q + 1 := by
                have := c6'.pos hml (HCP.out.1 (told ++ [y]) c6'.nd (fun n hn => (c6'.zero n hn).1) m hml)
                exact ⟨wt2.getD m 0 - 1, by omega⟩
              have hwl : m < wt2.length := by rw [c6'.len]; exact hml
              have hwm : wt2[m]? = some (q + 1) := by
                rw [List.getD_eq_getElem?_getD, List.getElem?_eq_getElem hwl] at hq
                rw [List.getElem?_eq_getElem hwl]
                simp at hq
                rw [hq]
              obtain ⟨gr, hgr⟩ : ∃ gr, pr = some ⟨gr, 0, none⟩ := by
                rcases own_out HRW.out.2.1 with ⟨h, h0⟩ | ⟨gr, cap5, Lr, h, _⟩
                · rw [h0] at hj; simp at hj
                · simp only [Value.slice.injEq] at h
                  exact ⟨gr, h.1⟩
              subst hgr
              have hgrl := HRW.out.2.1.lt gr rfl
              have hcr : wr.cell? ⟨gr, j, none⟩ = some (.int .i64 (m : Int)) := by
                have h1 := HRW.out.2.1.cells (g := gr) rfl j (.int .i64 (m : Int)) (IV_get row j m hm)
                rw [Addr.add_lit] at h1
                rw [← Nat.zero_add j, ← h1]
                have hne : gr ≠ gw := by have := hgrl.1; have := HW.out.2.2.2.2.2.2.1; omega
                exact cell_same (c2.2 gr hgrl.2 hne hne) _
              have hgs2 : wr.cell? ⟨gs, 2, none⟩ = some (.slice (some ⟨gw, 0, none⟩) len len) := Blk.cell (w := wr) ((c2.2 gs HW.out.2.2.2.2.2.2.2.2.2 HNE.out.1 HNE.out.1).trans HW.out.2.1) rfl
              have hcw : wr.cell? ⟨gw, m, none⟩ = some (.int .i64 ((q : Int) + 1)) := by
                have := c3.cell (IV_get wt2 m (q + 1) hwm)
                simpa using this
              have HQ : Hid (q + 1 ≤ 2000000) := by
                show _ ≤ _
                have h1 := c6'.eq m hml
                have h2 : wt0.getD m 0 ≤ 100000 := by
                  rw [List.getD_eq_getElem?_getD, List.getElem?_eq_getElem (by rw [HNS.out.2.2.2.2.2]; exact hml)]
                  exact HCP.out.2.2 _ (List.getElem_mem _)
                have h3 : (m :: row.drop (j + 1)).count m ≤ row.length := by
                  rw [← hdr]
                  have := List.count_le_length (a := m) (l := row.drop j)
                  rw [List.length_drop] at this
                  omega
                have := HRW.out.2.2.2
                omega
              have HM : Hid (j < row.length ∧ row[j]? = some m ∧ m < len ∧ wt2.getD m 0 = q + 1 ∧ OI len ab wt0 (told ++ [y]) (m :: row.drop (j + 1)) wt2 ready2 ∧ m < wt2.length) := ⟨hj, hm, hml, hq, c6', hwl⟩
              have q4 : (j : Int) < (row.length : Int) := by omega
              have q6 : (m : Int) < (len : Int) := by omega
              have q7 : (q : Int) + 1 ≤ 2000000 := by have := HQ.out; omega
              have HX : Hid (Below w.heap.size w wr ∧ Fr W.heap.size W wr gw gw ∧ Blk wr gw 3 (IV wt2) ∧ wr.ownsRow W.heap.size 3 1 (.slice p5 ready2.length c5') ready2.length (IV ready2) ∧ wr.ownsRow W.heap.size 34 32 (.slice p6 (told.length + 1) c6) (told ++ [y]).length (UU (nmOf ns (told ++ [y])))) := ⟨c1, c2, c3, c4', c5''⟩
              clear hj hm hdr hml hq hwl hwm hgrl c1 c2 c3 c4' c5'' c6'
              go_wp2_with (first
                | (with_reducible change wpList _ _ _ ({ dst := none, op := Op.store 3 _ _, type := _, pos := _, after := _, guard := _ } :: _) _ _
                   refine Hid.out ?_)
                | fail)
              show wpList _ _ _ _ _ _
              refine wpList_storeI rfl (.tmp 62) (.tmp 61) rfl gw m q wt2 rfl (by first | rfl | (show Value.int .i64 _ = _; congr 1; omega)) HX.out.2.2.1 HM.out.2.2.2.2.2 ?_
              intro w4 s1 s2
              have hgwW : gw < W.heap.size := by have := HW.out.2.2.2.2.2.2.1; have := HW.out.2.2.2.2.2.2.2.2.1; omega
              have HX4 : Hid (Below w.heap.size w w4 ∧ Fr W.heap.size W w4 gw gw ∧ Blk w4 gw 3 (IV (wt2.set m q)) ∧ w4.ownsRow W.heap.size 3 1 (.slice p5 ready2.length c5') ready2.length (IV ready2) ∧ w4.ownsRow W.heap.size 34 32 (.slice p6 (told.length + 1) c6) (told ++ [y]).length (UU (nmOf ns (told ++ [y])))) := by
                obtain ⟨d1, d2, d3, d4, d5⟩ := HX.out
                exact ⟨below_grownBy d1 s2 HW.out.2.2.2.2.2.1 (Nat.le_refl _), d2.grown s2 (fun k e => by simp only [Option.some.injEq] at e; exact .inl e.symm), s1, own_wrote d4 s2 hgwW, own_wrote d5 s2 hgwW⟩
              have hgs4 : w4.cell? ⟨gs, 2, none⟩ = some (.slice (some ⟨gw, 0, none⟩) len len) := Blk.cell (w := w4) ((HX4.out.2.1.2 gs HW.out.2.2.2.2.2.2.2.2.2 HNE.out.1 HNE.out.1).trans HW.out.2.1) rfl
              have hcw4 : w4.cell? ⟨gw, m, none⟩ = some (.int .i64 (q : Int)) := s1.cell (IV_get _ m q (by rw [List.getElem?_set_self HM.out.2.2.2.2.2]))
              clear s1 s2 hgwW HX HJ hgs2 hcw hcr
              by_cases hq0 : q = 0
              · subst hq0
                simp only [Int.ofNat_zero] at hcw4
                obtain ⟨k, hk⟩ : ∃ k, ready2.countP (fun y => decide (y < m)) = k := ⟨_, rfl⟩
                have hkl : k ≤ ready2.length := by rw [← hk]; exact List.countP_le_length
                have hrl := HM.out.2.2.2.2.1.ready_len
                have hsea := sea_is w4 W.heap.size (.slice p5 ready2.length c5') ready2 m HX4.out.2.2.2.1 HM.out.2.2.2.2.1.rise (by have := HA.out.2.1; omega)
                rw [hk] at hsea
                have HKK : Hid (ready2.countP (fun y => decide (y < m)) = k ∧ k ≤ ready2.length ∧ ready2.length ≤ 100000) := ⟨hk, hkl, by have := HA.out.2.1; omega⟩
                have HSEA : Hid (Calls Try.prog 37 #[.slice p5 ready2.length c5', .int .i64 (m : Int)] w4 fun e w' => (∃ b : Bool, e = .returned (.tuple #[.int .i64 (k : Int), .bool b])) ∧ ∃ q, w' = w4.drewN q) := hsea
                clear hsea hk hkl hrl
                go_wp2_with fail
                refine HSEA.out.mono ?_
                rintro e w5 ⟨⟨b, rfl⟩, qq, rfl⟩
                dsimp only
                obtain ⟨W5, hW5⟩ : ∃ W5, w4.drewN qq = W5 := ⟨_, rfl⟩
                have HX5 : Hid (Below w.heap.size w W5 ∧ Fr W.heap.size W W5 gw gw ∧ Blk W5 gw 3 (IV (wt2.set m 0)) ∧ W5.ownsRow W.heap.size 3 1 (.slice p5 ready2.length c5') ready2.length (IV ready2) ∧ W5.ownsRow W.heap.size 34 32 (.slice p6 (told.length + 1) c6) (told ++ [y]).length (UU (nmOf ns (told ++ [y])))) := by
                  rw [← hW5]
                  obtain ⟨d1, d2, d3, d4, d5⟩ := HX4.out
                  exact ⟨⟨d1.os, d1.tape, d1.output, d1.size, d1.block⟩, d2, d3, d4, d5⟩
                rw [hW5]
                clear hW5 hgs4 hcw4 HX4 HSEA
                go_wp2_with (first
                  | (with_reducible change wpList _ _ _ ({ dst := some 78, op := _, type := _, pos := _, after := _, guard := _ } :: _) _ _
                     refine wpList_bs56 rfl (.tmp 77) rfl m rfl ?_)
                  | fail)
                have hvbn : (Value.slice p5 ready2.length c5').ownBlock ≠ some W5.heap.size := fun e => by have := (HX5.out.2.2.2.1.lt _ e).2; omega
                refine (ins_is (W5.alloc (.cells #[.int .i64 (m : Int)] 3)) W.heap.size (.slice p5 ready2.length c5') ready2 k m W5.heap.size (HX5.out.2.2.2.1.alloc _) HKK.out.2.1 (by have := HKK.out.2.2; omega) (by simpa using Blk.new W5 #[.int .i64 (m : Int)] 3) hvbn (by have := HX5.out.2.1.1; simp; omega)).mono ?_
                rintro e w6 ⟨v6, rfl, R1, R2, R3⟩
                dsimp only
                have hlt5 := HX5.out.2.2.2.1.lt
                have H9 : Hid (OInv w W w6 gw len ns ab wt0 (told ++ [y]) (row.drop (j + 1)) (wt2.set m 0) (insAt k m ready2) v6 (.slice p6 (told.length + 1) c6)) := by
                  obtain ⟨d1, d2, d3, d4, d5⟩ := HX5.out
                  have hb1 := below_new W5 (.cells #[.int .i64 (m : Int)] 3)
                  have hsz := HW.out.1.size
                  have hgw := HW.out.2.2.2.2.2.2.1
                  have hBW := HW.out.2.2.2.2.2.2.2.2.1
                  refine ⟨below_grown' (d1.trans (hb1.mono d1.size)) R2.out (fun g e => by have := (hlt5 g e).1; omega) (Nat.le_refl _), (d2.below hb1).grown R2.out (fun g e => .inr (.inr (hlt5 g e).1)), (d3.below hb1 d3.lt).kept R2.out (fun e => by have := (hlt5 gw e.symm).1; omega), by rw [insAt_length]; exact R1.out, (own_keep d5 hb1).kept R2.out (own_apart d5 d4 (by decide)), ?_, c7⟩
                  have := HM.out.2.2.2.2.1.step1 HM.out.2.2.1 HM.out.2.2.2.1
                  rw [HKK.out.1] at this
                  exact this
                obtain ⟨p9, c9, rfl⟩ := own_slice R1.out
                clear R1 R2 R3 hlt5 hvbn
                go_wp2
                refine ⟨⟨j + 1, wt2.set m 0, insAt k m ready2, p9, ready2.length + 1, c9, by simp, rfl, ⟨HM.out.1, H9.out, insAt_length⟩⟩, ?_⟩
                have := HM.out.1; simp [intOf]; omega
              · have q8 : ¬ (q : Int) = 0 := by omega
                have H9 : Hid (OInv w W w4 gw len ns ab wt0 (told ++ [y]) (row.drop (j + 1)) (wt2.set m q) ready2 (.slice p5 ready2.length c5') (.slice p6 (told.length + 1) c6)) := by
                  obtain ⟨d1, d2, d3, d4, d5⟩ := HX4.out
                  exact ⟨d1, d2, d3, d4, d5, HM.out.2.2.2.2.1.step0 HM.out.2.2.1 HM.out.2.2.2.1 hq0, c7⟩
                clear c7 HX4 HQ q7
                go_wp2
                refine ⟨⟨j + 1, wt2.set m q, ready2, p5, ready2.length, c5', by simp, rfl, ⟨HM.out.1, H9.out, rfl⟩⟩, ?_⟩
                have := HM.out.1; simp [intOf]; omega
            · have q4 : ¬ (j : Int) < (row.length : Int) := by omega
              go_wp2
              refine ⟨⟨told ++ [y], wt2, ready2, p5, n5, c5', ⟨rfl, rfl, rfl⟩, p6, told.length + 1, c6, ⟨rfl, rfl, rfl⟩, ⟨?_, HJ.out.2.2, by simp⟩⟩, ?_⟩
              · have := HJ.out.2.1
                rw [List.drop_of_length_le (by omega)] at this
                exact this
              · have := HTL.out; simp [lenOf]; omega
end Go.Proofs.Ytijkpkcopjkhkaa.Oct

/- Layer 12 (deps): what the numbers of a web say of the items. -/
namespace Go.Proofs.Ytijkpkcopjkhkaa.Oct
open Go.RowKit

theorem getD_set2 (xs : List (List Nat)) (n k : Nat) (y : List Nat) : (xs.set n y).getD k [] = if k = n ∧ n < xs.length then y else xs.getD k [] := by
  rw [List.getD_eq_getElem?_getD, List.getD_eq_getElem?_getD]
  by_cases hn : n < xs.length
  · by_cases hk : k = n
    · subst hk
      rw [List.getElem?_set_self hn, if_pos ⟨rfl, hn⟩]; rfl
    · rw [List.getElem?_set_ne (by omega), if_neg (fun e => hk e.1)]
  · rw [if_neg (fun e => hn e.2), List.set_eq_of_length_le (by omega)]
theorem aboveI_count (ns : List Hs) (m n k : Nat) : ∀ (ds : List Hs) (xs : List (List Nat)), k < xs.length →
    ((aboveI ns m xs ds).getD k []).count n = (xs.getD k []).count n + (if m = n then ds.countP (fun d => decide (numOf ns d = k)) else 0)
  | [], xs, _ => by simp [aboveI]
  | d :: ds, xs, hk => by
    have ih := aboveI_count ns m n k ds (xs.set (numOf ns d) (xs.getD (numOf ns d) [] ++ [m])) (by simpa using hk)
    show ((aboveI ns m (xs.set (numOf ns d) (xs.getD (numOf ns d) [] ++ [m])) ds).getD k []).count n = _
    rw [ih, getD_set2]
    by_cases hd : numOf ns d = k
    · rw [if_pos ⟨hd.symm, by rw [hd]; exact hk⟩, List.countP_cons_of_pos (by simpa using hd), hd, List.count_append]
      by_cases hm : m = n
      · subst hm; simp; omega
      · rw [if_neg hm, if_neg hm, List.count_singleton]
        simp [hm]
    · rw [if_neg (fun e => hd e.1.symm), List.countP_cons_of_neg (by simpa using hd)]
def numbered (ns : List Hs) (n : Nat) (l : List It) : List It := l.filter (fun x => decide (numOf ns x.name = n))
theorem webA_count (ns : List Hs) (n k : Nat) (hk : k < ns.length) (l : List It) : ((webA ns l).getD k []).count n = ((numbered ns n l).map (fun x => x.deps.countP (fun d => decide (numOf ns d = k)))).sum := by
  have key : ∀ (l : List It) (xs : List (List Nat)), k < xs.length → ((l.foldl (fun xs x => aboveI ns (numOf ns x.name) xs x.deps) xs).getD k []).count n = (xs.getD k []).count n + ((numbered ns n l).map (fun x => x.deps.countP (fun d => decide (numOf ns d = k)))).sum := by
    intro l
    induction l with
    | nil => intro xs _; simp [numbered]
    | cons x l ih =>
      intro xs hk
      rw [List.foldl_cons, ih _ (by rw [aboveI_length]; exact hk), aboveI_count ns _ n k x.deps xs hk]
      unfold numbered
      by_cases hx : numOf ns x.name = n
      · rw [if_pos hx, List.filter_cons_of_pos (by simpa using hx)]
        simp only [List.map_cons, List.sum_cons]; omega
      · rw [if_neg hx, List.filter_cons_of_neg (by simpa using hx)]; omega
  unfold webA
  rw [key l _ (by simpa using hk)]
  have : ((List.replicate ns.length ([] : List Nat)).getD k []).count n = 0 := by
    rw [List.getD_eq_getElem?_getD, List.getElem?_replicate]
    split <;> simp
  omega
theorem numOf_inj {ns : List Hs} {a b : Hs} (ha : a ∈ ns) (hb : b ∈ ns) (h : numOf ns a = numOf ns b) : a = b := by
  have h1 := numOf_at ha
  have h2 := numOf_at hb
  rw [h, h2] at h1
  simpa using h1.symm
theorem numOf_lt {ns : List Hs} {a : Hs} (ha : a ∈ ns) : numOf ns a < ns.length := List.idxOf_lt_length_of_mem ha
/-- one item of each number -/
theorem numbered_one {ns : List Hs} {n : Nat} : ∀ (l : List It) (x : It), (l.map (·.name)).Nodup → (∀ y ∈ l, y.name ∈ ns) → x ∈ l → numOf ns x.name = n → numbered ns n l = [x]
  | [], x, _, _, hx, _ => by simp at hx
  | y :: l, x, hnd, hns, hx, hn => by
    simp only [List.map_cons, List.nodup_cons] at hnd
    have hno : ∀ z ∈ l, z.name ≠ y.name := fun z hz e => hnd.1 (List.mem_map.2 ⟨z, hz, e⟩)
    unfold numbered
    by_cases hy : numOf ns y.name = n
    · have exy : x = y := by
        rcases List.mem_cons.1 hx with rfl | hx
        · rfl
        · exact absurd (numOf_inj (hns x (by simp [hx])) (hns y (by simp)) (hn.trans hy.symm)) (hno x hx)
      subst exy
      rw [List.filter_cons_of_pos (by simpa using hy)]
      congr 1
      rw [List.filter_eq_nil_iff]
      intro z hz e
      have e' : numOf ns z.name = n := by simpa using e
      exact hno z hz (numOf_inj (hns z (by simp [hz])) (hns x (by simp)) (e'.trans hy.symm))
    · rw [List.filter_cons_of_neg (by simpa using hy)]
      have hx' : x ∈ l := by
        rcases List.mem_cons.1 hx with rfl | hx
        · exact absurd hn hy
        · exact hx
      exact numbered_one l x hnd.2 (fun z hz => hns z (by simp [hz])) hx' hn
theorem webW_at {ns : List Hs} {n : Nat} (hlt : n < ns.length) (l : List It) (x : It) (h : numbered ns n l = [x]) : (webW ns l).getD n 0 = x.deps.length := by
  have key : ∀ (l : List It) (wt : List Nat), n < wt.length → (l.foldl (fun wt x => wt.set (numOf ns x.name) x.deps.length) wt).getD n 0 = (((numbered ns n l).getLast?).map (·.deps.length)).getD (wt.getD n 0) := by
    intro l
    induction l with
    | nil => intro wt _; simp [numbered]
    | cons y l ih =>
      intro wt hw
      rw [List.foldl_cons, ih _ (by simpa using hw)]
      unfold numbered
      by_cases hy : numOf ns y.name = n
      · rw [List.filter_cons_of_pos (by simpa using hy), hy, getD_set wt n _ n hw, if_pos rfl, List.getLast?_cons]
        cases (List.filter (fun x => decide (numOf ns x.name = n)) l).getLast? <;> simp
      · rw [List.filter_cons_of_neg (by simpa using hy)]
        congr 1
        rw [List.getD_eq_getElem?_getD, List.getD_eq_getElem?_getD, List.getElem?_set_ne (by omega)]
  unfold webW
  rw [key l _ (by simpa using hlt), h]; rfl
/-- of each hash its own number, once -/
theorem cover (ns : List Hs) : ∀ (told : List Nat) (ds : List Hs), told.Nodup → (told.map (fun k => ds.countP (fun d => decide (numOf ns d = k)))).sum = ds.countP (fun d => decide (numOf ns d ∈ told))
  | told, [], _ => by
    have h0 : ∀ t : List Nat, (t.map (fun _ => 0)).sum = 0 := by
      intro t
      induction t with
      | nil => rfl
      | cons a t ih => simpa using ih
    simp only [List.countP_nil]
    exact h0 told
  | told, d :: ds, hn => by
    have ih := cover ns told ds hn
    have e : (told.map (fun k => (d :: ds).countP (fun d => decide (numOf ns d = k)))).sum = (told.map (fun k => ds.countP (fun d => decide (numOf ns d = k)))).sum + told.count (numOf ns d) := by
      clear ih hn
      induction told with
      | nil => rfl
      | cons a t iht =>
        simp only [List.map_cons, List.sum_cons]
        rw [iht]
        by_cases ha : numOf ns d = a
        · rw [List.countP_cons_of_pos (by simpa using ha), ha, List.count_cons_self]; omega
        · rw [List.countP_cons_of_neg (by simpa using ha), List.count_cons_of_ne (fun e => ha e.symm)]; omega
    rw [e, ih]
    by_cases hd : numOf ns d ∈ told
    · rw [List.countP_cons_of_pos (by simpa using hd)]
      have : told.count (numOf ns d) = 1 := by
        have h1 := List.nodup_iff_count.1 hn (numOf ns d)
        have h2 := List.count_pos_iff.2 hd
        omega
      omega
    · rw [List.countP_cons_of_neg (by simpa using hd), List.count_eq_zero.2 hd]; omega
/-- what the sum says -/
theorem sum_is {ns : List Hs} {l : List It} {n : Nat} {x : It} (h : numbered ns n l = [x]) (told : List Nat) (hn : told.Nodup) (hb : ∀ k ∈ told, k < ns.length) : sumOf (webA ns l) told n = x.deps.countP (fun d => decide (numOf ns d ∈ told)) := by
  rw [← cover ns told x.deps hn]
  unfold sumOf
  congr 1
  apply List.map_congr_left
  intro k hk
  unfold cnt
  rw [webA_count ns n k (hb k hk) l, h]
  simp
theorem item_of {ns : List Hs} {l : List It} (hnd : (l.map (·.name)).Nodup) (hns : ∀ x, x ∈ ns ↔ x ∈ l.map (·.name)) (hr : ns.Nodup) {n : Nat} (hn : n < ns.length) : ∃ x, x ∈ l ∧ ns[n]? = some x.name ∧ numbered ns n l = [x] := by
  have hm : ns[n] ∈ l.map (·.name) := (hns _).1 (List.getElem_mem hn)
  obtain ⟨x, hx, hxn⟩ := List.mem_map.1 hm
  have hnum : numOf ns x.name = n := by
    rw [hxn]
    unfold numOf
    exact hr.idxOf_getElem n hn
  refine ⟨x, hx, by rw [List.getElem?_eq_getElem hn, hxn], numbered_one l x hnd (fun y hy => (hns _).2 (List.mem_map.2 ⟨y, hy, rfl⟩)) hx hnum⟩
/-- free: all that it needs is told -/
theorem free_iff {ns : List Hs} {l : List It} {n : Nat} {x : It} (hlt : n < ns.length) (h : numbered ns n l = [x]) (told : List Nat) (hn : told.Nodup) (hb : ∀ k ∈ told, k < ns.length) : Free (webA ns l) (webW ns l) told n ↔ ∀ d ∈ x.deps, numOf ns d ∈ told := by
  unfold Free
  rw [sum_is h told hn hb, webW_at hlt l x h, List.countP_eq_length]
  simp
theorem names_nodup {l : List It} (h : (namesK l).length = l.length) : (l.map (·.name)).Nodup := by
  have key : ∀ (l : List It) (ks : List Hs), (l.foldl (fun ks x => addK ks x.name) ks).length ≤ ks.length + l.length ∧ ((l.foldl (fun ks x => addK ks x.name) ks).length = ks.length + l.length → (l.map (·.name)).Nodup ∧ ∀ x ∈ l, x.name ∉ ks) := by
    intro l
    induction l with
    | nil => intro ks; simp
    | cons x l ih =>
      intro ks
      rw [List.foldl_cons]
      obtain ⟨h1, h2⟩ := ih (addK ks x.name)
      by_cases hx : x.name ∈ ks
      · have e : addK ks x.name = ks := by simp [addK, hx]
        rw [e] at h1 h2 ⊢
        simp only [List.length_cons]
        exact ⟨by omega, fun h => by omega⟩
      · have e : (addK ks x.name).length = ks.length + 1 := by simp [addK, hx]
        rw [e] at h1 h2
        simp only [List.length_cons]
        refine ⟨by omega, fun h => ?_⟩
        obtain ⟨h3, h4⟩ := h2 (by omega)
        refine ⟨?_, fun y hy => ?_⟩
        · simp only [List.map_cons, List.nodup_cons]
          refine ⟨fun hm => ?_, h3⟩
          obtain ⟨y, hy, he⟩ := List.mem_map.1 hm
          exact h4 y hy (mem_addK.2 (.inr he))
        · rcases List.mem_cons.1 hy with rfl | hy
          · exact hx
          · exact fun e => h4 y hy (mem_addK.2 (.inl e))
  exact ((key l []).2 (by simpa [namesK] using h)).1
theorem webA_lt {ns : List Hs} {l : List It} (hns : ∀ y ∈ l, y.name ∈ ns) : ∀ x ∈ webA ns l, ∀ n ∈ x, n < ns.length := by
  intro x hx n hn
  obtain ⟨k, hk⟩ := List.getElem?_of_mem hx
  have hkl : k < ns.length := by have := (List.getElem?_eq_some_iff.1 hk).1; rw [webA_length] at this; exact this
  have hc := webA_count ns n k hkl l
  rw [getD_at hk] at hc
  have hp : 0 < x.count n := List.count_pos_iff.2 hn
  rw [hc] at hp
  cases hf : numbered ns n l with
  | nil => rw [hf] at hp; simp at hp
  | cons y t =>
    have hy : y ∈ numbered ns n l := by rw [hf]; simp
    obtain ⟨h1, h2⟩ := List.mem_filter.1 hy
    have : numOf ns y.name = n := by simpa using h2
    rw [← this]
    exact numOf_lt (hns y h1)
/-- what orderOf asks of a web -/
theorem web_cap {l : List It} {len : Nat} (hll : l.length = len) (hnm : (namesK l).length = len) (hm : many l ≤ 90000) (ns : List Hs) (hr : ns.Pairwise LtH) (hns : ∀ x, x ∈ ns ↔ x ∈ namesK l) :
    (∀ told, told.Nodup → (∀ n ∈ told, n < len) → ∀ n, n < len → sumOf (webA ns l) told n ≤ (webW ns l).getD n 0) ∧ (∀ x ∈ webA ns l, ∀ n ∈ x, n < len) ∧ ∀ n ∈ webW ns l, n ≤ 100000 := by
  have hnd := names_nodup (hnm.trans hll.symm)
  have hns' : ∀ x, x ∈ ns ↔ x ∈ l.map (·.name) := fun x => (hns x).trans (mem_namesK l)
  have hrn := rise_nodup hr
  have hlen : ns.length = len := by rw [same_len hrn (namesK_nodup l) hns]; exact hnm
  subst hlen
  refine ⟨fun told h1 h2 n hn => ?_, webA_lt (fun y hy => (hns' _).2 (List.mem_map.2 ⟨y, hy, rfl⟩)), fun m hmm => ?_⟩
  · obtain ⟨x, hx, _, h3⟩ := item_of hnd hns' hrn hn
    rw [sum_is h3 told h1 h2, webW_at hn l x h3]
    exact List.countP_le_length
  · obtain ⟨n, hn⟩ := List.getElem?_of_mem hmm
    have hnl : n < ns.length := by have := (List.getElem?_eq_some_iff.1 hn).1; rw [webW_length] at this; exact this
    obtain ⟨x, hx, _, h3⟩ := item_of hnd hns' hrn hnl
    have h4 := webW_at hnl l x h3
    rw [List.getD_eq_getElem?_getD, hn] at h4
    simp at h4
    obtain ⟨i, hi⟩ := List.getElem?_of_mem hx
    have := dep_le l i x hi
    omega
end Go.Proofs.Ytijkpkcopjkhkaa.Oct

/- Layer 12 (deps): Order. -/
namespace Go.Proofs.Ytijkpkcopjkhkaa.Oct
open Go.RowKit

/-- it may come next: a name, not yet told, all that it needs told -/
def Rdy (l : List It) (told : List Hs) (h : Hs) : Prop := h ∈ l.map (·.name) ∧ h ∉ told ∧ ∀ x ∈ l, x.name = h → ∀ d ∈ x.deps, d ∈ told
/-- again and again the least that may come, as long as one may -/
def OrderS (l : List It) (hs : List Hs) : Prop := (∀ (i : Nat) (h : Hs), hs[i]? = some h → Rdy l (hs.take i) h ∧ ∀ h', Rdy l (hs.take i) h' → h = h' ∨ LtH h h') ∧ ∀ h, ¬ Rdy l hs h
theorem OrderS.same {l l' : List It} {a b : List Hs} (hl : ∀ told h, Rdy l told h ↔ Rdy l' told h) (ha : OrderS l a) (hb : OrderS l' b) : a = b := by
  have key : ∀ i, a.take i = b.take i := by
    intro i
    induction i with
    | zero => rfl
    | succ i ih =>
      cases hai : a[i]? with
      | none =>
        have hal : a.length ≤ i := by
          rw [List.getElem?_eq_none_iff] at hai; exact hai
        cases hbi : b[i]? with
        | none =>
          rw [List.take_add_one, List.take_add_one, hai, hbi, ih]
        | some h =>
          have h1 := (hb.1 i h hbi).1
          rw [← ih, List.take_of_length_le hal] at h1
          exact absurd ((hl _ _).2 h1) (ha.2 h)
      | some h =>
        cases hbi : b[i]? with
        | none =>
          have hbl : b.length ≤ i := by
            rw [List.getElem?_eq_none_iff] at hbi; exact hbi
          have h1 := (ha.1 i h hai).1
          rw [ih, List.take_of_length_le hbl] at h1
          exact absurd ((hl _ _).1 h1) (hb.2 h)
        | some h' =>
          have h1 := ha.1 i h hai
          have h2 := hb.1 i h' hbi
          rw [ih] at h1
          have e : h = h' := by
            rcases h1.2 h' ((hl _ _).2 h2.1) with e | e
            · exact e
            · rcases h2.2 h ((hl _ _).1 h1.1) with e' | e'
              · exact e'.symm
              · exact absurd e' e.asymm
          rw [List.take_add_one, List.take_add_one, hai, hbi, ih, e]
  have h1 := key (max a.length b.length)
  rw [List.take_of_length_le (by omega), List.take_of_length_le (by omega)] at h1
  exact h1
theorem nmOf_take (ns : List Hs) (T : List Nat) (i : Nat) : (nmOf ns T).take i = nmOf ns (T.take i) := by simp [nmOf, List.map_take]
theorem nmOf_get (ns : List Hs) (T : List Nat) (i : Nat) (h : Hs) (hh : (nmOf ns T)[i]? = some h) : ∃ t, T[i]? = some t ∧ ns.getD t [] = h := by
  simp only [nmOf, List.getElem?_map] at hh
  exact Option.map_eq_some_iff.1 hh
theorem mem_nmOf {ns : List Hs} {T : List Nat} (hn : ns.Nodup) (hT : ∀ k ∈ T, k < ns.length) {h : Hs} (hh : h ∈ ns) : h ∈ nmOf ns T ↔ numOf ns h ∈ T := by
  constructor
  · intro hm
    obtain ⟨k, hk, he⟩ := List.mem_map.1 hm
    have hkl := hT k hk
    rw [List.getD_eq_getElem?_getD, List.getElem?_eq_getElem hkl] at he
    simp at he
    have : numOf ns h = k := by
      rw [← he]
      unfold numOf
      exact hn.idxOf_getElem k hkl
    rw [this]; exact hk
  · intro hm
    refine List.mem_map.2 ⟨numOf ns h, hm, ?_⟩
    rw [List.getD_eq_getElem?_getD, numOf_at hh]; rfl
/-- the order by numbers is the order of the names -/
theorem order_of {l : List It} {ns : List Hs} {T : List Nat} (hnd : (l.map (·.name)).Nodup) (hcl : ∀ x ∈ l, ∀ d ∈ x.deps, d ∈ l.map (·.name)) (hr : ns.Pairwise LtH) (hns : ∀ x, x ∈ ns ↔ x ∈ l.map (·.name))
    (hg : Gr ns.length (webA ns l) (webW ns l) T) (hend : ∀ n, n < ns.length → n ∉ T → ¬ Free (webA ns l) (webW ns l) T n) : OrderS l (nmOf ns T) := by
  have hn := rise_nodup hr
  have hTl : ∀ k ∈ T, k < ns.length := fun k hk => by
    obtain ⟨i, hi⟩ := List.getElem?_of_mem hk
    exact (hg i k hi).1
  have hTn : T.Nodup := by
    rw [List.nodup_iff_pairwise_ne, List.pairwise_iff_getElem]
    intro i j hi hj hij e
    have h1 := (hg j T[j] (List.getElem?_eq_getElem hj)).2.1
    exact h1 (by rw [← e]; exact List.mem_take_iff_getElem.2 ⟨i, by omega, rfl⟩)
  have rdy : ∀ (S : List Nat), S.Nodup → (∀ k ∈ S, k < ns.length) → ∀ n, n < ns.length → (Rdy l (nmOf ns S) (ns.getD n []) ↔ n ∉ S ∧ Free (webA ns l) (webW ns l) S n) := by
    intro S hS1 hS2 n hlt
    obtain ⟨x, hx, hxn, hnum⟩ := item_of hnd hns hn hlt
    have e1 : ns.getD n [] = x.name := by rw [List.getD_eq_getElem?_getD, hxn]; rfl
    have hxs : x.name ∈ ns := (hns _).2 (List.mem_map.2 ⟨x, hx, rfl⟩)
    have e2 : numOf ns x.name = n := by
      have : x ∈ numbered ns n l := by rw [hnum]; simp
      have := (List.mem_filter.1 this).2
      simpa using this
    have huni : ∀ y ∈ l, y.name = x.name → y = x := by
      intro y hy e
      have : y ∈ numbered ns n l := List.mem_filter.2 ⟨hy, by simp [e, e2]⟩
      rw [hnum] at this
      simpa using this
    rw [e1, free_iff hlt hnum S hS1 hS2]
    unfold Rdy
    rw [mem_nmOf hn hS2 hxs, e2]
    constructor
    · rintro ⟨_, h2, h3⟩
      exact ⟨h2, fun d hd => (mem_nmOf hn hS2 ((hns _).2 (hcl x hx d hd))).1 (h3 x hx rfl d hd)⟩
    · rintro ⟨h2, h3⟩
      refine ⟨List.mem_map.2 ⟨x, hx, rfl⟩, h2, fun y hy e d hd => ?_⟩
      obtain rfl := huni y hy e
      exact (mem_nmOf hn hS2 ((hns _).2 (hcl y hx d hd))).2 (h3 d hd)
  have back : ∀ (S : List Nat) (h : Hs), Rdy l (nmOf ns S) h → ∃ n, n < ns.length ∧ ns.getD n [] = h := by
    intro S h hr
    have hm : h ∈ ns := (hns _).2 hr.1
    exact ⟨numOf ns h, numOf_lt hm, by rw [List.getD_eq_getElem?_getD, numOf_at hm]; rfl⟩
  refine ⟨fun i h hi => ?_, fun h hrd => ?_⟩
  · obtain ⟨t, ht, rfl⟩ := nmOf_get ns T i h hi
    obtain ⟨g1, g2, g3, g4⟩ := hg i t ht
    have hS1 : (T.take i).Nodup := hTn.sublist (List.take_sublist i T)
    have hS2 : ∀ k ∈ T.take i, k < ns.length := fun k hk => hTl k (List.mem_of_mem_take hk)
    rw [nmOf_take]
    refine ⟨(rdy _ hS1 hS2 t g1).2 ⟨g2, g3⟩, fun h' hr' => ?_⟩
    obtain ⟨n, hnl, rfl⟩ := back _ h' hr'
    obtain ⟨a1, a2⟩ := (rdy _ hS1 hS2 n hnl).1 hr'
    have hle := g4 n hnl a1 a2
    by_cases e : t = n
    · exact .inl (by rw [e])
    · refine .inr ?_
      have := List.pairwise_iff_getElem.1 hr t n g1 hnl (by omega)
      rw [List.getD_eq_getElem?_getD, List.getD_eq_getElem?_getD, List.getElem?_eq_getElem g1, List.getElem?_eq_getElem hnl]
      exact this
  · obtain ⟨n, hnl, rfl⟩ := back _ h hrd
    obtain ⟨a1, a2⟩ := (rdy T hTn hTl n hnl).1 hrd
    exact hend n hnl a1 a2
/-- what 'Order' answers: the hashes, and the error -/
def OrdA (l : List It) (hs : List Hs) (er : Int) : Prop :=
  (256 < l.length ∧ hs = [] ∧ er = 3) ∨
  (l.length ≤ 256 ∧ ¬ (l.map (·.name)).Nodup ∧ hs = [] ∧ er = 110) ∨
  (l.length ≤ 256 ∧ (l.map (·.name)).Nodup ∧ (∃ x, missing l x) ∧ hs = [] ∧ er = 111) ∨
  (l.length ≤ 256 ∧ (l.map (·.name)).Nodup ∧ (∀ x, ¬ missing l x) ∧ (∃ ks, OrderS l ks ∧ ks.length < l.length) ∧ hs = [] ∧ er = 120) ∨
  (l.length ≤ 256 ∧ (l.map (·.name)).Nodup ∧ (∀ x, ¬ missing l x) ∧ OrderS l hs ∧ l.length ≤ hs.length ∧ er = 0)
def OrderP (w : World) (l : List It) (e : Ending) (w' : World) : Prop := ∃ p n c er hs, e = .returned (.tuple #[.slice p n c, .int .i64 er]) ∧ Hid (HsR w' p n hs ∧ n ≤ 100000) ∧ Hid (OrdA l hs er) ∧ Hid (Below w.heap.size w w')
theorem OrderP.nil {w w' : World} {l : List It} {er : Int} (h : OrdA l [] er) (hb : Below w.heap.size w w') : OrderP w l (.returned (.tuple #[.slice none 0 0, .int .i64 er])) w' :=
  ⟨none, 0, 0, er, [], rfl, ⟨HsR.nil _ _, by omega⟩, h, hb⟩

set_option maxRecDepth 100000 in
set_option maxHeartbeats 2000000 in
theorem order_is (w : World) (a : Option Addr) (len cap : Nat) (l : List It) (hi : Its w a len l) (hn : len ≤ 100000) (hm : many l ≤ 90000) :
    Calls Try.prog 11 #[.slice a len cap] w (OrderP w l) := by
  have HA : Hid (Its w a len l ∧ len ≤ 100000 ∧ many l ≤ 90000 ∧ l.length = len) := ⟨hi, hn, hm, hi.1⟩
  have q5 : (len : Int) ≤ 100000 := by omega
  clear hi hn hm
  by_cases h256 : 256 < len
  · have hd : decide (256 < len) = true := by simpa using h256
    have HN : Hid (256 < len) := h256
    have H23 := isLong_is w a len cap
    rw [hd] at H23
    have H23' : Hid (Calls Try.prog 23 #[.slice a len cap] w fun e w' => e = .returned (.bool true) ∧ w = w') := H23
    clear H23 h256 hd
    go_enter Try.func11, Try.ntmps11
    go_wp2_with fail
    refine H23'.out.mono ?_
    rintro e w' ⟨rfl, rfl⟩
    go_wp2
    go_ret2
    exact OrderP.nil (.inl ⟨by rw [HA.out.2.2.2]; exact HN.out, rfl, rfl⟩) (Below.refl _ _)
  · have hd : decide (256 < len) = false := by simpa using h256
    have HN : Hid (l.length ≤ 256) := by show _ ≤ _; have := HA.out.2.2.2; omega
    have H23 := isLong_is w a len cap
    rw [hd] at H23
    have H23' : Hid (Calls Try.prog 23 #[.slice a len cap] w fun e w' => e = .returned (.bool false) ∧ w = w') := H23
    have HM18 : Hid (∀ W, Below w.heap.size w W → Calls Try.prog 18 #[.slice a len cap] W (SetP W fun x => len ≤ 256 ∧ missing l x)) := fun W hW => missing_is W a len cap l (HA.out.1.below hW) HA.out.2.1 HA.out.2.2.1
    clear H23 h256 hd
    go_enter Try.func11, Try.ntmps11
    go_wp2_with fail
    refine H23'.out.mono ?_
    rintro e w' ⟨rfl, rfl⟩
    obtain ⟨N, hN⟩ : ∃ N, (namesK l).length = N := ⟨_, rfl⟩
    have HNN : Hid ((namesK l).length = N ∧ N ≤ len) := ⟨hN, by rw [← hN, ← HA.out.1.1]; exact namesK_le l⟩
    have H24 : Hid (Calls Try.prog 24 #[.slice a len cap] w (NamesP w (namesK l))) := namesOf_is w a len cap l HA.out.1 HA.out.2.1
    clear hN
    by_cases hc : N < len
    · have hc1 : (N : Int) < (len : Int) := by omega
      have HC : Hid (N < len) := hc
      clear hc
      go_wp2_with (go_at_call 24; (with_reducible refine Calls.mono H24.out ?_); rintro e w1 ⟨b1, rfl, H1, HB1⟩; have hlen := H1.out.1.len 3; rw [HNN.out.1] at hlen)
      go_ret2
      refine OrderP.nil (.inr (.inl ⟨HN.out, fun h => ?_, rfl, rfl⟩)) HB1.out
      have h1 := (namesK_len l).2 h
      have := HNN.out.1
      have := HC.out
      have := HA.out.2.2.2
      omega
    · have hc1 : ¬ (N : Int) < (len : Int) := by omega
      have HC : Hid (N = len) := by show _ = _; have := HNN.out.2; omega
      clear hc
      go_wp2_with (first
        | (go_at_call 24; (with_reducible refine Calls.mono H24.out ?_); rintro e w1 ⟨b1, rfl, H1, HB1⟩; have hlen := H1.out.1.len 3; rw [HNN.out.1] at hlen)
        | fail)
      refine (HM18.out w1 HB1.out).mono ?_
      rintro e w2 ⟨a2, n2, c2, rs, rfl, H2, HB2⟩
      have HNO : Hid ((l.map (·.name)).Nodup) := (namesK_len l).1 (by rw [HNN.out.1, HC.out, HA.out.2.2.2])
      have HB : Hid (Below w.heap.size w w2) := HB1.out.trans (HB2.out.mono HB1.out.size)
      clear hlen hc1
      by_cases h0 : n2 = 0
      · subst h0
        have HMI : Hid (∀ x, ¬ missing l x) := fun x hx => by
          have h1 := (H2.out.2.2.2 x).2 ⟨by have := HN.out; have := HA.out.2.2.2; omega, hx⟩
          rw [List.eq_nil_of_length_eq_zero H2.out.1.1] at h1
          cases h1
        have HCL : Hid (∀ x ∈ l, ∀ d ∈ x.deps, d ∈ l.map (·.name)) := fun x hx d hd => by
          by_cases h : d ∈ l.map (·.name)
          · exact h
          · exact absurd ⟨⟨x, hx, hd⟩, h⟩ (HMI.out d)
        have H25 : Hid (Calls Try.prog 25 #[.slice a len cap] w2 (OrdP w2 l len)) := orderOf_is w2 a len cap l (HA.out.1.below HB.out) HA.out.2.1 HA.out.2.2.1 (by rw [HNN.out.1, HC.out]) (fun x hx d hd => (mem_namesK l).2 (HCL.out x hx d hd)) (fun ns h1 h2 => web_cap HA.out.2.2.2 (by rw [HNN.out.1, HC.out]) HA.out.2.2.1 ns h1 h2)
        go_wp2_with fail
        refine H25.out.mono ?_
        rintro e w3 ⟨p, c, ns, T, rfl, G1, G2, G3, G4⟩
        have HOS : Hid (OrderS l (nmOf ns T) ∧ (nmOf ns T).length = T.length ∧ T.length ≤ len) := by
          have hl := G2.out.2.2
          have h1 := order_of (T := T) HNO.out HCL.out G2.out.1 (fun x => (G2.out.2.1 x).trans (mem_namesK l)) (by rw [hl]; exact G3.out.1) (by rw [hl]; exact G3.out.2)
          refine ⟨h1, by simp [nmOf], ?_⟩
          refine nodup_len T len ?_ (fun k hk => ?_)
          · rw [List.nodup_iff_pairwise_ne, List.pairwise_iff_getElem]
            intro i j hi hj hij e
            have h1 := (G3.out.1 j T[j] (List.getElem?_eq_getElem hj)).2.1
            exact h1 (by rw [← e]; exact List.mem_take_iff_getElem.2 ⟨i, by omega, rfl⟩)
          · obtain ⟨i, hi⟩ := List.getElem?_of_mem hk
            exact (G3.out.1 i k hi).1
        have HB3 : Hid (Below w.heap.size w w3) := HB.out.trans (G4.out.mono HB.out.size)
        have q6 : (T.length : Int) ≤ (len : Int) := by have := HOS.out.2.2; omega
        by_cases ht : T.length < len
        · have q7 : (T.length : Int) < (len : Int) := by omega
          have HT : Hid (T.length < len) := ht
          clear ht
          go_wp2
          go_ret2
          exact OrderP.nil (.inr (.inr (.inr (.inl ⟨HN.out, HNO.out, HMI.out, ⟨nmOf ns T, HOS.out.1, by rw [HOS.out.2.1, HA.out.2.2.2]; exact HT.out⟩, rfl, rfl⟩)))) HB3.out
        · have q7 : ¬ (T.length : Int) < (len : Int) := by omega
          have HT : Hid (len ≤ T.length) := by show _ ≤ _; omega
          clear ht
          go_wp2
          go_ret2
          exact ⟨p, T.length, c, 0, nmOf ns T, rfl, ⟨G1.out, by have := HOS.out.2.2; have := HA.out.2.1; omega⟩, .inr (.inr (.inr (.inr ⟨HN.out, HNO.out, HMI.out, HOS.out.1, by rw [HOS.out.2.1, HA.out.2.2.2]; exact HT.out, rfl⟩))), HB3.out⟩
      · have e0 : (0 : Int) < (n2 : Int) := by omega
        have HX : Hid (∃ x, missing l x) := by
          cases rs with
          | nil => exact absurd H2.out.1.1.symm h0
          | cons x rs => exact ⟨x, ((H2.out.2.2.2 x).1 (by simp)).2⟩
        clear h0
        go_wp2
        go_ret2
        exact OrderP.nil (.inr (.inr (.inl ⟨HN.out, HNO.out, HX.out, rfl, rfl⟩))) HB.out
end Go.Proofs.Ytijkpkcopjkhkaa.Oct

/- Layer 12 (deps): the steps as items tell them; needs and above mirror each other. -/
namespace Go.Proofs.Ytijkpkcopjkhkaa.Oct

theorem find_key {ms : List (Hs × List Hs)} {x : Hs} {m : Hs × List Hs} (h : ms.find? (fun m => m.1 == x) = some m) : m.1 = x := by
  have := List.find?_some h
  simpa using this
theorem getS_appS (ms : List (Hs × List Hs)) (h x : Hs) (xs : List Hs) : getS (appS ms h xs) x = if x = h then getS ms h ++ xs else getS ms x := by
  unfold appS
  split
  · rename_i hm
    unfold getS
    rw [List.find?_map]
    have e : ((fun m : Hs × List Hs => m.1 == x) ∘ fun m => if m.1 = h then (m.1, m.2 ++ xs) else m) = fun m => m.1 == x := by
      funext m
      simp only [Function.comp]
      split <;> rfl
    rw [e]
    cases hf : ms.find? (fun m => m.1 == x) with
    | none =>
      by_cases hx : x = h
      · subst hx
        obtain ⟨m, hm1, hm2⟩ := List.mem_map.1 hm
        rw [List.find?_eq_none] at hf
        exact absurd (by simpa using hm2) (hf m hm1)
      · simp [hx]
    | some m =>
      have hk := find_key hf
      by_cases hx : x = h
      · subst hx
        simp [hf, hk]
      · have : ¬ m.1 = h := by rw [hk]; exact hx
        simp [hx, this]
  · rename_i hm
    unfold getS
    rw [List.find?_append]
    by_cases hx : x = h
    · subst hx
      have hn : ms.find? (fun m => m.1 == x) = none := by
        rw [List.find?_eq_none]
        intro m hmm e
        exact hm (List.mem_map.2 ⟨m, hmm, by simpa using e⟩)
      rw [hn]; simp
    · have : (fun m : Hs × List Hs => m.1 == x) (h, xs) = false := by simpa using fun e : h = x => hx e.symm
      rw [if_neg hx]
      cases hf : ms.find? (fun m => m.1 == x) with
      | none => simp [this]
      | some m => simp
theorem mem_down (l : List It) (x y : Hs) : y ∈ getS (downS l) x ↔ ∃ it ∈ l, it.name = x ∧ y ∈ it.deps := by
  have key : ∀ (l : List It) (ms : List (Hs × List Hs)), y ∈ getS (l.foldl (fun ms x => appS ms x.name x.deps) ms) x ↔ y ∈ getS ms x ∨ ∃ it ∈ l, it.name = x ∧ y ∈ it.deps := by
    intro l
    induction l with
    | nil => intro ms; simp
    | cons it l ih =>
      intro ms
      rw [List.foldl_cons, ih, getS_appS]
      by_cases hx : x = it.name
      · subst hx
        simp only [if_true, List.mem_append, List.mem_cons, exists_eq_or_imp, true_and, or_assoc]
      · have : ¬ it.name = x := fun e => hx e.symm
        simp only [if_neg hx, List.mem_cons, exists_eq_or_imp, this, false_and, false_or]
  have := key l []
  simpa [downS, getS] using this
theorem mem_up (l : List It) (x y : Hs) : y ∈ getS (upS l) x ↔ ∃ it ∈ l, x ∈ it.deps ∧ it.name = y := by
  have inner : ∀ (ds : List Hs) (n : Hs) (ms : List (Hs × List Hs)), y ∈ getS (ds.foldl (fun ms d => appS ms d [n]) ms) x ↔ y ∈ getS ms x ∨ (x ∈ ds ∧ n = y) := by
    intro ds n
    induction ds with
    | nil => intro ms; simp
    | cons d ds ih =>
      intro ms
      rw [List.foldl_cons, ih, getS_appS]
      by_cases hx : x = d
      · subst hx
        simp only [if_true, List.mem_append, List.mem_cons, List.not_mem_nil, or_false, true_or, true_and]
        constructor
        · rintro ((h | h) | h)
          · exact .inl h
          · exact .inr h.symm
          · exact .inr h.2
        · rintro (h | h)
          · exact .inl (.inl h)
          · exact .inl (.inr h.symm)
      · rw [if_neg hx]
        simp only [List.mem_cons, hx, false_or]
  have key : ∀ (l : List It) (ms : List (Hs × List Hs)), y ∈ getS (l.foldl (fun ms x => upI ms x.name x.deps) ms) x ↔ y ∈ getS ms x ∨ ∃ it ∈ l, x ∈ it.deps ∧ it.name = y := by
    intro l
    induction l with
    | nil => intro ms; simp
    | cons it l ih =>
      intro ms
      rw [List.foldl_cons, ih]
      unfold upI
      rw [inner]
      simp only [List.mem_cons, exists_eq_or_imp, or_assoc]
  have := key l []
  simpa [upS, getS] using this
theorem Reach.trans {s : Hs → List Hs} {a b c : Hs} (h : Reach s a b) (k : Reach s b c) : Reach s a c := by
  induction k with
  | one h1 => exact .step h h1
  | step _ h1 ih => exact .step ih h1
theorem reach_turn {s t : Hs → List Hs} (hst : ∀ x y, y ∈ s x → x ∈ t y) {a b : Hs} (h : Reach s a b) : Reach t b a := by
  induction h with
  | one h1 => exact .one (hst _ _ h1)
  | step _ h1 ih => exact (Reach.one (hst _ _ h1)).trans ih
/-- one needs another just if the other is needed by it -/
theorem mirror (l : List It) (a b : Hs) : Reach (getS (downS l)) a b ↔ Reach (getS (upS l)) b a := by
  have h : ∀ x y, y ∈ getS (downS l) x ↔ x ∈ getS (upS l) y := fun x y => by
    rw [mem_down, mem_up]
    constructor
    · rintro ⟨it, h1, h2, h3⟩; exact ⟨it, h1, h3, h2⟩
    · rintro ⟨it, h1, h2, h3⟩; exact ⟨it, h1, h3, h2⟩
  exact ⟨reach_turn fun x y hy => (h x y).1 hy, reach_turn fun x y hy => (h y x).2 hy⟩
/-- steps that say the same lead to the same -/
theorem reach_same {s t : Hs → List Hs} (hst : ∀ x y, y ∈ s x ↔ y ∈ t x) {a b : Hs} : Reach s a b ↔ Reach t a b := by
  have key : ∀ {s t : Hs → List Hs}, (∀ x y, y ∈ s x → y ∈ t x) → ∀ {b}, Reach s a b → Reach t a b := by
    intro s t h b hr
    induction hr with
    | one h1 => exact .one (h _ _ h1)
    | step _ h1 ih => exact .step ih (h _ _ h1)
  exact ⟨key fun x y => (hst x y).1, key fun x y => (hst x y).2⟩

/-! ### the chapter's example -/
section
variable {x1 x2 x3 : It} {a b c : Hs}
structure Exam (x1 x2 x3 : It) (a b c : Hs) : Prop where
  n1 : x1.name = c
  d1 : x1.deps = [a, b]
  n2 : x2.name = a
  d2 : x2.deps = []
  n3 : x3.name = b
  d3 : x3.deps = [a]
  ab : LtH a b
  bc : LtH b c
theorem Exam.ne (h : Exam x1 x2 x3 a b c) : a ≠ b ∧ a ≠ c ∧ b ≠ c :=
  ⟨fun e => LtH.irr a (by have := h.ab; rw [← e] at this; exact this), fun e => LtH.irr a (by have := h.ab.tr h.bc; rw [← e] at this; exact this), fun e => LtH.irr b (by have := h.bc; rw [← e] at this; exact this)⟩
theorem Exam.rdy (h : Exam x1 x2 x3 a b c) (told : List Hs) (k : Hs) : Rdy [x1, x2, x3] told k ↔ (k = c ∧ c ∉ told ∧ a ∈ told ∧ b ∈ told) ∨ (k = a ∧ a ∉ told) ∨ (k = b ∧ b ∉ told ∧ a ∈ told) := by
  obtain ⟨n1, n2, n3⟩ := h.ne
  unfold Rdy
  simp only [List.map_cons, List.map_nil, List.mem_cons, List.not_mem_nil, or_false, h.n1, h.n2, h.n3, forall_eq_or_imp, forall_eq, h.d1, h.d2, h.d3]
  constructor
  · rintro ⟨rfl | rfl | rfl, h1, h2, h3, h4⟩
    · exact .inl ⟨rfl, h1, (h2 rfl).1, (h2 rfl).2⟩
    · exact .inr (.inl ⟨rfl, h1⟩)
    · exact .inr (.inr ⟨rfl, h1, h4 rfl⟩)
  · rintro (⟨rfl, h1, h2, h3⟩ | ⟨rfl, h1⟩ | ⟨rfl, h1, h2⟩)
    · exact ⟨.inl rfl, h1, fun _ => ⟨h2, h3⟩, fun _ => by simp, fun e => h2⟩
    · exact ⟨.inr (.inl rfl), h1, fun e => absurd e.symm n2, fun _ => by simp, fun e => absurd e.symm n1⟩
    · exact ⟨.inr (.inr rfl), h1, fun e => absurd e.symm n3, fun _ => by simp, fun _ => h2⟩
theorem Exam.order (h : Exam x1 x2 x3 a b c) : OrderS [x1, x2, x3] [a, b, c] := by
  obtain ⟨n1, n2, n3⟩ := h.ne
  refine ⟨fun i k hk => ?_, fun k hk => ?_⟩
  · match i, hk with
    | 0, hk =>
      simp at hk; subst hk
      refine ⟨(h.rdy _ _).2 (.inr (.inl ⟨rfl, by simp⟩)), fun k' hk' => ?_⟩
      rcases (h.rdy _ _).1 hk' with ⟨_, _, e, _⟩ | ⟨e, _⟩ | ⟨_, _, e⟩
      · simp at e
      · exact .inl e.symm
      · simp at e
    | 1, hk =>
      simp at hk; subst hk
      refine ⟨(h.rdy _ _).2 (.inr (.inr ⟨rfl, by simpa using fun e => n1 e.symm, by simp⟩)), fun k' hk' => ?_⟩
      rcases (h.rdy _ _).1 hk' with ⟨_, _, _, e⟩ | ⟨_, e⟩ | ⟨e, _⟩
      · simp at e; exact absurd e.symm n1
      · simp at e
      · exact .inl e.symm
    | 2, hk =>
      simp at hk; subst hk
      refine ⟨(h.rdy _ _).2 (.inl ⟨rfl, by simpa using ⟨fun e => n2 e.symm, fun e => n3 e.symm⟩, by simp, by simp⟩), fun k' hk' => ?_⟩
      rcases (h.rdy _ _).1 hk' with ⟨e, _⟩ | ⟨_, e⟩ | ⟨_, e, _⟩
      · exact .inl e.symm
      · simp at e
      · simp at e
    | i + 3, hk => simp at hk
  · rcases (h.rdy _ _).1 hk with ⟨_, e, _⟩ | ⟨_, e⟩ | ⟨_, e, _⟩ <;> simp at e
theorem Exam.nodup (h : Exam x1 x2 x3 a b c) : ([x1, x2, x3].map (·.name)).Nodup := by
  obtain ⟨n1, n2, n3⟩ := h.ne
  simp only [List.map_cons, List.map_nil, h.n1, h.n2, h.n3]
  simp [n1]
  exact ⟨fun e => n2 e.symm, fun e => n3 e.symm⟩
theorem Exam.whole (h : Exam x1 x2 x3 a b c) (x : Hs) : ¬ missing [x1, x2, x3] x := by
  rintro ⟨⟨it, h1, h2⟩, h3⟩
  simp only [List.map_cons, List.map_nil, h.n1, h.n2, h.n3] at h3
  simp only [List.mem_cons, List.not_mem_nil, or_false] at h1
  rcases h1 with rfl | rfl | rfl
  · rw [h.d1] at h2; simp at h2; rcases h2 with rfl | rfl <;> simp at h3
  · rw [h.d2] at h2; simp at h2
  · rw [h.d3] at h2; simp at h2; subst h2; simp at h3
theorem Exam.ord (h : Exam x1 x2 x3 a b c) {hs : List Hs} {er : Int} (ho : OrdA [x1, x2, x3] hs er) : hs = [a, b, c] ∧ er = 0 := by
  rcases ho with ⟨e, _⟩ | ⟨_, e, _⟩ | ⟨_, _, ⟨x, e⟩, _⟩ | ⟨_, _, _, ⟨ks, e1, e2⟩, _⟩ | ⟨_, _, _, e1, _, e2⟩
  · simp at e
  · exact absurd h.nodup e
  · exact absurd e (h.whole x)
  · have := OrderS.same (fun _ _ => Iff.rfl) e1 h.order
    rw [this] at e2; simp at e2
  · exact ⟨OrderS.same (fun _ _ => Iff.rfl) e1 h.order, e2⟩
theorem Exam.needs (h : Exam x1 x2 x3 a b c) (x : Hs) : Reach (getS (downS [x1, x2, x3])) c x ↔ x ∈ [a, b] := by
  obtain ⟨n1, n2, n3⟩ := h.ne
  have st : ∀ u v, v ∈ getS (downS [x1, x2, x3]) u ↔ (u = c ∧ (v = a ∨ v = b)) ∨ (u = b ∧ v = a) := by
    intro u v
    rw [mem_down]
    simp only [List.mem_cons, List.not_mem_nil, or_false, exists_eq_or_imp, exists_eq_left, h.n1, h.n2, h.n3, h.d1, h.d2, h.d3, and_false, false_or]
    constructor
    · rintro (⟨e, f⟩ | ⟨e, f⟩)
      · exact .inl ⟨e.symm, f⟩
      · exact .inr ⟨e.symm, f⟩
    · rintro (⟨e, f⟩ | ⟨e, f⟩)
      · exact .inl ⟨e.symm, f⟩
      · exact .inr ⟨e.symm, f⟩
  constructor
  · intro hr
    induction hr with
    | one h1 =>
      rcases (st _ _).1 h1 with ⟨_, e | e⟩ | ⟨e, _⟩
      · simp [e]
      · simp [e]
      · exact absurd e.symm n3
    | step _ h1 ih =>
      rcases (st _ _).1 h1 with ⟨_, e | e⟩ | ⟨_, e⟩ <;> simp [e]
  · intro hx
    simp at hx
    exact .one ((st _ _).2 (.inl ⟨rfl, hx⟩))
theorem Exam.above (h : Exam x1 x2 x3 a b c) (x : Hs) : Reach (getS (upS [x1, x2, x3])) a x ↔ x ∈ [b, c] := by
  obtain ⟨n1, n2, n3⟩ := h.ne
  have st : ∀ u v, v ∈ getS (upS [x1, x2, x3]) u ↔ (v = c ∧ (u = a ∨ u = b)) ∨ (v = b ∧ u = a) := by
    intro u v
    rw [mem_up]
    simp only [List.mem_cons, List.not_mem_nil, or_false, exists_eq_or_imp, exists_eq_left, h.n1, h.n2, h.n3, h.d1, h.d2, h.d3, false_and, false_or]
    constructor
    · rintro (⟨e, f⟩ | ⟨e, f⟩)
      · exact .inl ⟨f.symm, e⟩
      · exact .inr ⟨f.symm, e⟩
    · rintro (⟨e, f⟩ | ⟨e, f⟩)
      · exact .inl ⟨f, e.symm⟩
      · exact .inr ⟨f, e.symm⟩
  constructor
  · intro hr
    induction hr with
    | one h1 =>
      rcases (st _ _).1 h1 with ⟨e, _⟩ | ⟨e, _⟩ <;> simp [e]
    | step _ h1 ih =>
      rcases (st _ _).1 h1 with ⟨e, _⟩ | ⟨e, _⟩ <;> simp [e]
  · intro hx
    simp at hx
    rcases hx with e | e
    · exact .one ((st _ _).2 (.inr ⟨e, rfl⟩))
    · exact .one ((st _ _).2 (.inl ⟨e, .inl rfl⟩))
end
end Go.Proofs.Ytijkpkcopjkhkaa.Oct

/- Layer 12 (deps): the chapter's example in memory. -/
namespace Go.Proofs.Ytijkpkcopjkhkaa.Oct
open Go.RowKit

/-- the example's hashes -/
def hx (k : UInt8) : Hs := k :: List.replicate 31 0
theorem hx_len (k : UInt8) : (hx k).length = 32 := by simp [hx]
theorem run_b34_1 (W : World) : (Instr.build 34 #[(0, .int .u8 1)]).run Try.prog W = .ok (.agg (U (hx 1)).toArray) W := by kernel_rfl
theorem run_b34_2 (W : World) : (Instr.build 34 #[(0, .int .u8 2)]).run Try.prog W = .ok (.agg (U (hx 2)).toArray) W := by kernel_rfl
theorem run_b34_3 (W : World) : (Instr.build 34 #[(0, .int .u8 3)]).run Try.prog W = .ok (.agg (U (hx 3)).toArray) W := by kernel_rfl
theorem lt12 : LtH (hx 1) (hx 2) := by unfold LtH; decide
theorem lt23 : LtH (hx 2) (hx 3) := by unfold LtH; decide
theorem run_bs1 (W : World) : (Instr.buildSlice 26 1 #[(0, .agg (U (hx 1)).toArray)]).run Try.prog W = .ok (.slice (some ⟨W.heap.size, 0, none⟩) 1 1) (W.alloc (.cells (UU [hx 1]).toArray 34)) := by kernel_rfl
theorem run_bs12 (W : World) : (Instr.buildSlice 26 2 #[(0, .agg (U (hx 1)).toArray), (1, .agg (U (hx 2)).toArray)]).run Try.prog W = .ok (.slice (some ⟨W.heap.size, 0, none⟩) 2 2) (W.alloc (.cells (UU [hx 1, hx 2]).toArray 34)) := by kernel_rfl
theorem run_bs23 (W : World) : (Instr.buildSlice 26 2 #[(0, .agg (U (hx 2)).toArray), (1, .agg (U (hx 3)).toArray)]).run Try.prog W = .ok (.slice (some ⟨W.heap.size, 0, none⟩) 2 2) (W.alloc (.cells (UU [hx 2, hx 3]).toArray 34)) := by kernel_rfl
theorem run_bs123 (W : World) : (Instr.buildSlice 26 3 #[(0, .agg (U (hx 1)).toArray), (1, .agg (U (hx 2)).toArray), (2, .agg (U (hx 3)).toArray)]).run Try.prog W = .ok (.slice (some ⟨W.heap.size, 0, none⟩) 3 3) (W.alloc (.cells (UU [hx 1, hx 2, hx 3]).toArray 34)) := by kernel_rfl
/-- the example's items -/
def i3 (p : Option Addr) : It := ⟨hx 3, [hx 1, hx 2], p, 2, 2⟩
def i1 : It := ⟨hx 1, [], none, 0, 0⟩
def i2 (p : Option Addr) : It := ⟨hx 2, [hx 1], p, 1, 1⟩
theorem run_it3 (W : World) (p : Option Addr) : (Instr.build 36 #[(0, .agg (U (hx 3)).toArray), (1, .slice p 2 2)]).run Try.prog W = .ok (.agg (i3 p).cells.toArray) W := by kernel_rfl
theorem run_it2 (W : World) (p : Option Addr) : (Instr.build 36 #[(0, .agg (U (hx 2)).toArray), (1, .slice p 1 1)]).run Try.prog W = .ok (.agg (i2 p).cells.toArray) W := by kernel_rfl
theorem run_it1 (W : World) : (Instr.build 36 #[(0, .agg (U (hx 1)).toArray)]).run Try.prog W = .ok (.agg i1.cells.toArray) W := by kernel_rfl
theorem run_its (W : World) (p p' : Option Addr) : (Instr.buildSlice 22 3 #[(0, .agg (i3 p).cells.toArray), (1, .agg i1.cells.toArray), (2, .agg (i2 p').cells.toArray)]).run Try.prog W = .ok (.slice (some ⟨W.heap.size, 0, none⟩) 3 3) (W.alloc (.cells ((i3 p).cells ++ i1.cells ++ (i2 p').cells).toArray 36)) := by kernel_rfl
theorem exam_is (p p' : Option Addr) : Exam (i3 p) i1 (i2 p') (hx 1) (hx 2) (hx 3) := ⟨rfl, rfl, rfl, rfl, rfl, rfl, lt12, lt23⟩
theorem HsR.new (w : World) (hs : List Hs) (hl : ∀ h ∈ hs, h.length = 32) : HsR (w.alloc (.cells (UU hs).toArray 34)) (some ⟨w.heap.size, 0, none⟩) hs.length hs := by
  refine ⟨rfl, hl, fun _ => ⟨_, _, rfl, by simp, ?_⟩⟩
  refine (rangeAt_UU hs 0 hl).2 ?_
  intro j v hj
  have := (Blk.new w (UU hs).toArray 34).cell (i := 0 + j) (v := v) (by simpa using hj)
  exact this

end Go.Proofs.Ytijkpkcopjkhkaa.Oct
