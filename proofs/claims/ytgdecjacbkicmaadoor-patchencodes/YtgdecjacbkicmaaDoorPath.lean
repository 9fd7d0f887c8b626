/-
  Layer 10 (patch): 'Path', 'Parts'.
-/
import Derived.Test.YtgdecjacbkicmaaDoorPieces
namespace Go.Proofs.YtgdecjacbkicmaaDoor.Oct
open Go.RowKit Go.Shelf
set_option maxRecDepth 100000
attribute [local go_sem] Oper.semAt_some

theorem split_mem_len : ∀ (l : List UInt8), ∀ p ∈ split l, p.length ≤ l.length
  | [], p, h => by simp [split] at h; subst h; simp
  | c :: r, p, h => by
    have ih := split_mem_len r
    unfold split at h
    split at h
    · rcases List.mem_cons.1 h with rfl | h
      · simp
      · have := ih p h; simp; omega
    · cases hs : split r with
      | nil => exact absurd hs (split_ne r)
      | cons q qs =>
        rw [hs] at h ih
        rcases List.mem_cons.1 h with rfl | h
        · have := ih q (by simp); simp; omega
        · have := ih p (by simp [h]); simp; omega
theorem pcs_size {s x : ByteArray} {t : Nat} (h : (pcs s)[t]? = some x) : x.size ≤ s.size := by
  have hm := List.mem_of_getElem? h
  obtain ⟨p, hp, rfl⟩ := List.mem_map.1 hm
  have := split_mem_len _ p hp
  rw [size_list, size_list, mkS_data]
  exact this
theorem pcs_len (s : ByteArray) : (pcs s).length = (split s.data.toList).length := by simp [pcs]
theorem isPath_long {s : ByteArray} (h : 64 < s.size) : isPath s.data.toList = false := by
  rw [size_list] at h
  unfold isPath
  rw [decide_eq_false (by omega : ¬ s.data.toList.length ≤ 64)]; rfl
theorem isPath_many {s x : ByteArray} (h : (pcs s)[8]? = some x) : isPath s.data.toList = false := by
  have := (List.getElem?_eq_some_iff.1 h).1
  rw [pcs_len] at this
  unfold isPath
  rw [decide_eq_false (by omega : ¬ (split s.data.toList).length ≤ 8)]; simp
theorem isPath_bad {s x : ByteArray} {t : Nat} (h : (pcs s)[t]? = some x) (hx : isPart x.data.toList = false) : isPath s.data.toList = false := by
  have hm := List.mem_of_getElem? h
  obtain ⟨p, hp, rfl⟩ := List.mem_map.1 hm
  rw [mkS_data] at hx
  have : (split s.data.toList).all isPart = false := by
    rw [List.all_eq_false]; exact ⟨p, hp, by simp [hx]⟩
  simp [isPath, this]
theorem isPath_good {s : ByteArray} (h1 : s.size ≤ 64) (h2 : (pcs s).length ≤ 8) (h3 : ((pcs s).take (pcs s).length).all (fun x => isPart x.data.toList) = true) : isPath s.data.toList = true := by
  rw [List.take_length] at h3
  have e : (split s.data.toList).all isPart = true := by
    rw [← h3, pcs, List.all_map]
    congr 1
  rw [pcs_len] at h2
  rw [size_list] at h1
  simp only [isPath, e, decide_eq_true h1, decide_eq_true h2, Bool.and_self]

/-- between two rounds of 'Path' -/
def PInv (s : ByteArray) (w : World) (t : Nat) (W : World) : Prop :=
  W.heap[w.heap.size]? = some (.cells #[.bool false] 4) ∧ Below w.heap.size w W ∧ t ≤ 8 ∧ ((pcs s).take t).all (fun x => isPart x.data.toList) = true
def PLeft (s : ByteArray) (w : World) (c : Code) (W : World) : Prop :=
  c = .ret ∧ W.cell? ⟨w.heap.size, 0, none⟩ = some (.bool false) ∧ Below w.heap.size w W ∧ isPath s.data.toList = false
theorem cell_one {A : World} {b : Nat} {v : Value} {t : TypeId} (h : A.heap[b]? = some (.cells #[v] t)) : A.cell? ⟨b, 0, none⟩ = some v := by
  rw [cell_of_row A b 0 _ t (0, 0) h]
  rfl
theorem below_drewN (B : Nat) (A : World) (k : Nat) : Below B A (A.drewN k) := ⟨rfl, rfl, rfl, Nat.le_refl _, fun _ _ => rfl⟩

set_option maxRecDepth 100000 in
set_option maxHeartbeats 2000000 in
theorem path_is (s : ByteArray) (w : World) (hn : s.size ≤ 140737488355328) : Calls Tryd.prog 38 #[.string s] w fun e w' => e = .returned (.bool (isPath s.data.toList)) ∧ Below w.heap.size w w' := by
  obtain ⟨n, hsn⟩ : ∃ n, s.size = n := ⟨_, rfl⟩
  have HSN : Hid (s.size = n) := hsn
  rw [hsn] at hn
  by_cases h64 : 64 < n
  · have hp := isPath_long (s := s) (by omega)
    rw [hp]
    have q1 : (64 : Int) < n := by omega
    clear h64 hp hn
    go_enter Tryd.func38, Tryd.ntmps38
    go_wp2
    have hc5 := cell_one (World.alloc_heap_new w (.cells #[.bool false] 4))
    refine bodyPost_ret (v := .bool false) ?_ rfl ?_
    · simp [results, Tryd.f38, go_sem, hc5]
    · exact ⟨rfl, (Below.refl _ w).alloc (Nat.le_refl _) _⟩
  · have HN64 : Hid (n ≤ 64) := by show n ≤ 64; omega
    have q1 : (n : Int) ≤ 64 := by omega
    clear h64
    refine (callsIn_wide (n := 3)).1 ?_
    refine callsIn_of_wp_marks Tryd.func38 rfl trivial ?_ rfl
    simp only [Tryd.ntmps38, List.size_toArray, List.length_cons, List.length_nil, Nat.reduceAdd, Nat.reduceSub, Array.replicate_succ, Array.replicate_zero, List.push_toArray, List.append_toArray, List.nil_append, List.cons_append]
    gi_wp2_with (refine ⟨trivial, ?_⟩; gi_at_call 60; refine (callsIn_wide.2 (pieces_is s _)).mono ?_; rintro e w1 ⟨rfl, rfl⟩)
    obtain ⟨W2, hW2⟩ : ∃ W2, W2 = (w.alloc (.cells #[.bool false] 4)).alloc (.cells #[.string s] 9) := ⟨_, rfl⟩
    have hS2 : W2.heap.size = w.heap.size + 2 := by rw [hW2]; simp
    have hB2 : Below w.heap.size w W2 := by rw [hW2]; exact ((Below.refl _ w).alloc (Nat.le_refl _) _).alloc (by simp) _
    have hr2 : W2.heap[w.heap.size]? = some (.cells #[.bool false] 4) := by
      rw [hW2]; exact (Below.heap_alloc _ _ _ (by simp)).trans (World.alloc_heap_new w _)
    have hs2 : W2.heap[w.heap.size + 1]? = some (.cells #[.string s] 9) := by
      have e := World.alloc_heap_new (w.alloc (.cells #[.bool false] 4)) (.cells #[.string s] 9)
      rw [World.size_alloc, ← hW2] at e
      exact e
    rw [← hW2]
    clear hW2
    refine rangeLeave (gf := 75) (lb := #[.pointer (some ⟨w.heap.size + 1, 0, none⟩)]) rfl (enters_of Tryd.func75 (by kernel_rfl) rfl) encP (fun _ _ => rfl) (pcs s)
      (PInv s w) (PLeft s w) ?hI ?hIx ⟨hr2, hB2, by omega, rfl⟩
      (fun t x => { tmps := #[.string s, undef, .pointer (some ⟨w.heap.size, 0, none⟩), .int .i64 (t : Int), .string x, .string s, .int .i64 (n : Int), .bool (decide ((64 : Int) < (n : Int))), .string s, .func (.func 75) #[] #[.pointer (some ⟨w.heap.size + 1, 0, none⟩)], .int .i64 (t : Int), .string x, undef, undef, undef, undef, undef, undef, undef], defers := [] }) ?assign ?body ?iter ?done ?stop
    case hI =>
      rintro t A B ⟨h1, h2, h3, h4⟩ hb
      rw [hS2] at hb
      exact ⟨(hb.block _ (by omega)).trans h1, h2.trans (hb.mono (by omega)), h3, h4⟩
    case hIx =>
      rintro c A B ⟨h1, h2, h3, h4⟩ hb
      rw [hS2] at hb
      exact ⟨h1, (hb.cell (p := ⟨w.heap.size, 0, none⟩) (by simp)).trans h2, h3.trans (hb.mono (by omega)), h4⟩
    case assign =>
      intro t x A K hK
      dsimp only [encP]
      gi_wp2
      exact hK
    case body =>
      rintro t x A ⟨h1, h2, h3, h4⟩ hx hlt
      have HX : Hid ((pcs s)[t]? = some x) := hx
      have HXN : Hid (x.size ≤ 140737488355328) := by
        have e1 := pcs_size hx
        have e2 := HSN.out
        have e3 := HN64.out
        show x.size ≤ _
        omega
      have HB : Hid (Below w.heap.size w A) := h2
      have HR : Hid (A.heap[w.heap.size]? = some (.cells #[.bool false] 4)) := h1
      have H4 : Hid (((pcs s).take t).all (fun x => isPart x.data.toList) = true) := h4
      have hcA := cell_one h1
      have hfA : A.frozen? ⟨w.heap.size, 0, none⟩ = false := Boxed.frozen (t := 4) (v := .bool false) h1
      have HH : Hid (Held W2.heap.size A (A.setCell ⟨w.heap.size, 0, none⟩ (.bool false))) := Held.setCell A _ (by omega) _
      have HBS : Hid (Below w.heap.size w (A.setCell ⟨w.heap.size, 0, none⟩ (.bool false))) := h2.setCell (p := ⟨w.heap.size, 0, none⟩) (Nat.le_refl _) _
      have HCS : Hid ((A.setCell ⟨w.heap.size, 0, none⟩ (.bool false)).cell? ⟨w.heap.size, 0, none⟩ = some (.bool false)) := World.cell?_setCell_same' _ _ _ (by rw [hcA]; rfl)
      clear hx h1 h2 h4 hlt
      by_cases h8 : t = 8
      · subst h8
        gi_wp2
        refine ⟨trivial, ?_⟩
        gi_wp2
        exact ⟨⟨rfl, HCS.out, HBS.out, isPath_many HX.out⟩, HH.out⟩
      · have q2 : (t : Int) < 8 := by omega
        have HT : Hid (t < 8) := by show t < 8; omega
        clear h8 h3
        cases hp : isPart x.data.toList with
        | false =>
          have HP : Hid (isPart x.data.toList = false) := hp
          clear hp
          gi_wp2_with (refine ⟨trivial, ?_⟩; gi_at_call 61; refine (CallsIn.inRound _ (callsIn_wide.2 (isPart_b x false HP.out _ HXN.out))).mono ?_; rintro e w2 ⟨rfl, rfl⟩)
          exact ⟨⟨rfl, HCS.out, HBS.out, isPath_bad HX.out HP.out⟩, HH.out⟩
        | true =>
          have HP : Hid (isPart x.data.toList = true) := hp
          clear hp
          gi_wp2_with (refine ⟨trivial, ?_⟩; gi_at_call 61; refine (CallsIn.inRound _ (callsIn_wide.2 (isPart_b x true HP.out _ HXN.out))).mono ?_; rintro e w2 ⟨rfl, rfl⟩)
          refine ⟨⟨HR.out, HB.out, HT.out, ?_⟩, Held.of_below (Below.refl _ _)⟩
          obtain ⟨hl, e⟩ := List.getElem?_eq_some_iff.1 HX.out
          rw [all_take_succ _ _ _ hl, H4.out, e, HP.out]; rfl
    case iter =>
      intro J Jx W hS hB hJb hJxb hJI hY h0
      refine pieces1_in _ _ _ s (by have := HSN.out; have := HN64.out; omega) J Jx (fun t A k hj => hJb t A _ hj (below_drewN _ A k)) (fun t x A hj hx => (hY t x A hj hx).mono (fun e B h => h.2)) W ?_ h0
      exact cell_one ((hB.block _ (by omega)).trans hs2)
    case done =>
      rintro W ⟨h1, h2, h3, h4⟩ hK
      have hcA := cell_one h1
      have hfA : W.frozen? ⟨w.heap.size, 0, none⟩ = false := Boxed.frozen (t := 4) (v := .bool false) h1
      have HP : Hid (isPath s.data.toList = true) := isPath_good (by have := HSN.out; have := HN64.out; omega) h3 h4
      have HB : Hid (Below w.heap.size w W) := h2
      clear h2 h3 h4
      gi_wp2
      have hK' := (KeepsOthers.setCell W ⟨w.heap.size, 0, none⟩ (.bool true)).same _ _ hK rfl
      refine ⟨by simp, .inl ⟨_, _, rfl, run_takeDeferred hK', ?_⟩⟩
      have hc5 := cell_kept (World.cell?_setCell_same' W ⟨w.heap.size, 0, none⟩ (.bool true) (by rw [hcA]; rfl)) (grownBy_putObj' _ W2.heap.size (.deferred none)) (fun r e => by cases e; exact ⟨_, hK', rfl⟩)
      refine ⟨.bool true, ?_, by rw [HP.out], (HB.out.setCell (p := ⟨w.heap.size, 0, none⟩) (Nat.le_refl _) _).trans (below_putObj _ _ _ _ (by omega))⟩
      simp [results, Tryd.f38, go_sem, hc5]
    case stop =>
      rintro c W ⟨rfl, h2, h3, h4⟩ hK
      gi_wp2
      refine ⟨by simp, .inl ⟨_, _, rfl, run_takeDeferred hK, ?_⟩⟩
      have hc5 := cell_kept h2 (grownBy_putObj' _ W2.heap.size (.deferred none)) (fun r e => by cases e; exact ⟨_, hK, rfl⟩)
      refine ⟨.bool false, ?_, by rw [h4], h3.trans (below_putObj _ _ _ _ (by omega))⟩
      simp [results, Tryd.f38, go_sem, hc5]

theorem path_b (s : ByteArray) (b : Bool) (hb : isPath s.data.toList = b) (w : World) (hn : s.size ≤ 140737488355328) : Calls Tryd.prog 38 #[.string s] w fun e w' => e = .returned (.bool b) ∧ Below w.heap.size w w' := by
  subst hb; exact path_is s w hn
end Go.Proofs.YtgdecjacbkicmaaDoor.Oct
