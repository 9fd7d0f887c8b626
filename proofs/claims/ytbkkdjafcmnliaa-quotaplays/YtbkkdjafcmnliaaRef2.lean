/-
  Layer 18 (quota): the reference's Set, Of, Last.
-/
import Derived.Test.YtbkkdjafcmnliaaRef
namespace Go.Proofs.Ytbkkdjafcmnliaa.Oct
open Go.RowKit

theorem below_al3 (w : World) (o o' o'' : Obj) : Below w.heap.size w (((w.alloc o).alloc o').alloc o'') := (((Below.refl _ w).alloc (Nat.le_refl _) _).alloc (by simp) _).alloc (by simp; omega) _
section
variable {M : Mt}
set_option maxRecDepth 100000 in
theorem rset_is (a : Option Addr) (m cap : Nat) (b r n : Int) (w : World) : Calls Try.prog 18 #[rv M a m cap, lv b r n] w fun e w' => e = .returned (.tuple #[if okL b r n then rv (M.set b r n).2 none 0 0 else rv M a m cap, iv (M.set b r n).1]) ∧ Below w.heap.size w w' := by
  have HW := fun W => wrong_is b r n W
  obtain ⟨W2, hW2⟩ : ∃ W2, W2 = ((w.alloc (.cells #[iv M.b, iv M.r, iv M.n, iv M.u, .slice a m cap] 31)).alloc (.cells #[iv b, iv r, iv n] 23)).alloc (.cells #[iv 0, iv 0, iv 0, iv 0, .slice none 0 0] 31) := ⟨_, rfl⟩
  obtain ⟨g0, hg0⟩ : ∃ g0, g0 = w.heap.size := ⟨_, rfl⟩
  obtain ⟨g1, hg1⟩ : ∃ g1, g1 = w.heap.size + 1 := ⟨_, rfl⟩
  obtain ⟨g2, hg2⟩ : ∃ g2, g2 = w.heap.size + 1 + 1 := ⟨_, rfl⟩
  have HB : Hid (Blk W2 g2 31 [iv 0, iv 0, iv 0, iv 0, .slice none 0 0] ∧ Below w.heap.size w W2 ∧ Blk W2 g1 23 [iv b, iv r, iv n] ∧ Blk W2 g0 31 [iv M.b, iv M.r, iv M.n, iv M.u, .slice a m cap]) := by
    rw [hW2, hg2, hg1, hg0]
    refine ⟨?_, below_al3 _ _ _ _, ?_, ((Blk.new w #[iv M.b, iv M.r, iv M.n, iv M.u, .slice a m cap] 31).alloc _).alloc _⟩
    · have := Blk.new ((w.alloc (.cells #[iv M.b, iv M.r, iv M.n, iv M.u, .slice a m cap] 31)).alloc (.cells #[iv b, iv r, iv n] 23)) #[iv 0, iv 0, iv 0, iv 0, .slice none 0 0] 31
      rw [World.size_alloc, World.size_alloc] at this
      exact this
    · have := (Blk.new (w.alloc (.cells #[iv M.b, iv M.r, iv M.n, iv M.u, .slice a m cap] 31)) #[iv b, iv r, iv n] 23).alloc (.cells #[iv 0, iv 0, iv 0, iv 0, .slice none 0 0] 31)
      rw [World.size_alloc] at this
      exact this
  have HS : ∀ {u : Int} W, (Instr.build 31 #[(0, lv b r n), (1, iv u)]).run Try.prog W = .ok (.agg #[iv b, iv r, iv n, iv u, .slice none 0 0]) W := fun _ => by kernel_rfl
  unfold Mt.set
  generalize okL b r n = c at HW ⊢
  cases c with
  | false =>
    simp only [Bool.false_eq_true, if_false]
    go_enter Try.func18, Try.ntmps18
    go_wp2_with fail
    rw [← hW2, ← hg2, ← hg1, ← hg0]
    refine (HW W2).mono ?_
    rintro e w3 ⟨rfl, hb3⟩
    have HB3 : Hid (Blk w3 g2 31 [iv 0, iv 0, iv 0, iv 0, .slice none 0 0]) := HB.out.1.below hb3 HB.out.1.lt
    have HW3 : Hid (Below w.heap.size w w3 ∧ w.heap.size ≤ g2) := ⟨HB.out.2.1.trans (hb3.mono HB.out.2.1.size), by omega⟩
    have HL : Hid (Blk w3 g1 23 [iv b, iv r, iv n]) := HB.out.2.2.1.below hb3 HB.out.2.2.1.lt
    have HR : Hid (Blk w3 g0 31 [iv M.b, iv M.r, iv M.n, iv M.u, .slice a m cap]) := HB.out.2.2.2.below hb3 HB.out.2.2.2.lt
    obtain ⟨c0, c1, c2, c3, c4, f0⟩ := five_at HB3.out
    obtain ⟨d0, d1, d2, d3, d4, _⟩ := five_at HR.out
    have e0 : w3.cell? ⟨g1, 0, none⟩ = some (iv b) := HL.out.cell rfl
    have e1 : w3.cell? ⟨g1, 1, none⟩ = some (iv r) := HL.out.cell rfl
    have e2 : w3.cell? ⟨g1, 2, none⟩ = some (iv n) := HL.out.cell rfl
    clear hb3 hW2 HW hg0 hg1 hg2
    go_wp2
    refine ret_rv rfl rfl rfl (((((HB3.out.set 0 _).set 1 _).set 2 _).set 3 _).set 4 _) ?_
    exact ⟨rfl, below_grown HW3.out.1 (grown_tr (grown_tr (grown_tr (grown_tr (grown_setCell _ _ _ _) (grown_setCell _ _ _ _)) (grown_setCell _ _ _ _)) (grown_setCell _ _ _ _)) (grown_setCell _ _ _ _)) (fun j hj => by cases hj; exact HW3.out.2) (Nat.le_refl _)⟩
  | true =>
    simp only [if_true]
    go_enter Try.func18, Try.ntmps18
    go_wp2_with fail
    rw [← hW2, ← hg2, ← hg1, ← hg0]
    refine (HW W2).mono ?_
    rintro e w3 ⟨rfl, hb3⟩
    have HB3 : Hid (Blk w3 g2 31 [iv 0, iv 0, iv 0, iv 0, .slice none 0 0]) := HB.out.1.below hb3 HB.out.1.lt
    have HW3 : Hid (Below w.heap.size w w3 ∧ w.heap.size ≤ g2) := ⟨HB.out.2.1.trans (hb3.mono HB.out.2.1.size), by omega⟩
    have HL : Hid (Blk w3 g1 23 [iv b, iv r, iv n]) := HB.out.2.2.1.below hb3 HB.out.2.2.1.lt
    have HR : Hid (Blk w3 g0 31 [iv M.b, iv M.r, iv M.n, iv M.u, .slice a m cap]) := HB.out.2.2.2.below hb3 HB.out.2.2.2.lt
    obtain ⟨c0, c1, c2, c3, c4, f0⟩ := five_at HB3.out
    obtain ⟨d0, d1, d2, d3, d4, _⟩ := five_at HR.out
    have e0 : w3.cell? ⟨g1, 0, none⟩ = some (iv b) := HL.out.cell rfl
    have e1 : w3.cell? ⟨g1, 1, none⟩ = some (iv r) := HL.out.cell rfl
    have e2 : w3.cell? ⟨g1, 2, none⟩ = some (iv n) := HL.out.cell rfl
    clear hb3 hW2 HW hg0 hg1 hg2
    go_wp2
    refine ret_rv rfl rfl rfl (((((HB3.out.set 0 _).set 1 _).set 2 _).set 3 _).set 4 _) ?_
    exact ⟨rfl, below_grown HW3.out.1 (grown_tr (grown_tr (grown_tr (grown_tr (grown_setCell _ _ _ _) (grown_setCell _ _ _ _)) (grown_setCell _ _ _ _)) (grown_setCell _ _ _ _)) (grown_setCell _ _ _ _)) (fun j hj => by cases hj; exact HW3.out.2) (Nat.le_refl _)⟩
#print axioms rset_is
set_option maxRecDepth 100000 in
set_option maxHeartbeats 1000000 in
theorem rof_is {xs : List Int} {a : Option Addr} {m cap : Nat} {w : World} (hr : Rd w 3 1 a m (xs.map iv)) (hm : m ≤ 100000) (hn : 1 ≤ M.n) (hx : ∀ x ∈ xs, 0 ≤ x ∧ x ≤ 9223372036854775807) (t : Int) (ht : t ≤ 9223372036854775807) :
    Calls Try.prog 26 #[rv M a m cap, iv t] w fun e w' => e = .returned (iv (cnt M.n t xs : Nat)) ∧ Below w.heap.size w w' := by
  obtain ⟨g0, hg0⟩ : ∃ g0, g0 = w.heap.size := ⟨_, rfl⟩
  obtain ⟨W1, hW1⟩ : ∃ W1, W1 = w.alloc (.cells #[iv M.b, iv M.r, iv M.n, iv M.u, .slice a m cap] 31) := ⟨_, rfl⟩
  have HW1 : Hid (Below w.heap.size w W1 ∧ Blk W1 g0 31 [iv M.b, iv M.r, iv M.n, iv M.u, .slice a m cap]) := by
    rw [hW1, hg0]
    exact ⟨below_al _ _, Blk.new w _ 31⟩
  have HRD : Hid (Rd W1 3 1 a m (xs.map iv)) := hr.below HW1.out.1 (Nat.le_refl _)
  have HML : Hid (xs.length = m) := by show _ = _; have := hr.1; simpa using this
  have HX : Hid (∀ x ∈ xs, 0 ≤ x ∧ x ≤ 9223372036854775807) := hx
  have qm : (m : Int) ≤ 100000 := by omega
  generalize hN : M.n = n at hn HW1 hW1 ⊢
  have q5 : (n == 0) = false := by simp; omega
  have HT : Hid (t ≤ 9223372036854775807) := ht
  clear hr hx hm ht
  go_enter Try.func26, Try.ntmps26
  go_wp2
  rw [← hW1, ← hg0]
  clear hW1 hg0 hN
  go_loopw [6, 5] (fun u v wr => ∃ (j : Nat), u = iv j ∧ v = iv (cnt n t (xs.take j) : Nat) ∧ Hid (j ≤ m ∧ ∃ k, wr = W1.drewN k)) (fun u _ _ => m - (intOf u).toNat)
  case atStart => exact ⟨0, rfl, rfl, Nat.zero_le _, 0, rfl⟩
  case round =>
    obtain ⟨j, rfl, rfl, HJ⟩ := hrel
    obtain ⟨kd, rfl⟩ := HJ.out.2
    have cn : W1.cell? ⟨g0, 2, none⟩ = some (iv n) := HW1.out.2.cell rfl
    have cs : W1.cell? ⟨g0, 4, none⟩ = some (.slice a m cap) := HW1.out.2.cell rfl
    by_cases hj : j = m
    · have q1 : (m : Int) ≤ (j : Int) := by omega
      have HC : Hid (cnt n t (xs.take j) = cnt n t xs) := by rw [hj, ← HML.out, List.take_length]; rfl
      rw [HC.out]
      go_wp2
      go_ret
      exact ⟨rfl, ⟨HW1.out.1.os, HW1.out.1.tape, HW1.out.1.output, HW1.out.1.size, HW1.out.1.block⟩⟩
    · have q1 : (j : Int) < (m : Int) := by have := HJ.out.1; omega
      have HJ2 : Hid (j < m) := by show _ < _; have := HJ.out.1; omega
      obtain ⟨xg, xo, hxa, _, hxr⟩ := HRD.out.2.2 (by have := HJ2.out; omega)
      subst hxa
      obtain ⟨x, hx⟩ : ∃ x, xs[j]? = some x := ⟨_, List.getElem?_eq_getElem (by rw [HML.out]; exact HJ2.out)⟩
      have hx0 := HX.out x (List.mem_of_getElem? hx)
      have cx : W1.cell? ⟨xg, xo + j, none⟩ = some (iv x) := hxr j _ (by rw [List.getElem?_map, hx]; rfl)
      have HCN : Hid (cnt n t (xs.take (j + 1)) = cnt n t (xs.take j) + if (decide (0 ≤ t) && x / n == t / n) = true then 1 else 0) := by
        show _ = _
        rw [List.take_add_one, hx]
        exact cnt_snoc n t x _
      have HCL : Hid (cnt n t (xs.take j) ≤ 100000) := by
        show _ ≤ _
        have h1 := cnt_le n t (xs.take j)
        have h2 : (xs.take j).length ≤ xs.length := by simp; omega
        have := HML.out
        omega
      generalize cnt n t (xs.take j) = c at HCN HCL ⊢
      have qc : (c : Int) ≤ 100000 := by have := HCL.out; omega
      have hq1 := quo_is hx0.1 hx0.2 hn
      clear hxr hx hj hx0
      by_cases h0 : 0 ≤ t
      · have hq2 := quo_is h0 HT.out hn
        by_cases he : x / n = t / n
        · have q6 : (wrap64 (x.tdiv n) == wrap64 (t.tdiv n)) = true := by rw [hq1, hq2, he]; simp
          have HC2 : Hid (cnt n t (xs.take (j + 1)) = c + 1) := by show _ = _; rw [HCN.out]; simp [h0, he]
          clear hq1 hq2 he HCN
          go_wp2_with fail
          go_quiet (fail)
          go_wp2
          refine ⟨⟨j + 1, by simp, by rw [HC2.out]; simp, HJ2.out, _, rfl⟩, ?_⟩
          have := HJ2.out
          simp only [intOf]
          omega
        · have q6 : (wrap64 (x.tdiv n) == wrap64 (t.tdiv n)) = false := by rw [hq1, hq2]; simpa using he
          have HC2 : Hid (cnt n t (xs.take (j + 1)) = c) := by show _ = _; rw [HCN.out]; simp [h0, he]
          clear hq1 hq2 he HCN
          go_wp2_with fail
          go_quiet (fail)
          go_wp2
          refine ⟨⟨j + 1, by simp, by rw [HC2.out], HJ2.out, _, rfl⟩, ?_⟩
          have := HJ2.out
          simp only [intOf]
          omega
      · have q6 : decide (0 ≤ t) = false := by simp; omega
        have HC2 : Hid (cnt n t (xs.take (j + 1)) = c) := by show _ = _; rw [HCN.out]; simp [h0]
        clear hq1 HCN
        go_wp2_with fail
        go_quiet (fail)
        go_wp2
        refine ⟨⟨j + 1, by simp, by rw [HC2.out], HJ2.out, _, rfl⟩, ?_⟩
        have := HJ2.out
        simp only [intOf]
        omega
end
#print axioms rof_is
end Go.Proofs.Ytbkkdjafcmnliaa.Oct
