/-
  Layer 7 (tree): Put of a map that has nothing, or one leaf with room.
-/
import Derived.Test.YtnagknlfboadkaaPut
namespace Go.Proofs.Ytnagknlfboadkaa.Oct
open Go.RowKit

theorem AtP.uniq {ps : List Pr} {key : ByteArray} {k l : Nat} (h : AtP ps key k) (h' : AtP ps key l) : k = l := by
  have aux : ∀ {k l : Nat}, AtP ps key k → AtP ps key l → ¬ k < l := by
    intro k l h h' hlt
    have hk : k < ps.length := Nat.lt_of_lt_of_le hlt h'.1
    have e1 := h'.2.1 k _ hlt (List.getElem?_eq_getElem hk)
    have e2 := h.2.2 k _ (Nat.le_refl _) (List.getElem?_eq_getElem hk)
    rw [e1] at e2; cases e2
  have := aux h h'
  have := aux h' h
  omega
theorem Mp.keep {w w' : World} {m : Nat} {r : Value} {n B : Nat} (h : Mp w m r n) (hb : Below B w w') (hB : w.heap.size ≤ B) : Mp w' m r n := h.below hb (Nat.lt_of_lt_of_le h.lt hB)

theorem below_grown {w w' : World} (h : Below w.heap.size w w') (row : Option Nat) : w.grownBy w' row := ⟨h.os, h.tape, h.output, h.size, fun k hk _ => h.block k hk⟩
/-- the pairs lie in no map -/
theorem Nd.far {w : World} {m nd g n cap c off : Nat} {r kv : Value} {ps : List Pr} (h : Mp w m r c) (hn : Nd w nd (some ⟨g, off, none⟩) n cap ps kv) (hp : 0 < n) : g ≠ m := by
  rintro rfl
  obtain ⟨g', off', e, _, hc⟩ := hn.rd.2 hp
  cases e
  have hl : 0 < ps.length := by rw [hn.rd.1]; exact hp
  have h0 := hc 0 _ (List.getElem?_eq_getElem hl)
  have e : ∀ j, w.cell? ⟨g, j, none⟩ = [r, .int .i64 (c : Int), .bool true][j]? := fun j => by rw [cell_of_row w g j _ 48 (0, 0) h, List.getElem?_toArray]
  rw [Nat.zero_mul, Nat.add_zero, e, e] at h0
  match off, h0 with
  | 0, h0 => simp at h0
  | 1, h0 => simp at h0
  | 2, h0 => simp at h0
  | k + 3, h0 => simp at h0
theorem Nd.apart {w : World} {m nd n cap c : Nat} {a : Option Addr} {r kv : Value} {ps : List Pr} (h : Mp w m r c) (hn : Nd w nd a n cap ps kv) (e : nd = m) : False := by
  subst e
  have := h.symm.trans hn.blk
  simp at this

set_option maxRecDepth 100000 in
theorem mput_nil (w : World) (m : Nat) (x : Pr) (h : Mp w m (.pointer none) 0) :
    Calls Try.prog 19 #[.pointer (some ⟨m, 0, none⟩), .string x.1, .string x.2] w fun e w' => ∃ nd g, e = .returned (.bool false) ∧ Hid (Mp w' m (.pointer (some ⟨nd, 0, none⟩)) 1) ∧ Hid (Nd w' nd (some ⟨g, 0, none⟩) 1 1 [x] (.slice none 0 0)) ∧ Hid (w.grownBy w' (some m) ∧ w.heap.size ≤ nd) := by
  obtain ⟨k, v⟩ := x
  have HM : Hid (Mp w m (.pointer none) 0) := h
  have c0 := h.cell (i := 0) rfl
  have c1 := h.cell (i := 1) rfl
  have c2 := h.cell (i := 2) rfl
  have f0 := h.free 0
  have f1 := h.free 1
  clear h
  go_enter Try.func19, Try.ntmps19
  go_wp2_with (first | (go_at_call 22; refine (made_is w m true c2).mono ?_; rintro e w2 ⟨rfl, rfl⟩) | fail)
  refine (get_nil w k).mono ?_
  rintro e w1 ⟨rfl, hB1⟩
  have HB1 : Hid (Below w.heap.size w w1) := hB1
  have HM1 : Hid (Mp w1 m (.pointer none) 0) := HM.out.keep hB1 (Nat.le_refl _)
  have HL : Hid (m < w.heap.size) := HM.out.lt
  have d0 := HM1.out.cell (i := 0) rfl
  have d1 := HM1.out.cell (i := 1) rfl
  have g1 := HM1.out.free 1
  clear hB1 c0 c1 c2 f0 f1
  go_wp2_with fail
  have HG1 : Hid (w.grownBy (w1.setCell ⟨m, 1, none⟩ (.int .i64 1)) (some m)) := grown_tr (below_grown HB1.out _) (grown_setCell _ _ _ _)
  have HM2 : Hid (Mp (w1.setCell ⟨m, 1, none⟩ (.int .i64 1)) m (.pointer none) 1) := HM1.out.set 1 (.int .i64 1)
  refine (put_nil _ (k, v)).mono ?_
  rintro e w3 ⟨nd, g, rfl, HN3, HB3⟩
  have HM3 : Hid (Mp w3 m (.pointer none) 1) := HM2.out.keep HB3.out.1 (Nat.le_refl _)
  go_wp2_with fail
  refine (whole_is w3 nd).mono ?_
  rintro e w4 ⟨rfl, HB4⟩
  have HM4 : Hid (Mp w4 m (.pointer none) 1) := HM3.out.keep HB4.out (Nat.le_refl _)
  have HN4 : Hid (Nd w4 nd (some ⟨g, 0, none⟩) 1 1 [(k, v)] (.slice none 0 0)) := HN3.out.below HB4.out (Nat.le_refl _)
  have e0 := HM4.out.cell (i := 0) rfl
  have g0 := HM4.out.free 0
  clear d0 d1 g1
  go_wp2
  go_ret
  have hnd : w.heap.size ≤ nd := Nat.le_trans HG1.out.size HB3.out.2
  have hml := HL.out
  refine ⟨nd, g, rfl, HM4.out.set 0 _, ⟨HN4.out.blk.kept (grown_setCell _ _ _ _) (by simp; omega), HN4.out.rd.grown (grown_setCell _ _ _ _) ?_⟩, grown_tr (grown_tr HG1.out (below_grown (HB3.out.1.trans (HB4.out.mono HB3.out.1.size)) _)) (grown_setCell _ _ _ _), hnd⟩
  exact Nd.far HM4.out HN4.out (by omega)
#print axioms mput_nil

/-- a map of one leaf, behind a Put -/
def Putd (w w' : World) (m c : Nat) (ps : List Pr) : Prop := ∃ nd' g' cap' N, Mp w' m (.pointer (some ⟨nd', 0, none⟩)) c ∧ Nd w' nd' (some ⟨g', 0, none⟩) N cap' ps (.slice none 0 0) ∧ w.grownBy w' (some m) ∧ w.heap.size ≤ nd' ∧ N ≤ cap'
set_option maxRecDepth 100000 in
theorem mput_leaf (w : World) (m nd g off n cap c : Nat) (ps : List Pr) (x : Pr) (h : Mp w m (.pointer (some ⟨nd, 0, none⟩)) c) (hn : Nd w nd (some ⟨g, off, none⟩) n cap ps (.slice none 0 0)) (hm : Mono ps x.1) (hn6 : 0 < n ∧ n ≤ 6) (hnc : n ≤ cap) (hc : c ≤ 1000) (b : Bool) (k0 : Nat) (ha : AtP ps x.1 k0) (hi : isP ps x.1 k0 = b) :
    Calls Try.prog 19 #[.pointer (some ⟨m, 0, none⟩), .string x.1, .string x.2] w fun e w' => e = .returned (.bool b) ∧ Hid (Putd w w' m (if b = true then c else c + 1) (putP ps x k0)) := by
  obtain ⟨k, v⟩ := x
  have HM : Hid (Mp w m (.pointer (some ⟨nd, 0, none⟩)) c) := h
  have HN : Hid (Nd w nd (some ⟨g, off, none⟩) n cap ps (.slice none 0 0)) := hn
  have HO : Hid (Mono ps k) := hm
  have HS : Hid ((0 < n ∧ n ≤ 6) ∧ n ≤ cap ∧ c ≤ 1000) := ⟨hn6, hnc, hc⟩
  have HA : Hid (AtP ps k k0) := ha
  have HI : Hid (isP ps k k0 = b) := hi
  have c0 := h.cell (i := 0) rfl
  have c2 := h.cell (i := 2) rfl
  have HL : Hid (m < w.heap.size) := h.lt
  clear h hn hm hn6 hnc hc ha hi
  go_enter Try.func19, Try.ntmps19
  go_wp2_with (first | (go_at_call 22; refine (made_is w m true c2).mono ?_; rintro e w2 ⟨rfl, rfl⟩) | fail)
  refine (get_leaf w nd _ n cap ps k HN.out HO.out (by have := HS.out; omega)).mono ?_
  rintro e w1 ⟨k1, rfl, HA1, HB1⟩
  have hk1 : k1 = k0 := HA1.out.uniq HA.out
  subst hk1
  rw [HI.out]
  have HM1 : Hid (Mp w1 m (.pointer (some ⟨nd, 0, none⟩)) c) := HM.out.keep HB1.out (Nat.le_refl _)
  have HN1 : Hid (Nd w1 nd (some ⟨g, off, none⟩) n cap ps (.slice none 0 0)) := HN.out.below HB1.out (Nat.le_refl _)
  have d0 := HM1.out.cell (i := 0) rfl
  have d1 := HM1.out.cell (i := 1) rfl
  have g1 := HM1.out.free 1
  obtain ⟨vv, hvv⟩ : ∃ vv, valP ps k k1 = vv := ⟨_, rfl⟩
  rw [hvv]
  have HF : Hid (g ≠ m ∧ nd ≠ m) := ⟨Nd.far HM.out HN.out HS.out.1.1, fun e => Nd.apart HM.out HN.out e⟩
  clear c0 c2 hvv
  have fin : ∀ (W : World) (c' : Nat), Mp W m (.pointer (some ⟨nd, 0, none⟩)) c' → Nd W nd (some ⟨g, off, none⟩) n cap ps (.slice none 0 0) → w.grownBy W (some m) → Calls Try.prog 33 #[.pointer (some ⟨nd, 0, none⟩), .agg #[.string k, .string v]] W fun e w3 => ∃ nd' g' cap' N, e = .returned (one nd') ∧ Hid (Mp w3 m (.pointer (some ⟨nd, 0, none⟩)) c') ∧ Hid (Nd w3 nd' (some ⟨g', 0, none⟩) N cap' (putP ps (k, v) k1) (.slice none 0 0) ∧ N ≤ cap' ∧ 0 < N) ∧ Hid (w.grownBy w3 (some m) ∧ w.heap.size ≤ nd') := by
    intro W c' h1 h2 h3
    refine (put_leaf W nd g off n cap ps (k, v) h2 HO.out HS.out.1.2 HS.out.2.1).mono ?_
    rintro e w3 ⟨nd', g', cap', k2, rfl, h4, h5, h6⟩
    have hk2 : k2 = k1 := h5.out.uniq HA.out
    subst hk2
    exact ⟨nd', g', cap', _, rfl, h1.keep h6.out.1 (Nat.le_refl _), ⟨h4.out, h6.out.2.2, by rw [putP]; simp; omega⟩, grown_tr h3 (below_grown h6.out.1 _), Nat.le_trans h3.size h6.out.2.1⟩
  have FIN : Hid (∀ (W : World) (c' : Nat), Mp W m (.pointer (some ⟨nd, 0, none⟩)) c' → Nd W nd (some ⟨g, off, none⟩) n cap ps (.slice none 0 0) → w.grownBy W (some m) → Calls Try.prog 33 #[.pointer (some ⟨nd, 0, none⟩), .agg #[.string k, .string v]] W fun e w3 => ∃ nd' g' cap' N, e = .returned (one nd') ∧ Hid (Mp w3 m (.pointer (some ⟨nd, 0, none⟩)) c') ∧ Hid (Nd w3 nd' (some ⟨g', 0, none⟩) N cap' (putP ps (k, v) k1) (.slice none 0 0) ∧ N ≤ cap' ∧ 0 < N) ∧ Hid (w.grownBy w3 (some m) ∧ w.heap.size ≤ nd')) := fin
  clear fin
  have q1 : (c : Int) ≤ 1000 := by have := HS.out; omega
  have END : Hid (∀ (w3 w4 : World) (nd' g' cap' N c' : Nat), Mp w3 m (.pointer (some ⟨nd, 0, none⟩)) c' → Nd w3 nd' (some ⟨g', 0, none⟩) N cap' (putP ps (k, v) k1) (.slice none 0 0) → 0 < N → w.grownBy w3 (some m) → w.heap.size ≤ nd' → Below w3.heap.size w3 w4 →
      Mp (w4.setCell ⟨m, 0, none⟩ (.pointer (some ⟨nd', 0, none⟩))) m (.pointer (some ⟨nd', 0, none⟩)) c' ∧ Nd (w4.setCell ⟨m, 0, none⟩ (.pointer (some ⟨nd', 0, none⟩))) nd' (some ⟨g', 0, none⟩) N cap' (putP ps (k, v) k1) (.slice none 0 0) ∧ w.grownBy (w4.setCell ⟨m, 0, none⟩ (.pointer (some ⟨nd', 0, none⟩))) (some m)) := by
    intro w3 w4 nd' g' cap' N c' h1 h2 hp h3 h4 h5
    have h6 := h1.keep h5 (Nat.le_refl _)
    have h7 := h2.below h5 (Nat.le_refl _)
    have hml := HL.out
    exact ⟨h6.set 0 _, ⟨h7.blk.kept (grown_setCell _ _ _ _) (by simp; omega), h7.rd.grown (grown_setCell _ _ _ _) (Nd.far h6 h7 hp)⟩, grown_tr (grown_tr h3 (below_grown h5 _)) (grown_setCell _ _ _ _)⟩
  cases b with
  | true =>
    go_wp2_with fail
    refine (FIN.out w1 c HM1.out HN1.out (below_grown HB1.out _)).mono ?_
    rintro e w3 ⟨nd', g', cap', N, rfl, HM3, HN3, HG3⟩
    go_wp2_with fail
    refine (whole_is w3 nd').mono ?_
    rintro e w4 ⟨rfl, HB4⟩
    have HM4 : Hid (Mp w4 m (.pointer (some ⟨nd, 0, none⟩)) c) := HM3.out.keep HB4.out (Nat.le_refl _)
    have e0 := HM4.out.cell (i := 0) rfl
    have g0 := HM4.out.free 0
    clear d0 d1 g1
    go_wp2
    go_ret
    have hE := END.out w3 w4 nd' g' cap' N c HM3.out HN3.out.1 HN3.out.2.2 HG3.out.1 HG3.out.2 HB4.out
    exact ⟨rfl, nd', g', cap', N, by simpa using hE.1, hE.2.1, hE.2.2, HG3.out.2, HN3.out.2.1⟩
  | false =>
    go_wp2_with fail
    have HM2 : Hid (Mp (w1.setCell ⟨m, 1, none⟩ (.int .i64 ((c : Int) + 1))) m (.pointer (some ⟨nd, 0, none⟩)) (c + 1)) := HM1.out.set 1 _
    refine (FIN.out _ (c + 1) HM2.out ⟨HN1.out.blk.kept (grown_setCell _ _ _ _) (by simpa using HF.out.2), HN1.out.rd.grown (grown_setCell _ _ _ _) HF.out.1⟩ (grown_tr (below_grown HB1.out _) (grown_setCell _ _ _ _))).mono ?_
    rintro e w3 ⟨nd', g', cap', N, rfl, HM3, HN3, HG3⟩
    go_wp2_with fail
    refine (whole_is w3 nd').mono ?_
    rintro e w4 ⟨rfl, HB4⟩
    have HM4 : Hid (Mp w4 m (.pointer (some ⟨nd, 0, none⟩)) (c + 1)) := HM3.out.keep HB4.out (Nat.le_refl _)
    have e0 := HM4.out.cell (i := 0) rfl
    have g0 := HM4.out.free 0
    clear d0 d1 g1
    go_wp2
    go_ret
    have hE := END.out w3 w4 nd' g' cap' N (c + 1) HM3.out HN3.out.1 HN3.out.2.2 HG3.out.1 HG3.out.2 HB4.out
    exact ⟨rfl, nd', g', cap', N, by simpa using hE.1, hE.2.1, hE.2.2, HG3.out.2, HN3.out.2.1⟩
#print axioms mput_leaf
end Go.Proofs.Ytnagknlfboadkaa.Oct
