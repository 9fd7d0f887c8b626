/-
  Layer 7 (tree): a pair put into a leaf that has room, and into nothing.
-/
import Derived.Test.YtnagknlfboadkaaSplice
namespace Go.Proofs.Ytnagknlfboadkaa.Oct
open Go.RowKit

/-- one node in the place of one -/
def one (nd : Nat) : Value := .agg #[.pointer (some ⟨nd, 0, none⟩), .string ⟨#[]⟩, .string ⟨#[]⟩, .pointer none]
theorem Nd.new (w : World) (g n cap : Nat) (ps : List Pr) (h : RdP w (some ⟨g, 0, none⟩) n ps) : Nd (w.alloc (.cells #[.slice (some ⟨g, 0, none⟩) n cap, .slice none 0 0] 67)) w.heap.size (some ⟨g, 0, none⟩) n cap ps (.slice none 0 0) :=
  ⟨Blk.new _ _ _, h.below ((Below.refl _ w).alloc (Nat.le_refl _) _) (Nat.le_refl _)⟩

theorem results_half {fn : Func} {p : Tmp} (hf : fn.results = #[.cell p 59]) {tm : Array Value} {W : World} {b nd : Nat} (h : tm.getD p undef = .pointer (some ⟨b, 0, none⟩)) (hb : Blk W b 59 [.pointer (some ⟨nd, 0, none⟩), .string ⟨#[]⟩, .string ⟨#[]⟩, .pointer none]) : (results fn tm).run Try.prog W = .ok (one nd) W := by
  exact results_cell_row (P := Try.prog) hf tm W b 59 _ (0, 0) _ h hb Try.underlying59 rfl (by kernel_rfl)
theorem cut_is (w : World) (g n cap : Nat) (ps : List Pr) (h : RdP w (some ⟨g, 0, none⟩) n ps) (hn : n ≤ 7) :
    Calls Try.prog 44 #[.slice (some ⟨g, 0, none⟩) n cap, .slice none 0 0] w fun e w' => ∃ nd, e = .returned (one nd) ∧ Hid (Nd w' nd (some ⟨g, 0, none⟩) n cap ps (.slice none 0 0)) ∧ Hid (Below w.heap.size w w' ∧ w.heap.size ≤ nd) := by
  have HR : Hid (RdP w (some ⟨g, 0, none⟩) n ps) := h
  have q1 : (n : Int) ≤ 7 := by omega
  clear h hn
  go_enter Try.func44, Try.ntmps44
  go_wp2
  have hb := Blk.alloc (Blk.new w #[Value.pointer (some { block := w.heap.size + 1, off := 0 }), Value.string { data := #[] }, Value.string { data := #[] }, Value.pointer none] 59) (Obj.cells #[Value.slice (some { block := g, off := 0 }) n cap, Value.slice none 0 0] 67)
  have hB : Below w.heap.size w (w.alloc (Obj.cells #[Value.pointer (some { block := w.heap.size + 1, off := 0 }), Value.string { data := #[] }, Value.string { data := #[] }, Value.pointer none] 59)) := (Below.refl _ w).alloc (Nat.le_refl _) _
  refine bodyPost_ret (results_half rfl rfl hb) rfl ?_
  exact ⟨_, rfl, by show Nd _ _ _ _ _ _ _; simpa using Nd.new _ g n cap ps (HR.out.below hB (Nat.le_refl _)), hB.alloc (by simp) _, by simp⟩
#print axioms cut_is
theorem put_nil (w : World) (x : Pr) :
    Calls Try.prog 33 #[.pointer none, .agg #[.string x.1, .string x.2]] w fun e w' => ∃ nd g, e = .returned (one nd) ∧ Hid (Nd w' nd (some ⟨g, 0, none⟩) 1 1 [x] (.slice none 0 0)) ∧ Hid (Below w.heap.size w w' ∧ w.heap.size ≤ nd) := by
  obtain ⟨k, v⟩ := x
  go_enter Try.func33, Try.ntmps33
  go_wp2
  have hb := (((Blk.new (w.alloc (Obj.cells #[Value.string k, Value.string v] 40)) #[Value.pointer (some { block := w.heap.size + 1 + 1 + 1, off := 0 }), Value.string { data := #[] }, Value.string { data := #[] }, Value.pointer none] 59).alloc (Obj.cells #[Value.string k, Value.string v] 40))).alloc (Obj.cells #[Value.slice (some { block := w.heap.size + 1 + 1, off := 0 }) 1 1, Value.slice none 0 0] 67)
  have hB : Below w.heap.size w (((w.alloc (Obj.cells #[Value.string k, Value.string v] 40)).alloc (Obj.cells #[Value.pointer (some { block := w.heap.size + 1 + 1 + 1, off := 0 }), Value.string { data := #[] }, Value.string { data := #[] }, Value.pointer none] 59)).alloc (Obj.cells #[Value.string k, Value.string v] 40)) := (((Below.refl _ w).alloc (Nat.le_refl _) _).alloc (by simp) _).alloc (by simp; omega) _
  have hb2 := Blk.new ((w.alloc (Obj.cells #[Value.string k, Value.string v] 40)).alloc (Obj.cells #[Value.pointer (some { block := w.heap.size + 1 + 1 + 1, off := 0 }), Value.string { data := #[] }, Value.string { data := #[] }, Value.pointer none] 59)) #[Value.string k, Value.string v] 40
  rw [World.size_alloc, World.size_alloc] at hb2
  rw [World.size_alloc] at hb
  refine bodyPost_ret (results_half rfl rfl hb) rfl ?_
  refine ⟨w.heap.size + 1 + 1 + 1, w.heap.size + 1 + 1, rfl, ?_, hB.alloc (by simp; omega) _, by omega⟩
  have := Nd.new _ (w.heap.size + 1 + 1) 1 1 [(k, v)] (rd_of_cells (ps := [(k, v)]) (off := 0) (fun _ => hb2.row) (fun j u hu => by rw [Nat.zero_add]; exact hb2.cell hu))
  rw [World.size_alloc, World.size_alloc, World.size_alloc] at this
  exact this
#print axioms put_nil
theorem whole_is (w : World) (nd : Nat) : Calls Try.prog 34 #[one nd] w fun e w' => e = .returned (.pointer (some ⟨nd, 0, none⟩)) ∧ Hid (Below w.heap.size w w') := by
  unfold one
  go_enter Try.func34, Try.ntmps34
  go_wp2
  go_ret
  exact ⟨rfl, (Below.refl _ w).alloc (Nat.le_refl _) _⟩

theorem spliced_J (w : World) (g off n cap i j : Nat) (I J : Int) (hI : I = (i : Int)) (hJ : J = (j : Int)) (ps qs : List Pr) (o : Addr) (q c : Nat) (h : RdP w (some ⟨g, off, none⟩) n ps) (hnc : n ≤ cap) (hij : i ≤ j) (hjn : j ≤ n) (ho : RdP w (some o) q qs) (hq : 0 < q) (hb : n + q ≤ 100000000000) :
    Calls Try.prog 40 #[.slice (some ⟨g, off, none⟩) n cap, .int .i64 I, .int .i64 J, .slice (some o) q c] w fun e w' => ∃ (g' N cap' : Nat) (R : List Pr), e = .returned (.slice (some ⟨g', 0, none⟩) N cap') ∧ Hid (R = ps.take i ++ qs ++ ps.drop j ∧ N = R.length ∧ N ≤ cap' ∧ w.heap.size ≤ g') ∧ Hid (RdP w' (some ⟨g', 0, none⟩) N R) ∧ Hid (Below w.heap.size w w') := by
  subst hI; subst hJ
  refine (spliced_is w g off n cap i j ps qs o q c h hnc hij hjn ho hq hb).mono ?_
  rintro e w' ⟨v', rfl, HO, HB⟩
  have hl : (ps.take i ++ qs ++ ps.drop j).length = i + q + (n - j) := by rw [List.length_append, List.length_append, List.length_take, List.length_drop, h.1, ho.1]; omega
  have HO' := HO.out
  rw [← hl] at HO'
  obtain ⟨g', cap', rfl, h1, h4, h3⟩ := own_rd HO' (by omega)
  exact ⟨g', _, cap', _, rfl, ⟨rfl, rfl, h3, h4⟩, h1, HB⟩
theorem RdP.grown {w w' : World} {g off n b : Nat} {ps : List Pr} (h : RdP w (some ⟨g, off, none⟩) n ps) (hg : w.grownBy w' (some b)) (hne : g ≠ b) : RdP w' (some ⟨g, off, none⟩) n ps := by
  refine ⟨h.1, fun hp => ?_⟩
  obtain ⟨g', off', e, h1, h2⟩ := h.2 hp
  cases e
  refine ⟨g, off, rfl, h1.same (hg.block g h1.lt (by simpa using hne)), fun k x hk => ?_⟩
  have := h2 k x hk
  exact ⟨hg.cell this.1 (by simpa using hne), hg.cell this.2 (by simpa using hne)⟩
/-- one node, written into a result's block -/
def put4 (W : World) (b nd : Nat) : World := (((W.setCell ⟨b, 0, none⟩ (.pointer (some ⟨nd, 0, none⟩))).setCell ⟨b, 1, none⟩ (.string ⟨#[]⟩)).setCell ⟨b, 2, none⟩ (.string ⟨#[]⟩)).setCell ⟨b, 3, none⟩ (.pointer none)
theorem put4_blk {W : World} {b nd : Nat} (h : Blk W b 59 [Value.pointer none, Value.string { data := #[] }, Value.string { data := #[] }, Value.pointer none]) : Blk (put4 W b nd) b 59 [.pointer (some ⟨nd, 0, none⟩), .string ⟨#[]⟩, .string ⟨#[]⟩, .pointer none] :=
  (((h.set 0 (.pointer (some ⟨nd, 0, none⟩))).set 1 (.string ⟨#[]⟩)).set 2 (.string ⟨#[]⟩)).set 3 (.pointer none)
theorem put4_grown (W : World) (b nd : Nat) : W.grownBy (put4 W b nd) (some b) :=
  grown_tr (grown_tr (grown_tr (grown_setCell _ _ _ _) (grown_setCell _ _ _ _)) (grown_setCell _ _ _ _)) (grown_setCell _ _ _ _)
theorem put4_size (W : World) (b nd : Nat) : (put4 W b nd).heap.size = W.heap.size := by simp [put4]
theorem put4_below {B : Nat} {W W' : World} {b nd : Nat} (h : Below B W W') (hb : B ≤ b) : Below B W (put4 W' b nd) :=
  (((h.setCell (p := ⟨b, 0, none⟩) hb _).setCell (p := ⟨b, 1, none⟩) hb _).setCell (p := ⟨b, 2, none⟩) hb _).setCell (p := ⟨b, 3, none⟩) hb _
theorem cut_le {ps R : List Pr} {x : Pr} {k N : Nat} (h : R = ps.take k ++ [x] ++ ps.drop k) (hN : N = R.length) (hk : k ≤ ps.length) (hn : ps.length ≤ 6) : N ≤ 7 := by
  rw [hN, h]; simp; omega
/-- pairs with one more, or another one in a pair's place -/
def putP (ps : List Pr) (x : Pr) (k : Nat) : List Pr := ps.take k ++ [x] ++ ps.drop (if isP ps x.1 k = true then k + 1 else k)
set_option maxRecDepth 100000 in
set_option maxHeartbeats 1000000 in
theorem put_leaf (w : World) (nd g off n cap : Nat) (ps : List Pr) (x : Pr) (h : Nd w nd (some ⟨g, off, none⟩) n cap ps (.slice none 0 0)) (hm : Mono ps x.1) (hn : n ≤ 6) (hnc : n ≤ cap) :
    Calls Try.prog 33 #[.pointer (some ⟨nd, 0, none⟩), .agg #[.string x.1, .string x.2]] w fun e w' => ∃ nd' g' cap' k, e = .returned (one nd') ∧ Hid (Nd w' nd' (some ⟨g', 0, none⟩) (putP ps x k).length cap' (putP ps x k) (.slice none 0 0)) ∧ Hid (AtP ps x.1 k) ∧ Hid (Below w.heap.size w w' ∧ w.heap.size ≤ nd' ∧ (putP ps x k).length ≤ cap') := by
  have HN : Hid (n ≤ 6 ∧ n ≤ cap) := ⟨hn, hnc⟩
  obtain ⟨k0, v0⟩ := x
  have HM : Hid (Mono ps k0) := hm
  have HD : Hid (Nd w nd (some ⟨g, off, none⟩) n cap ps (.slice none 0 0)) := h
  have HL : Hid (nd < w.heap.size) := h.blk.lt
  have HB0 : Hid (Below w.heap.size w ((w.alloc (Obj.cells #[Value.string k0, Value.string v0] 40)).alloc (Obj.cells #[Value.pointer none, Value.string { data := #[] }, Value.string { data := #[] }, Value.pointer none] 59))) := ((Below.refl _ w).alloc (Nat.le_refl _) _).alloc (by simp) _
  clear hm hn hnc h
  go_enter Try.func33, Try.ntmps33
  go_wp2_with fail
  refine (place_is _ nd _ n cap ps _ k0 (HD.out.below HB0.out (Nat.le_refl _)) HM.out (by have := HN.out; omega)).mono ?_
  rintro e w1 ⟨k, rfl, HA, HB1⟩
  have hS : w.heap.size + 2 ≤ w1.heap.size := by have := HB1.out.size; simp at this; omega
  have HD1 : Hid (Nd w1 nd (some ⟨g, off, none⟩) n cap ps (.slice none 0 0)) := (HD.out.below HB0.out (Nat.le_refl _)).below HB1.out (Nat.le_refl _)
  have HW : Hid (Below w.heap.size w w1) := HB0.out.trans (HB1.out.mono (by simp; omega))
  have HX : Hid (Blk w1 w.heap.size 40 [.string k0, .string v0]) := ((Blk.new w #[Value.string k0, Value.string v0] 40).alloc _).below HB1.out (by simp; omega)
  have HY : Hid (Blk w1 (w.heap.size + 1) 59 [Value.pointer none, Value.string { data := #[] }, Value.string { data := #[] }, Value.pointer none]) := by
    have e := Blk.new (w.alloc (Obj.cells #[Value.string k0, Value.string v0] 40)) #[Value.pointer none, Value.string { data := #[] }, Value.string { data := #[] }, Value.pointer none] 59
    rw [World.size_alloc] at e
    exact e.below HB1.out (by simp)
  have c0 := HD1.out.blk.cell (i := 0) rfl
  have c1 := HD1.out.blk.cell (i := 1) rfl
  have x0 := HX.out.cell (i := 0) rfl
  have x1 := HX.out.cell (i := 1) rfl
  clear HB1 HB0
  have hkn : k ≤ n := by rw [← HD.out.rd.1]; exact HA.out.1
  have HR1 : Hid (RdP (w1.alloc (.cells #[.string k0, .string v0] 40)).drew (some ⟨w1.heap.size, 0, none⟩) 1 [(k0, v0)]) := by
    have hb2 := (Blk.new w1 #[.string k0, .string v0] 40).drew
    exact rd_of_cells (ps := [(k0, v0)]) (off := 0) (fun _ => hb2.row) (fun j u hu => by rw [Nat.zero_add]; exact hb2.cell hu)
  have HB2 : Hid (Below w1.heap.size w1 (w1.alloc (.cells #[.string k0, .string v0] 40)).drew) := ((Below.refl _ w1).alloc (Nat.le_refl _) _).drew
  have HKEEP : Hid (∀ W, Below (w.heap.size + 1) w1 W → (fun w' => w'.cell? ⟨nd, 0, none⟩ = some (.slice (some ⟨g, off, none⟩) n cap) ∧ w'.cell? ⟨nd, 1, none⟩ = some (.slice none 0 0) ∧ w'.cell? ⟨w.heap.size, 0, none⟩ = some (.string k0) ∧ w'.cell? ⟨w.heap.size, 1, none⟩ = some (.string v0)) W) := fun W hW => ⟨(hW.cell (p := ⟨nd, 0, none⟩) (by have := HL.out; show nd < w.heap.size + 1; omega)).trans c0, (hW.cell (p := ⟨nd, 1, none⟩) (by have := HL.out; show nd < w.heap.size + 1; omega)).trans c1, (hW.cell (p := ⟨w.heap.size, 0, none⟩) (by show w.heap.size < w.heap.size + 1; omega)).trans x0, (hW.cell (p := ⟨w.heap.size, 1, none⟩) (by show w.heap.size < w.heap.size + 1; omega)).trans x1⟩
  have HL1 : Hid (w.heap.size + 1 ≤ w1.heap.size) := by show _ ≤ _; omega
  cases hi : isP ps k0 k with
  | true =>
    have hk1 : k < n := by
      rw [← HD.out.rd.1]
      cases hx : ps[k]? with
      | some x => exact (List.getElem?_eq_some_iff.1 hx).1
      | none => simp only [isP, hx] at hi; cases hi
    have HP : Hid (putP ps (k0, v0) k = ps.take k ++ [(k0, v0)] ++ ps.drop (k + 1)) := by show _ = _; simp only [putP, hi, if_true]
    have q1 : (k : Int) + 1 ≤ 7 := by have := HN.out; omega
    have HJ : Hid (IntKind.i64.wrap ((k : Int) + 1) = ((k + 1 : Nat) : Int)) := by show _ = _; rw [IntKind.wrap_i64]; omega
    clear hi
    go_wp2_with fail
    go_region_held_law (fun w' => w'.cell? ⟨nd, 0, none⟩ = some (.slice (some ⟨g, off, none⟩) n cap) ∧ w'.cell? ⟨nd, 1, none⟩ = some (.slice none 0 0) ∧ w'.cell? ⟨w.heap.size, 0, none⟩ = some (.string k0) ∧ w'.cell? ⟨w.heap.size, 1, none⟩ = some (.string v0))
      (first | with_reducible exact HKEEP.out _ (Below.refl _ w1).drew | with_reducible exact HKEEP.out _ (HB2.out.mono HL1.out) | with_reducible exact HKEEP.out _ HB4.out | with_reducible exact HKEEP.out _ (HB4.out.alloc (Nat.le_of_lt hS2) _) | exact HKEEP.out _ (Below.alloc (Below.setCell (Below.setCell (Below.setCell (Below.setCell HB4.out (Nat.le_refl _) _) (Nat.le_refl _) _) (Nat.le_refl _) _) (Nat.le_refl _) _) (by simp; omega) _))
      (first
      | (go_at_call 40; refine (spliced_J (w1.alloc (.cells #[.string k0, .string v0] 40)).drew g off n cap k (k + 1) _ _ rfl HJ.out ps [(k0, v0)] ⟨w1.heap.size, 0, none⟩ 1 1 ((HD1.out.below HB2.out (Nat.le_refl _)).rd) HN.out.2 (by omega) (by omega) HR1.out (by omega) (by have := HN.out; omega)).mono ?_; rintro e w2 ⟨g2, N2, cap2, R2, rfl, HE2, HR2, hB2⟩; have HB3 : Hid (Below w1.heap.size w1 w2) := HB2.out.trans (hB2.out.mono HB2.out.size); clear hB2;
          have HY2 : Hid (Blk w2 (w.heap.size + 1) 59 [Value.pointer none, Value.string { data := #[] }, Value.string { data := #[] }, Value.pointer none]) := HY.out.below HB3.out (by omega);
          have hS2 : w.heap.size + 1 < w2.heap.size := HY2.out.lt; have HB4 : Hid (Below (w.heap.size + 1) w1 w2) := HB3.out.mono HL1.out;
          have y0 := HY2.out.cell (i := 0) rfl; have y1 := HY2.out.cell (i := 1) rfl; have y2 := HY2.out.cell (i := 2) rfl; have y3 := HY2.out.cell (i := 3) rfl;
          have f0 := HY2.out.free 0; have f1 := HY2.out.free 1; have f2 := HY2.out.free 2; have f3 := HY2.out.free 3))
    go_wp2
    have hb := (put4_blk (nd := w2.heap.size) HY2.out).alloc (Obj.cells #[Value.slice (some { block := g2, off := 0 }) N2 cap2, Value.slice none 0 0] 67)
    refine bodyPost_ret (results_half rfl rfl hb) rfl ?_
    have hE := HE2.out
    have hg2 : g2 ≠ w.heap.size + 1 := by have := hE.2.2.2; simp at this; omega
    have hN := Nd.new (put4 w2 (w.heap.size + 1) w2.heap.size) g2 N2 cap2 R2 (HR2.out.grown (put4_grown _ _ _) hg2)
    rw [put4_size] at hN
    have hR : putP ps (k0, v0) k = R2 := by rw [HP.out, hE.1]
    refine ⟨w2.heap.size, g2, cap2, k, rfl, ?_, HA, ?_⟩
    · rw [hR, ← hE.2.1]; exact hN
    · refine ⟨(put4_below (HW.out.trans (HB3.out.mono (by omega))) (by omega)).alloc (by rw [put4_size]; omega) _, by omega, by rw [hR, ← hE.2.1]; exact hE.2.2.1⟩
  | false =>
    have HP : Hid (putP ps (k0, v0) k = ps.take k ++ [(k0, v0)] ++ ps.drop k) := by show _ = _; simp [putP, hi]
    clear hi
    go_wp2_with (go_at_call 39; refine (leaf_is w1 nd c1).mono ?_; rintro e w2 ⟨rfl, rfl⟩)
    go_region_held_law (fun w' => w'.cell? ⟨nd, 0, none⟩ = some (.slice (some ⟨g, off, none⟩) n cap) ∧ w'.cell? ⟨nd, 1, none⟩ = some (.slice none 0 0) ∧ w'.cell? ⟨w.heap.size, 0, none⟩ = some (.string k0) ∧ w'.cell? ⟨w.heap.size, 1, none⟩ = some (.string v0))
      (first | with_reducible exact HKEEP.out _ (Below.refl _ w1).drew | with_reducible exact HKEEP.out _ (HB2.out.mono HL1.out) | with_reducible exact HKEEP.out _ HB4.out | with_reducible exact HKEEP.out _ HB6.out | exact HKEEP.out _ (Below.setCell (Below.setCell (Below.setCell (Below.setCell HB6.out (Nat.le_refl _) _) (Nat.le_refl _) _) (Nat.le_refl _) _) (Nat.le_refl _) _))
      (first
      | (go_at_call 40; refine (spliced_J (w1.alloc (.cells #[.string k0, .string v0] 40)).drew g off n cap k k _ _ rfl rfl ps [(k0, v0)] ⟨w1.heap.size, 0, none⟩ 1 1 ((HD1.out.below HB2.out (Nat.le_refl _)).rd) HN.out.2 (by omega) (by omega) HR1.out (by omega) (by have := HN.out; omega)).mono ?_; rintro e w2 ⟨g2, N2, cap2, R2, rfl, HE2, HR2, hB2⟩; have HB3 : Hid (Below w1.heap.size w1 w2) := HB2.out.trans (hB2.out.mono HB2.out.size); clear hB2;
          have HB4 : Hid (Below (w.heap.size + 1) w1 w2) := HB3.out.mono HL1.out)
      | (go_at_call 44; refine (cut_is w2 g2 N2 cap2 R2 HR2.out (cut_le HE2.out.1 HE2.out.2.1 (by rw [HD.out.rd.1]; exact hkn) (by rw [HD.out.rd.1]; exact HN.out.1))).mono ?_; rintro e w3 ⟨nd3, rfl, HN3, HB5⟩; unfold one; have HB6 : Hid (Below (w.heap.size + 1) w1 w3) := HB4.out.trans (HB5.out.1.mono (Nat.le_trans HL1.out HB3.out.size));
          have HY2 : Hid (Blk w3 (w.heap.size + 1) 59 [Value.pointer none, Value.string { data := #[] }, Value.string { data := #[] }, Value.pointer none]) := HY.out.below (HB3.out.trans (HB5.out.1.mono HB3.out.size)) (by omega);
          have hS2 : w.heap.size + 1 < w3.heap.size := HY2.out.lt;
          have y0 := HY2.out.cell (i := 0) rfl; have y1 := HY2.out.cell (i := 1) rfl; have y2 := HY2.out.cell (i := 2) rfl; have y3 := HY2.out.cell (i := 3) rfl;
          have f0 := HY2.out.free 0; have f1 := HY2.out.free 1; have f2 := HY2.out.free 2; have f3 := HY2.out.free 3))
    go_wp2
    have hb := put4_blk (nd := nd3) HY2.out
    refine bodyPost_ret (results_half rfl rfl hb) rfl ?_
    have hE := HE2.out
    have hg2 : g2 ≠ w.heap.size + 1 := by have := hE.2.2.2; simp at this; omega
    have hnd : nd3 ≠ w.heap.size + 1 := by have := HB5.out.2; have := HB3.out.size; omega
    have hR : putP ps (k0, v0) k = R2 := by rw [HP.out, hE.1]
    refine ⟨nd3, g2, cap2, k, rfl, ?_, HA, ?_⟩
    · rw [hR, ← hE.2.1]
      exact ⟨HN3.out.blk.kept (put4_grown _ _ _) (by simpa using hnd), HN3.out.rd.grown (put4_grown _ _ _) hg2⟩
    · have hB := HB3.out.trans (HB5.out.1.mono HB3.out.size)
      refine ⟨put4_below (HW.out.trans (hB.mono (by omega))) (by omega), by have := HB5.out.2; have := HB3.out.size; omega, by rw [hR, ← hE.2.1]; exact hE.2.2.1⟩
#print axioms put_leaf
end Go.Proofs.Ytnagknlfboadkaa.Oct
