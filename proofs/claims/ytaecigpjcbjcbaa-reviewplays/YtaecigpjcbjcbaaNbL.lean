/-
  Layer 20 (review): boards that no call made; ReviewNobody.
-/
import Derived.Test.YtaecigpjcbjcbaaSam
namespace Go.Proofs.Ytaecigpjcbjcbaa.Oct
open Go.RowKit
set_option linter.unusedSimpArgs false

/-- a board that no call made -/
def Un (w : World) (v : Value) : Prop := v = .pointer none ∨ ∃ b, v = .pointer (some ⟨b, 0, none⟩) ∧ Blk w b 70 [.bool false, .slice none 0 0, .slice none 0 0]
theorem Un.below {w w' : World} {v : Value} (h : Un w v) (hb : Below w.heap.size w w') : Un w' v := by
  rcases h with h | ⟨b, h1, h2⟩
  · exact .inl h
  · exact .inr ⟨b, h1, h2.below hb h2.lt⟩
theorem made_un {w : World} {v : Value} (h : Un w v) : Calls Try.prog 36 #[v] w fun e w' => e = .returned (.bool false) ∧ w = w' := by
  rcases h with rfl | ⟨b, rfl, h⟩
  · exact made_nil w
  · exact made_zero h
set_option maxRecDepth 100000 in
theorem find_un {w : World} {v : Value} (h : Un w v) (x : Int) : Calls Try.prog 39 #[v, iv x] w fun e w' => e = .returned (.tuple #[.pointer none, iv 1]) ∧ w = w' := by
  have HM := made_un h
  clear h
  go_enter Try.func39, Try.ntmps39
  go_wp2_with (go_at_call 36; refine HM.mono ?_; rintro e w1 ⟨rfl, rfl⟩)
  go_ret2
  exact ⟨rfl, rfl⟩
set_option maxRecDepth 100000 in
theorem findOpen_un {w : World} {v : Value} (h : Un w v) (x : Int) : Calls Try.prog 48 #[v, iv x] w fun e w' => e = .returned (.tuple #[.pointer none, iv 1]) ∧ w = w' := by
  have HM := find_un h x
  clear h
  go_enter Try.func48, Try.ntmps48
  go_wp2_with (go_at_call 39; refine HM.mono ?_; rintro e w1 ⟨rfl, rfl⟩)
  go_ret2
  exact ⟨rfl, rfl⟩
set_option maxRecDepth 100000 in
theorem propose_un {w : World} {v : Value} (h : Un w v) (au ch : BA) (L : List Value) : Calls Try.prog 23 #[v, .string au, .string ch, .agg L.toArray] w fun e w' => e = .returned (.tuple #[iv 0, iv 1]) ∧ Below w.heap.size w w' := by
  obtain ⟨W1, hW1⟩ : ∃ W1, w.alloc (.cells #[v] 25) = W1 := ⟨_, rfl⟩
  obtain ⟨W2, hW2⟩ : ∃ W2, W1.alloc (.cells #[.string ch] 9) = W2 := ⟨_, rfl⟩
  obtain ⟨W3, hW3⟩ : ∃ W3, W2.alloc (.cells L.toArray 32) = W3 := ⟨_, rfl⟩
  have b1 : Below w.heap.size w W1 := by rw [← hW1]; exact below_al _ _
  have b2 : Below W1.heap.size W1 W2 := by rw [← hW2]; exact below_al _ _
  have b3 : Below W2.heap.size W2 W3 := by rw [← hW3]; exact below_al _ _
  have B3 : Hid (Below w.heap.size w W3) := below_tr (below_tr b1 b2) b3
  obtain ⟨k1, hk1⟩ : ∃ k, w.heap.size = k := ⟨_, rfl⟩
  have x1 : Blk W1 k1 25 [v] := by rw [← hk1, ← hW1]; exact Blk.new _ _ _
  have x3 : Blk W3 k1 25 [v] := (x1.below b2 x1.lt).below b3 (x1.below b2 x1.lt).lt
  have c1 : W3.cell? ⟨k1, 0, none⟩ = some v := x3.cell rfl
  have HM := made_un (h.below B3.out)
  have hv : v = .pointer none ∨ ∃ b, v = .pointer (some ⟨b, 0, none⟩) := h.imp id (fun ⟨b, e, _⟩ => ⟨b, e⟩)
  clear h b1 b2 b3 x1 x3
  rcases hv with rfl | ⟨b, rfl⟩
  all_goals
    go_enter Try.func23, Try.ntmps23
    go_wp2_with fail
    refine HM.mono ?_
    rintro e w1 ⟨rfl, rfl⟩
    clear HM
    go_wp2_with fail
    go_ret2
    exact ⟨rfl, B3.out⟩
set_option maxRecDepth 100000 in
theorem vote_un {w : World} {v : Value} (h : Un w v) (x : Int) (u : BA) (y : Bool) : Calls Try.prog 24 #[v, iv x, .string u, .bool y] w fun e w' => e = .returned (iv 1) ∧ Below w.heap.size w w' := by
  have HM := findOpen_un h x
  clear h
  go_enter Try.func24, Try.ntmps24
  go_wp2_with (go_at_call 48; refine HM.mono ?_; rintro e w1 ⟨rfl, rfl⟩)
  go_ret
  exact ⟨rfl, Below.refl _ _⟩
set_option maxRecDepth 100000 in
theorem unvote_un {w : World} {v : Value} (h : Un w v) (x : Int) (u : BA) : Calls Try.prog 25 #[v, iv x, .string u] w fun e w' => e = .returned (iv 1) ∧ Below w.heap.size w w' := by
  have HM := findOpen_un h x
  clear h
  go_enter Try.func25, Try.ntmps25
  go_wp2_with (go_at_call 48; refine HM.mono ?_; rintro e w1 ⟨rfl, rfl⟩)
  go_ret
  exact ⟨rfl, Below.refl _ _⟩
set_option maxRecDepth 100000 in
theorem say_un {w : World} {v : Value} (h : Un w v) (x : Int) (u t : BA) : Calls Try.prog 30 #[v, iv x, .string u, .string t] w fun e w' => e = .returned (iv 1) ∧ Below w.heap.size w w' := by
  have HM := find_un h x
  clear h
  go_enter Try.func30, Try.ntmps30
  go_wp2_with (go_at_call 39; refine HM.mono ?_; rintro e w1 ⟨rfl, rfl⟩)
  go_ret
  exact ⟨rfl, Below.refl _ _⟩
set_option maxRecDepth 100000 in
theorem close_un {w : World} {v : Value} (h : Un w v) (x : Int) : Calls Try.prog 28 #[v, iv x] w fun e w' => e = .returned (iv 1) ∧ Below w.heap.size w w' := by
  obtain ⟨W1, hW1⟩ : ∃ W1, w.alloc (.cells #[iv x] 3) = W1 := ⟨_, rfl⟩
  have b1 : Below w.heap.size w W1 := by rw [← hW1]; exact below_al _ _
  have B1 : Hid (Below w.heap.size w W1) := b1
  obtain ⟨k1, hk1⟩ : ∃ k, w.heap.size = k := ⟨_, rfl⟩
  have x1 : Blk W1 k1 3 [iv x] := by rw [← hk1, ← hW1]; exact Blk.new _ _ _
  have c1 : W1.cell? ⟨k1, 0, none⟩ = some (iv x) := x1.cell rfl
  have HM := findOpen_un (h.below b1) x
  clear h x1 b1
  go_enter Try.func28, Try.ntmps28
  go_wp2_with (go_at_call 48; refine HM.mono ?_; rintro e w1 ⟨rfl, rfl⟩)
  go_ret
  exact ⟨rfl, B1.out⟩
set_option maxRecDepth 100000 in
theorem open_un {w : World} {v : Value} (h : Un w v) : Calls Try.prog 14 #[v] w fun e w' => e = .returned (.slice none 0 0) ∧ Below w.heap.size w w' := by
  have HM := made_un h
  clear h
  go_enter Try.func14, Try.ntmps14
  go_wp2_with (go_at_call 36; refine HM.mono ?_; rintro e w1 ⟨rfl, rfl⟩)
  go_ret
  exact ⟨rfl, Below.refl _ _⟩
set_option maxRecDepth 100000 in
set_option maxHeartbeats 1000000 in
theorem proposal_un {w : World} {v : Value} (h : Un w v) (x : Int) : Calls Try.prog 16 #[v, iv x] w fun e w' => e = .returned (.tuple #[.agg Pp.zero.cells.toArray, .bool false]) ∧ Below w.heap.size w w' := by
  obtain ⟨Z, hZ⟩ : ∃ Z, Pp.zero.cells = Z := ⟨_, rfl⟩
  have hz := zero43
  have hb0 := run_build43_0
  rw [hZ] at hz hb0
  obtain ⟨A, hA⟩ : ∃ A, w.alloc (.cells Z.toArray 43) = A := ⟨_, rfl⟩
  obtain ⟨q, hq⟩ : ∃ q, w.heap.size = q := ⟨_, rfl⟩
  have hB : Below w.heap.size w A := by rw [← hA]; exact below_al _ _
  have HF := find_un (h.below hB) x
  have HQB : Hid (Blk A q 43 Pp.zero.cells) := by show Blk _ _ _ _; rw [← hA, ← hq, hZ]; simpa using Blk.new w Z.toArray 43
  have HB : Hid (Below w.heap.size w A) := hB
  have HQ : Hid (w.heap.size ≤ q) := by show _ ≤ _; omega
  have HZ : Hid (Pp.zero.cells = Z) := hZ
  clear h hB
  rw [hZ]
  clear hZ
  go_enter Try.func16, Try.ntmps16
  go_wp2_with fail
  refine HF.mono ?_
  rintro e w1 ⟨rfl, rfl⟩
  clear HF
  go_wp2_with (first
    | (with_reducible change wpList _ _ _ ({ dst := none, op := Op.store _ _ _, type := _, pos := _, after := _, guard := _ } :: _) _ _; refine Hid.out ?_))
  show wpList _ _ _ _ _ _
  refine wpList_store_blk rfl 43 (.tmp 4) (.tmp 16) rfl q 0 43 Z Z rfl rfl (by rw [← HZ.out]; exact HQB.out) (by omega) (by rw [← HZ.out, zero_len]; exact size43) (by rw [← HZ.out]; exact Pp.one _) ?_
  intro w5 hb5 hg5
  have HF5 : Hid (Blk w5 q 43 Z ∧ Below w.heap.size w w5) := by
    refine ⟨?_, HB.out.grown hg5.out HB.out.size (fun j hj => by cases hj; exact HQ.out)⟩
    have := hb5.out
    simpa using this
  clear hb5 hg5
  go_wp2
  refine ret_cell (cs := Z) rfl rfl rfl (by have := HF5.out.1.range 0 39; rw [List.drop_zero, List.take_of_length_le (by rw [← HZ.out, zero_len]; exact Nat.le_refl _)] at this; exact this) Try.underlying43 rfl (by rw [← HZ.out, zero_len]; exact size43) ?_
  exact ⟨rfl, HF5.out.2⟩
#print axioms proposal_un
theorem ActV.cell {w : World} {g o : Nat} {x : ActV} (hl : x.patch.length = 32) (h : w.rangeAt g o x.cells) :
    w.cell? ⟨g, o, none⟩ = some (iv x.kind) ∧ w.cell? ⟨g, o + 1, none⟩ = some (iv x.id) ∧ w.cell? ⟨g, o + 2, none⟩ = some (.string x.user) ∧ w.cell? ⟨g, o + 3, none⟩ = some (.string x.text) ∧ w.rangeAt g (o + 4) (U x.patch) ∧ w.cell? ⟨g, o + 36, none⟩ = some (.bool x.yes) := by
  refine ⟨h 0 _ rfl, h 1 _ rfl, h 2 _ rfl, h 3 _ rfl, fun j v hj => ?_, h 36 _ ?_⟩
  · rw [Nat.add_assoc, Nat.add_comm 4 j]
    refine h (j + 4) v ?_
    simp only [ActV.cells]
    rw [List.getElem?_cons_succ, List.getElem?_cons_succ, List.getElem?_cons_succ, List.getElem?_cons_succ, List.getElem?_append_left (List.getElem?_eq_some_iff.1 hj).1]
    exact hj
  · simp only [ActV.cells]
    rw [show 36 = 32 + 1 + 1 + 1 + 1 by rfl, List.getElem?_cons_succ, List.getElem?_cons_succ, List.getElem?_cons_succ, List.getElem?_cons_succ, List.getElem?_append_right (by rw [U_length, hl]; exact Nat.le_refl _), U_length, hl]
    rfl
theorem ActV.length {x : ActV} (hl : x.patch.length = 32) : x.cells.length = 37 := by simp [ActV.cells, U_length, hl]
theorem run_b70 (W : World) : (Instr.build 70 #[]).run Try.prog W = .ok (.agg #[.bool false, .slice none 0 0, .slice none 0 0]) W := by kernel_rfl
theorem run_bs71 (z : Nat) (W : World) : (Instr.buildSlice 71 2 #[(0, .pointer none), (1, .pointer (some ⟨z, 0, none⟩))]).run Try.prog W = .ok (.slice (some ⟨W.heap.size, 0, none⟩) 2 2) (W.alloc (.cells #[.pointer none, .pointer (some ⟨z, 0, none⟩)] 25)) := by kernel_rfl
theorem wpList_run0 {ops : Array Oper} {rest : List Oper} {o : Oper} {a : Act} {w : World} {Q : Exit → Act → World → Prop} (hw : Region.wanted o (yielded ops a.tmps) = true) (t : TypeId) (hop : o.op = Op.build t #[]) (v : Value) (hrun : ∀ W, (Instr.build t #[]).run Try.prog W = .ok v W)
    (hK : wpList Try.prog ops Q rest (a.put o.dst v) w) : wpList Try.prog ops Q (o :: rest) a w := by
  refine Go.BigFrame.wpList_want hw fun K' hK' => ?_
  unfold Oper.wp execOp
  simp [hop, hrun, Result.andThen]
  exact hK' _ _ hK
set_option maxRecDepth 100000 in
set_option maxHeartbeats 8000000 in
theorem nobody_law (x : ActV) (w : World) (hx : x.ok) : Calls Try.prog 8 #[.agg x.cells.toArray] w fun e w' => e = .returned (.bool true) ∧ Below w.heap.size w w' := by
  obtain ⟨cx, hcx⟩ : ∃ cx, x.cells = cx := ⟨_, rfl⟩
  obtain ⟨W1, hW1⟩ : ∃ W1, w.alloc (.cells cx.toArray 34) = W1 := ⟨_, rfl⟩
  obtain ⟨a, ha⟩ : ∃ a, w.heap.size = a := ⟨_, rfl⟩
  have b1 : Below w.heap.size w W1 := by rw [← hW1]; exact below_al _ _
  have hr1 : W1.rangeAt a 0 x.cells := by rw [← ha, ← hW1, hcx]; exact range_new _ _ _
  have hal : a < W1.heap.size := by rw [← ha, ← hW1]; simp
  obtain ⟨W2, hW2⟩ : ∃ W2, W1.alloc (.cells #[.bool false, .slice none 0 0, .slice none 0 0] 70) = W2 := ⟨_, rfl⟩
  obtain ⟨z, hz⟩ : ∃ z, W1.heap.size = z := ⟨_, rfl⟩
  have b2 : Below W1.heap.size W1 W2 := by rw [← hW2]; exact below_al _ _
  have hbz : Blk W2 z 70 [.bool false, .slice none 0 0, .slice none 0 0] := by rw [← hz, ← hW2]; exact Blk.new _ _ _
  obtain ⟨W3, hW3⟩ : ∃ W3, W2.alloc (.cells #[.pointer none, .pointer (some ⟨z, 0, none⟩)] 25) = W3 := ⟨_, rfl⟩
  obtain ⟨r, hr⟩ : ∃ r, W2.heap.size = r := ⟨_, rfl⟩
  have b3 : Below W2.heap.size W2 W3 := by rw [← hW3]; exact below_al _ _
  have hbr : Blk W3 r 25 [.pointer none, .pointer (some ⟨z, 0, none⟩)] := by rw [← hr, ← hW3]; exact Blk.new _ _ _
  have H3 : Hid (Below w.heap.size w W3 ∧ W3.rangeAt a 0 x.cells ∧ a < W3.heap.size ∧ Blk W3 z 70 [.bool false, .slice none 0 0, .slice none 0 0] ∧ Blk W3 r 25 [.pointer none, .pointer (some ⟨z, 0, none⟩)]) := by
    have b12 := below_tr b1 b2
    refine ⟨below_tr b12 b3, rangeAt_same (rangeAt_same hr1 (b2.block a hal)) (b3.block a (Nat.lt_of_lt_of_le hal b2.size)), Nat.lt_of_lt_of_le hal (Nat.le_trans b2.size b3.size), hbz.below b3 hbz.lt, hbr⟩
  have HX : Hid x.ok := hx
  have hb70 := run_b70
  have hbs71 := run_bs71 z
  have hz43 := zero43
  obtain ⟨Z, hZ⟩ : ∃ Z, Pp.zero.cells = Z := ⟨_, rfl⟩
  rw [hZ] at hz43
  have HZ : Hid (Pp.zero.cells = Z ∧ Z.length = 39) := ⟨hZ, by rw [← hZ]; exact zero_len⟩
  rw [hcx]
  clear b1 b2 b3 hr1 hal hbz hbr hx hcx hZ
  go_enter Try.func8, Try.ntmps8
  go_wp2
  go_loopw [13] (fun u wr => ∃ i : Nat, u = iv i ∧ Hid (i ≤ 2 ∧ Below W3.heap.size W3 wr)) (fun u _ => 2 - (intOf u).toNat)
  case atStart => exact ⟨0, rfl, by omega, Below.refl _ _⟩
  case round =>
    obtain ⟨i, rfl, HI⟩ := hrel
    clear hW1 hW2 hW3 hb70 hbs71
    by_cases hi : i = 2
    · subst hi
      have HLV := lives_is wr
      go_wp2_with fail
      refine HLV.mono ?_
      rintro e w9 ⟨rfl, hb9⟩
      have HB9 : Hid (Below w.heap.size w w9) := below_tr H3.out.1 (below_tr HI.out.2 hb9)
      clear HLV hb9
      go_wp2_with fail
      go_ret
      exact ⟨rfl, HB9.out⟩
    · have q2 : i < 2 := by have := HI.out.1; omega
      have q1 : (i : Int) < 2 := by omega
      obtain ⟨v, hv, hun⟩ : ∃ v, W3.cell? ⟨r, i, none⟩ = some v ∧ Un W3 v := by
        rcases (show i = 0 ∨ i = 1 by omega) with rfl | rfl
        · exact ⟨_, H3.out.2.2.2.2.cell rfl, .inl rfl⟩
        · exact ⟨_, H3.out.2.2.2.2.cell rfl, .inr ⟨z, rfl, H3.out.2.2.2.1⟩⟩
      have HU : Hid (Un W3 v) := hun
      have cv : wr.cell? ⟨r, i, none⟩ = some v := (HI.out.2.cell (p := ⟨r, i, none⟩) H3.out.2.2.2.2.lt).trans hv
      obtain ⟨_, y1, y2, y3, y4, y36⟩ := ActV.cell HX.out.2.2.2.2 (rangeAt_same H3.out.2.1 (HI.out.2.block a H3.out.2.2.1))
      rw [Nat.zero_add] at y1 y2 y3 y4 y36
      have HY4 : Hid (wr.rangeAt a 4 (U x.patch)) := y4
      have HPR := propose_un (HU.out.below HI.out.2) x.user x.text (U x.patch)
      obtain ⟨UP, hUP⟩ : ∃ L, U x.patch = L := ⟨_, rfl⟩
      rw [hUP] at HPR
      have HUP : Hid (U x.patch = UP) := hUP
      have HQ : Hid (i < 2) := q2
      clear hi hv hun y4 hUP
      go_wp2_with (with_reducible change wpList _ _ _ ({ dst := some 24, op := _, type := _, pos := _, after := _, guard := _ } :: _) _ _; refine Hid.out ?_)
      show wpList _ _ _ _ _ _
      refine wpList_load_want rfl 32 (.tmp 23) rfl a 4 rfl UP _ (by rw [← HUP.out]; exact HY4.out) Try.underlying32 rfl (by rw [← HUP.out]; exact info32 _ HX.out.2.2.2.2) ?_
      simp only [Act.put, List.setIfInBounds_toArray, List.set_cons_zero, List.set_cons_succ]
      go_wp2_with fail
      refine HPR.mono ?_
      rintro e V1 ⟨rfl, hb1⟩
      have HB1 : Hid (Below W3.heap.size W3 V1) := below_tr HI.out.2 hb1
      clear HPR hb1 y1 y2 y3 y36 cv
      obtain ⟨_, z1, z2, z3, _, z36⟩ := ActV.cell HX.out.2.2.2.2 (rangeAt_same H3.out.2.1 (HB1.out.block a H3.out.2.2.1))
      rw [Nat.zero_add] at z1 z2 z3 z36
      have HPP := proposal_un (HU.out.below HB1.out) x.id
      rw [HZ.out.1] at HPP
      go_wp2_with fail
      refine HPP.mono ?_
      rintro e V2 ⟨rfl, hb2⟩
      have HB2 : Hid (Below W3.heap.size W3 V2) := below_tr HB1.out hb2
      clear HPP hb2 z1 z2 z3 z36
      go_wp2_with (with_reducible change wpList _ _ _ ({ dst := none, op := Op.store _ _ _, type := _, pos := _, after := _, guard := _ } :: _) _ _; refine Hid.out ?_)
      show wpList _ _ _ _ _ _
      refine wpList_store_blk rfl 43 (.tmp 7) (.tmp 33) rfl V2.heap.size 0 43 Z Z rfl rfl (by simpa using Blk.new V2 Z.toArray 43) (by omega) (by rw [HZ.out.2]; exact size43) (by rw [← HZ.out.1]; exact Pp.one _) ?_
      intro V3 hb3 hg3
      obtain ⟨q, hq⟩ : ∃ q, V2.heap.size = q := ⟨_, rfl⟩
      rw [hq] at hb3 hg3 ⊢
      have HB3 : Hid (Below W3.heap.size W3 V3 ∧ Blk V3 q 43 Z) := by
        have h0 : Below V2.heap.size V2 V3 := (below_al V2 _).grown hg3.out (below_al V2 _).size (fun j hj => by cases hj; exact Nat.le_of_eq hq)
        refine ⟨below_tr HB2.out h0, ?_⟩
        have := hb3.out
        simpa using this
      clear hb3 hg3 hq
      obtain ⟨_, z1, z2, z3, _, z36⟩ := ActV.cell HX.out.2.2.2.2 (rangeAt_same H3.out.2.1 (HB3.out.1.block a H3.out.2.2.1))
      rw [Nat.zero_add] at z1 z2 z3 z36
      have C1 := vote_un (HU.out.below HB3.out.1) x.id x.user x.yes
      go_wp2_with fail
      refine C1.mono ?_
      rintro e V4 ⟨rfl, hb4⟩
      have HB4 : Hid (Below W3.heap.size W3 V4 ∧ Blk V4 q 43 Z) := ⟨below_tr HB3.out.1 hb4, HB3.out.2.below hb4 HB3.out.2.lt⟩
      clear C1 hb4 z1 z2 z3 z36
      obtain ⟨_, z1, z2, z3, _, z36⟩ := ActV.cell HX.out.2.2.2.2 (rangeAt_same H3.out.2.1 (HB4.out.1.block a H3.out.2.2.1))
      rw [Nat.zero_add] at z1 z2 z3 z36
      have C2 := unvote_un (HU.out.below HB4.out.1) x.id x.user
      go_wp2_with fail
      refine C2.mono ?_
      rintro e V5 ⟨rfl, hb5⟩
      have HB5 : Hid (Below W3.heap.size W3 V5 ∧ Blk V5 q 43 Z) := ⟨below_tr HB4.out.1 hb5, HB4.out.2.below hb5 HB4.out.2.lt⟩
      clear C2 hb5 z1 z2 z3 z36
      obtain ⟨_, z1, z2, z3, _, z36⟩ := ActV.cell HX.out.2.2.2.2 (rangeAt_same H3.out.2.1 (HB5.out.1.block a H3.out.2.2.1))
      rw [Nat.zero_add] at z1 z2 z3 z36
      have C3 := say_un (HU.out.below HB5.out.1) x.id x.user x.text
      go_wp2_with fail
      refine C3.mono ?_
      rintro e V6 ⟨rfl, hb6⟩
      have HB6 : Hid (Below W3.heap.size W3 V6 ∧ Blk V6 q 43 Z) := ⟨below_tr HB5.out.1 hb6, HB5.out.2.below hb6 HB5.out.2.lt⟩
      clear C3 hb6 z1 z2 z3 z36
      obtain ⟨_, z1, z2, z3, _, z36⟩ := ActV.cell HX.out.2.2.2.2 (rangeAt_same H3.out.2.1 (HB6.out.1.block a H3.out.2.2.1))
      rw [Nat.zero_add] at z1 z2 z3 z36
      have C4 := close_un (HU.out.below HB6.out.1) x.id
      go_wp2_with fail
      refine C4.mono ?_
      rintro e V7 ⟨rfl, hb7⟩
      have HB7 : Hid (Below W3.heap.size W3 V7 ∧ Blk V7 q 43 Z) := ⟨below_tr HB6.out.1 hb7, HB6.out.2.below hb7 HB6.out.2.lt⟩
      clear C4 hb7 z1 z2 z3 z36
      have HR7 : Hid (V7.rangeAt q 0 Z) := fun j v hj => by rw [Nat.zero_add]; exact HB7.out.2.cell hj
      have C5 : Hid (Calls Try.prog 18 #[.agg Z.toArray, .agg Z.toArray] V7 fun e w' => e = .returned (.bool true) ∧ Below V7.heap.size V7 w') := by
        have e0 : Strs V7 none 0 [] := ⟨rfl, fun h => absurd h (by decide)⟩
        have e1 : Prs V7 none 0 [] := ⟨rfl, fun h => absurd h (by decide)⟩
        have := same_same Pp.zero ⟨none, 0, 0⟩ ⟨none, 0, 0⟩ ⟨none, 0, 0⟩ [] [] [] V7 (by simp [Pp.zero]) e0 e0 e1 e0 e0 e1 ⟨by simp, by simp, by simp⟩
        rw [← HZ.out.1]
        exact this
      go_wp2_with (with_reducible change wpList _ _ _ ({ dst := some 83, op := _, type := _, pos := _, after := _, guard := _ } :: _) _ _; refine Hid.out ?_)
      show wpList _ _ _ _ _ _
      refine wpList_load_want rfl 43 (.tmp 7) rfl q 0 rfl Z _ HR7.out Try.underlying43 rfl (by rw [HZ.out.2]; exact size43) ?_
      refine wpList_run0 rfl 43 rfl (.agg Z.toArray) (fun W => by rw [← HZ.out.1]; exact run_build43_0 W) ?_
      simp only [Act.put, List.setIfInBounds_toArray, List.set_cons_zero, List.set_cons_succ]
      go_wp2_with fail
      refine C5.out.mono ?_
      rintro e V8 ⟨rfl, hb8⟩
      have HB8 : Hid (Below W3.heap.size W3 V8) := below_tr HB7.out.1 hb8
      have C6 := open_un (HU.out.below HB8.out)
      clear C5 hb8
      go_wp2_with fail
      refine C6.mono ?_
      rintro e V9 ⟨rfl, hb9⟩
      have HB9 : Hid (Below W3.heap.size W3 V9) := below_tr HB8.out hb9
      clear C6 hb9
      go_wp2
      go_roundw
      case rel => exact ⟨i + 1, by simp, HQ.out, HB9.out⟩
      case measure =>
        have := HQ.out
        simp only [intOf]
        omega
#print axioms nobody_law
end Go.Proofs.Ytaecigpjcbjcbaa.Oct
