/-
  Layer 21 (queue): QueueNobody.
-/
import Derived.Test.YtipipckbcelphaaQun
import Derived.Test.YtipipckbcelphaaVac
namespace Go.Proofs.Ytipipckbcelphaa.Oct
open Go.RowKit Go.Shelf
set_option linter.unusedSimpArgs false
set_option linter.unusedVariables false

theorem neq38 (W : World) : (binOp BinOp.neq 38 (.agg #[iv 0, iv 0, iv 0]) (.agg #[iv 0, iv 0, iv 0])).run Try.prog W = .ok (.bool false) W := by kernel_rfl
theorem build54 (W : World) : (Instr.build 54 #[]).run Try.prog W = .ok (.agg #[.bool false, .slice none 0 0, .slice none 0 0, .nilFunc]) W := by kernel_rfl
theorem run_bs55 (p : Option Addr) (W : World) : (Instr.buildSlice 55 2 #[(0, .pointer none), (1, .pointer p)]).run Try.prog W = .ok (.slice (some ⟨W.heap.size, 0, none⟩) 2 2) (W.alloc (.cells #[.pointer none, .pointer p] 25)) := by kernel_rfl
set_option maxRecDepth 100000 in
set_option maxHeartbeats 4000000 in
theorem nobody_law (y : Av) (w : World) : Calls Try.prog 7 #[.agg #[iv y.kind, iv y.id, iv y.ans, .slice y.sa y.sn y.sc]] w fun e w' => e = .returned (.bool true) ∧ Below w.heap.size w w' := by
  have hz38 := zero38
  have hneq := neq38
  have hb54 := build54
  have hbs := run_bs55
  obtain ⟨bx, hbx⟩ : ∃ bx, w.heap.size = bx := ⟨_, rfl⟩
  obtain ⟨A, hA⟩ : ∃ A, ((w.alloc (.cells #[iv y.kind, iv y.id, iv y.ans, .slice y.sa y.sn y.sc] 32)).alloc (.cells #[.bool false, .slice none 0 0, .slice none 0 0, .nilFunc] 54)).alloc (.cells #[.pointer none, .pointer (some ⟨w.heap.size + 1, 0, none⟩)] 25) = A := ⟨_, rfl⟩
  have hB : Below w.heap.size w A := by rw [← hA]; exact (((Below.refl _ w).alloc (Nat.le_refl _) _).alloc (by simp) _).alloc (by simp; omega) _
  have h0 : Blk A bx 32 [iv y.kind, iv y.id, iv y.ans, .slice y.sa y.sn y.sc] := by rw [← hA, ← hbx]; exact ((Blk.new w _ _).alloc _).alloc _
  have h1 : Blk A (bx + 1) 54 [.bool false, .slice none 0 0, .slice none 0 0, .nilFunc] := by
    rw [← hA, ← hbx]
    have := (Blk.new (w.alloc (.cells #[iv y.kind, iv y.id, iv y.ans, .slice y.sa y.sn y.sc] 32)) #[.bool false, .slice none 0 0, .slice none 0 0, .nilFunc] 54).alloc (.cells #[.pointer none, .pointer (some ⟨w.heap.size + 1, 0, none⟩)] 25)
    rwa [World.size_alloc] at this
  have h2 : Blk A (bx + 1 + 1) 25 [.pointer none, .pointer (some ⟨bx + 1, 0, none⟩)] := by
    rw [← hA, ← hbx]
    have := Blk.new ((w.alloc (.cells #[iv y.kind, iv y.id, iv y.ans, .slice y.sa y.sn y.sc] 32)).alloc (.cells #[.bool false, .slice none 0 0, .slice none 0 0, .nilFunc] 54)) #[.pointer none, .pointer (some ⟨w.heap.size + 1, 0, none⟩)] 25
    rwa [World.size_alloc, World.size_alloc] at this
  have HA : Hid (Below w.heap.size w A ∧ Blk A bx 32 [iv y.kind, iv y.id, iv y.ans, .slice y.sa y.sn y.sc] ∧ Blk A (bx + 1) 54 [.bool false, .slice none 0 0, .slice none 0 0, .nilFunc] ∧ Blk A (bx + 1 + 1) 25 [.pointer none, .pointer (some ⟨bx + 1, 0, none⟩)]) := ⟨hB, h0, h1, h2⟩
  rw [hbx] at hA
  clear hB h0 h1 h2
  go_enter Try.func7, Try.ntmps7
  go_wp2
  go_loopw [15] (fun u W => ∃ j : Nat, u = iv j ∧ Hid (j ≤ 2 ∧ Below A.heap.size A W)) (fun u _ => 2 - (intOf u).toNat)
  case atStart => exact ⟨0, rfl, Nat.zero_le _, Below.refl _ _⟩
  case round =>
    obtain ⟨j, rfl, HJ⟩ := hrel
    clear hA
    by_cases hj : j = 2
    · have q1 : ¬ ((j : Int) < 2) := by omega
      have HB : Hid (Below A.heap.size A wr) := HJ.out.2
      clear hj HJ
      have HNEW := new_is wr
      go_wp2_with fail
      refine HNEW.mono ?_
      rintro e w1 ⟨rfl, hq0, hb1⟩
      obtain ⟨b, hbb⟩ : ∃ b, wr.heap.size = b := ⟨_, rfl⟩
      rw [hbb] at hq0 ⊢
      have HST := step_nil hq0
      have HB1 : Hid (Below A.heap.size A w1) := below_tr HB.out hb1
      clear HNEW hb1 hbb
      go_wp2_with fail
      refine HST.mono ?_
      rintro e W1 ⟨rfl, hb2⟩
      have hal : Below W1.heap.size W1 (W1.alloc (.cells #[iv 0, iv 0, iv 0] 38)) := below_al _ _
      obtain ⟨g9, hg9⟩ : ∃ g, W1.heap.size = g := ⟨_, rfl⟩
      have HQ1 : Hid (QAt W1 b ⟨.slice none 0 0, .slice none 0 0, [], []⟩ .nilFunc 0 ∧ Below A.heap.size A W1) := ⟨hq0.below hb2, below_tr HB1.out hb2⟩
      clear HST hb2 hq0
      go_wp2_with (with_reducible change wpList _ _ _ ({ dst := none, op := Op.store 38 _ _, type := _, pos := _, after := _, guard := _ } :: _) _ _; refine Hid.out ?_)
      show wpList _ _ _ _ _ _
      refine wpList_store_blk rfl 38 (.tmp 9) _ rfl g9 0 38 q0 q0 rfl rfl (by rw [← hg9]; exact Blk.new W1 _ _) (by simp [q0]) size38 (by intro u hu; simp [q0] at hu; subst hu; rfl) ?_
      intro V2 hb5 hg5
      have hV2 : Below W1.heap.size W1 V2 := hal.grown hg5.out hal.size (fun j hj => by cases hj; omega)
      have HDR := drain_nil (HQ1.out.1.below hV2) rfl
      have HB2 : Hid (Below A.heap.size A V2) := below_tr HQ1.out.2 hV2
      clear hb5 hg5 hal hV2 hg9
      go_wp2_with fail
      refine HDR.mono ?_
      rintro e V3 ⟨rfl, hb3⟩
      have HLV := lives_is V3
      have HB3 : Hid (Below A.heap.size A V3) := below_tr HB2.out hb3
      clear HDR hb3
      go_wp2_with fail
      refine HLV.mono ?_
      rintro e V4 ⟨rfl, hb4⟩
      have HF : Hid (Below w.heap.size w V4) := HA.out.1.trans ((below_tr HB3.out hb4).mono HA.out.1.size)
      clear HLV hb4
      go_wp2_with fail
      go_ret
      exact ⟨rfl, HF.out⟩
    · have q1 : (j : Int) < 2 := by have := HJ.out.1; omega
      have HQ : Hid (j < 2) := by show _ < _; have := HJ.out.1; omega
      obtain ⟨pp, hpp, hun⟩ : ∃ pp : Option Addr, ([Value.pointer none, .pointer (some ⟨bx + 1, 0, none⟩)] : List Value)[j]? = some (.pointer pp) ∧ Un A pp := by
        have hj2 : j = 0 ∨ j = 1 := by have := HQ.out; omega
        rcases hj2 with rfl | rfl
        · exact ⟨none, rfl, .inl rfl⟩
        · exact ⟨some ⟨bx + 1, 0, none⟩, rfl, .inr ⟨_, rfl, HA.out.2.2.1⟩⟩
      have cp : wr.cell? ⟨bx + 1 + 1, j, none⟩ = some (.pointer pp) := (HA.out.2.2.2.below HJ.out.2 HA.out.2.2.2.lt).cell hpp
      have HU : Hid (Un wr pp ∧ Blk wr bx 32 [iv y.kind, iv y.id, iv y.ans, .slice y.sa y.sn y.sc]) := ⟨hun.below HJ.out.2, HA.out.2.1.below HJ.out.2 HA.out.2.1.lt⟩
      have HST := un_step (F := 33) (cs := #[]) HU.out.1
      clear hj hpp hun
      go_wp2_with fail
      refine HST.mono ?_
      rintro e W1 ⟨rfl, hb1⟩
      have hal : Below W1.heap.size W1 (W1.alloc (.cells #[iv 0, iv 0, iv 0] 38)) := below_al _ _
      obtain ⟨g6, hg6⟩ : ∃ g, W1.heap.size = g := ⟨_, rfl⟩
      have HB1 : Hid (Below A.heap.size A W1 ∧ Below wr.heap.size wr W1) := ⟨below_tr HJ.out.2 hb1, hb1⟩
      clear HST hb1 cp
      go_wp2_with (with_reducible change wpList _ _ _ ({ dst := none, op := Op.store 38 _ _, type := _, pos := _, after := _, guard := _ } :: _) _ _; refine Hid.out ?_)
      show wpList _ _ _ _ _ _
      refine wpList_store_blk rfl 38 (.tmp 6) _ rfl g6 0 38 q0 q0 rfl rfl (by rw [← hg6]; exact Blk.new W1 _ _) (by simp [q0]) size38 (by intro u hu; simp [q0] at hu; subst hu; rfl) ?_
      intro V2 hb5 hg5
      have hV2 : Below W1.heap.size W1 V2 := hal.grown hg5.out hal.size (fun j hj => by cases hj; omega)
      have hw2 := below_tr HB1.out.2 hV2
      have HV2 : Hid (Below A.heap.size A V2 ∧ Un V2 pp ∧ Blk V2 g6 38 q0) := ⟨below_tr HB1.out.1 hV2, HU.out.1.below hw2, hb5.out⟩
      have c1 : V2.cell? ⟨bx, 1, none⟩ = some (iv y.id) := (HU.out.2.below hw2 HU.out.2.lt).cell rfl
      have HP := un_put HV2.out.2.1 y.id
      have HD := un_drop HV2.out.2.1 y.id
      have HDR := un_drain (F := 33) (cs := #[]) HV2.out.2.1
      clear hb5 hg5 hal hV2 hw2 hg6
      go_wp2_with fail
      refine HP.mono ?_
      rintro e w3 ⟨rfl, rfl⟩
      clear HP
      go_wp2_with fail
      refine HD.mono ?_
      rintro e w3 ⟨rfl, rfl⟩
      clear HD
      go_wp2_with (with_reducible change wpList _ _ _ ({ dst := some 38, op := _, type := _, pos := _, after := _, guard := _ } :: _) _ _; refine Hid.out ?_)
      show wpList _ _ _ _ _ _
      refine wpList_load_want rfl 38 (.tmp 6) rfl g6 0 rfl q0 _ (by have := HV2.out.2.2.range 0 3; exact this) Try.underlying38 rfl size38 ?_
      simp only [Act.put, List.setIfInBounds_toArray, List.set_cons_zero, List.set_cons_succ]
      rw [show q0.toArray = #[iv 0, iv 0, iv 0] from rfl]
      go_wp2_with fail
      refine HDR.mono ?_
      rintro e V3 ⟨rfl, hb3⟩
      have HV3 : Hid (Below A.heap.size A V3 ∧ Un V3 pp) := ⟨below_tr HV2.out.1 hb3, HV2.out.2.1.below hb3⟩
      have c1' : V3.cell? ⟨bx, 1, none⟩ = some (iv y.id) := (hb3.cell (p := ⟨bx, 1, none⟩) (World.block_lt_of_cell? _ _ c1)).trans c1
      have HWT := un_waiting HV3.out.2
      have HEN := un_ended HV3.out.2
      have HPL := un_place HV3.out.2 y.id
      clear HDR hb3 c1
      go_wp2_with fail
      refine HWT.mono ?_
      rintro e w4 ⟨rfl, rfl⟩
      clear HWT
      go_wp2_with fail
      refine HEN.mono ?_
      rintro e w4 ⟨rfl, rfl⟩
      clear HEN
      go_wp2_with fail
      refine HPL.mono ?_
      rintro e w4 ⟨rfl, rfl⟩
      clear HPL c1'
      go_wp2
      go_roundw
      case rel => exact ⟨j + 1, by simp, HQ.out, HV3.out.1⟩
      case measure =>
        have := HQ.out
        simp only [intOf]
        omega
#print axioms nobody_law
end Go.Proofs.Ytipipckbcelphaa.Oct
