/-
  Layer 15 (people): PeopleTeams.
-/
import Derived.Test.YtfickhhfhdhcbaaTmr
namespace Go.Proofs.Ytfickhhfhdhcbaa.Oct
open Go.RowKit
set_option linter.unusedSimpArgs false
set_option linter.unusedVariables false

set_option maxRecDepth 100000 in
set_option maxHeartbeats 8000000 in
theorem teams_law (l : List Av) (a : Option Addr) (n cp0 : Nat) (w : World) (hl : ArgA w a n cp0 l) :
    Calls Try.prog 5 #[.slice a n cp0] w fun e w' => e = .returned (.bool true) ∧ Below w.heap.size w w' := by
  have hz32 := zero32
  have hz42 : ∀ W, (zeroValue 42).run Try.prog W = .ok (.agg #[.string ⟨#[]⟩, .slice none 0 0, .int .i64 0]) W := fun W => by kernel_rfl
  have HFEW := few_is l a n cp0 w hl
  have HL : Hid (ArgA w a n cp0 l) := hl
  have qn : (n : Int) ≤ 2199023255552 := by have := hl.2.1; omega
  have HLV := fun W => lives_is W
  clear hl
  go_enter Try.func5, Try.ntmps5
  go_wp2_with fail
  refine HFEW.mono ?_
  rintro e w1 ⟨r, rfl, hb1⟩
  have HB1 : Hid (Below w.heap.size w w1) := hb1
  clear HFEW hb1
  cases r with
  | false =>
    have HLW := HLV w1
    go_wp2_with fail
    refine HLW.mono ?_
    rintro e w2 ⟨rfl, hb2⟩
    have HB2 : Hid (Below w.heap.size w w2) := below_tr HB1.out hb2
    clear HLW hb2
    go_wp2_with fail
    go_ret
    exact ⟨rfl, HB2.out⟩
  | true =>
    have HNEW := new_is w1
    go_wp2_with fail
    refine HNEW.mono ?_
    rintro e w2 ⟨rfl, hq0, hb2⟩
    obtain ⟨p, hp⟩ : ∃ p, w1.heap.size + 1 + 1 = p := ⟨_, rfl⟩
    rw [hp] at hq0 ⊢
    have HO0 : Hid (PB w.heap.size w2 p (Pm0 w1.heap.size) ∧ Sh (Pm0 w1.heap.size) ∧ Below w.heap.size w w2) := by
      have h1 := HB1.out.size
      have h2 := hb2.size
      refine ⟨⟨hq0, fun k hk => ?_, by omega⟩, Sh.zero _, below_tr HB1.out hb2⟩
      simp [Pm.bl, Pm.hp, Pm0] at hk
      omega
    clear HNEW hq0 hb2 hp
    go_wp2
    go_loopw [16] (fun u W => ∃ (i : Nat) (M : Pm), u = iv i ∧ Hid (i ≤ n ∧ PB w.heap.size W p M ∧ Sh M ∧ Below w.heap.size w W)) (fun u _ => n - (intOf u).toNat)
    case atStart => exact ⟨0, _, rfl, Nat.zero_le _, HO0.out⟩
    case round =>
      obtain ⟨i, M, rfl, HI⟩ := hrel
      by_cases hi : i = n
      · have q1 : (n : Int) ≤ (i : Int) := by omega
        have HLW := HLV wr
        clear hi
        go_wp2_with fail
        refine HLW.mono ?_
        rintro e w9 ⟨rfl, hb9⟩
        have HB9 : Hid (Below w.heap.size w w9) := below_tr HI.out.2.2.2 hb9
        clear HLW hb9
        go_wp2_with fail
        go_ret
        exact ⟨rfl, HB9.out⟩
      · have HQ : Hid (i < n) := by have := HI.out.1; show _ < _; omega
        have q1 : (i : Int) < (n : Int) := by have := HQ.out; omega
        have q2 : i < n := HQ.out
        obtain ⟨ab, off, ha, hbl, hc⟩ := HL.out.2.2.2 (by omega)
        subst ha
        obtain ⟨x, hx⟩ : ∃ x, l[i]? = some x := ⟨_, List.getElem?_eq_getElem (by rw [HL.out.1]; exact q2)⟩
        have hr : wr.rangeAt ab (off + i * 5) x.cells := rangeAt_same (hc i x hx) (HI.out.2.2.2.block ab hbl)
        have HR : Hid (wr.rangeAt ab (off + i * 5) x.cells) := hr
        have HOK : Hid (x.ok) := HL.out.2.2.1 x (List.mem_of_getElem? hx)
        clear hi hc hx hbl hr
        go_wp2_with (with_reducible change wpList _ _ _ ({ dst := some 19, op := _, type := _, pos := _, after := _, guard := _ } :: _) _ _; refine Hid.out ?_)
        show wpList _ _ _ _ _ _
        refine wpList_load_want rfl 32 (.tmp 18) rfl ab (off + i * 5) rfl x.cells _ HR.out Try.underlying32 rfl size32 ?_
        simp only [Act.put, List.setIfInBounds_toArray, List.set_cons_zero, List.set_cons_succ]
        obtain ⟨g5, hg5⟩ : ∃ g, wr.heap.size = g := ⟨_, rfl⟩
        go_wp2_with (with_reducible change wpList _ _ _ ({ dst := none, op := Op.store 32 _ _, type := _, pos := _, after := _, guard := _ } :: _) _ _; refine Hid.out ?_)
        show wpList _ _ _ _ _ _
        refine wpList_store_blk rfl 32 (.tmp 5) (.tmp 19) rfl g5 0 32 [iv 0, .string ⟨#[]⟩, .string ⟨#[]⟩, .string ⟨#[]⟩, iv 0] x.cells rfl rfl (by rw [← hg5]; exact Blk.new wr _ _) (by simp [Av.cells]) size32 (Av.one x) ?_
        intro V1 hb5' hg6
        have hV : Below wr.heap.size wr V1 := (below_al wr _).grown hg6.out (below_al wr _).size (fun j hj => by cases hj; omega)
        have H1 : Hid (PB w.heap.size V1 p M ∧ Below w.heap.size w V1 ∧ Blk V1 g5 32 x.cells ∧ g5 ∉ M.bl p ∧ w.heap.size ≤ g5) := by
          have h := HI.out.2.1
          have h1 := hV.size
          exact ⟨⟨h.1.below hV, h.2.1, by have := h.2.2; omega⟩, below_tr HI.out.2.2.2 hV, hb5'.out, fun e => by have := h.1.hp.lt _ e; omega, by have := h.2.2; omega⟩
        clear hb5' hg6 hV hg5 HR
        go_wp2_with (with_reducible change wpList _ _ _ ({ dst := some 21, op := _, type := _, pos := _, after := _, guard := _ } :: _) _ _; refine Hid.out ?_)
        show wpList _ _ _ _ _ _
        refine wpList_load_want rfl 32 (.tmp 5) rfl g5 0 rfl x.cells _ (by have := H1.out.2.2.1.range 0 5; simpa [Av.cells] using this) Try.underlying32 rfl size32 ?_
        simp only [Act.put, List.setIfInBounds_toArray, List.set_cons_zero, List.set_cons_succ]
        have HDO : Calls Try.prog 11 #[.pointer (some ⟨p, 0, none⟩), .agg x.cells.toArray] V1 fun e w' => e = .returned (iv (doE M x)) ∧ ∃ M', PAfter V1 p M M' w' ∧ Hid (Did M x M') := do_is H1.out.1.1 x HOK.out
        go_wp2_with fail
        refine HDO.mono ?_
        rintro e V2 ⟨rfl, M2, ha2, hd2⟩
        have H2 : Hid (PB w.heap.size V2 p M2 ∧ Sh M2 ∧ Below w.heap.size w V2 ∧ Blk V2 g5 32 x.cells) := by
          obtain ⟨h1, h2⟩ := ha2.toB H1.out.1
          exact ⟨h1, hd2.out.sh HI.out.2.2.1 HOK.out, H1.out.2.1.trans h2, ha2.2.2.blk H1.out.2.2.1 H1.out.2.2.2.1⟩
        clear HDO ha2 hd2
        have d1 : V2.cell? ⟨g5, 1, none⟩ = some (hv x.x) := H2.out.2.2.2.cell rfl
        have d3 : V2.cell? ⟨g5, 3, none⟩ = some (hv x.u) := H2.out.2.2.2.cell rfl
        have HSU := sub_is H2.out.1.1 H2.out.2.1 x.x x.u HOK.out.1 HOK.out.2.2
        go_wp2_with fail
        refine HSU.mono ?_
        rintro e V3 ⟨as6, n6, c6, rfl, HT6⟩
        obtain ⟨R, hR⟩ : ∃ R, subR M2 x.x x.u = R := ⟨_, rfl⟩
        rw [hR]
        obtain ⟨g6, hg6⟩ : ∃ g, V3.heap.size = g := ⟨_, rfl⟩
        have HFA : Hid ((subT M2 x.x x.u ≠ [] → R ≠ 0) ∧ (∀ t ∈ subT M2 x.x x.u, t ∈ teamsL M2 x.x) ∧ (subR M2 x.x x.u ≠ 0 → x.u ∈ usersL M2 ∧ x.u ∈ membersL M2 x.x) ∧ subR M2 x.x x.u = R) := by
          have h := role_fact H2.out.1.1 x.x x.u
          rw [hR] at h
          exact ⟨h.1, h.2.1, by rw [hR]; exact h.2.2, hR⟩
        clear HSU hR d1 d3
        go_wp2_with (with_reducible change wpList _ _ _ ({ dst := none, op := Op.store 42 _ _, type := _, pos := _, after := _, guard := _ } :: _) _ _; refine Hid.out ?_)
        show wpList _ _ _ _ _ _
        refine wpList_store_blk rfl 42 (.tmp 6) (.tmp 28) rfl g6 0 42 [.string ⟨#[]⟩, .slice none 0 0, .int .i64 0] [hv x.u, .slice as6 n6 c6, iv R] rfl rfl (by rw [← hg6]; exact Blk.new V3 _ _) (by simp) (by kernel_rfl) (by intro v hv'; simp at hv'; rcases hv' with rfl | rfl | rfl <;> rfl) ?_
        intro V4 R1 R2
        have h34 : Below V3.heap.size V3 V4 := (below_al V3 _).grown R2.out (below_al V3 _).size (fun j hj => by cases hj; omega)
        have h24 : Below V2.heap.size V2 V4 := below_tr HT6.out.2.2 h34
        have H4 : Hid (PB w.heap.size V4 p M2 ∧ Sh M2 ∧ Below w.heap.size w V4 ∧ Blk V4 g5 32 x.cells ∧ Blk V4 g6 42 [hv x.u, .slice as6 n6 c6, iv R] ∧ StrAt V4 as6 n6 (subT M2 x.x x.u) ∧ n6 ≤ 8) :=
          ⟨⟨H2.out.1.1.below h24, H2.out.1.2.1, Nat.le_trans H2.out.1.2.2 h24.size⟩, H2.out.2.1, below_tr H2.out.2.2.1 h24, H2.out.2.2.2.below h24 H2.out.2.2.2.lt, R1.out, HT6.out.1.below h34, HT6.out.2.1⟩
        have q6 : (n6 : Int) ≤ 8 := by have := HT6.out.2.1; omega
        have e1 : V4.cell? ⟨g6, 1, none⟩ = some (.slice as6 n6 c6) := H4.out.2.2.2.2.1.cell rfl
        have e2 : V4.cell? ⟨g6, 2, none⟩ = some (iv R) := H4.out.2.2.2.2.1.cell rfl
        clear HT6 R1 R2 h34 h24 hg6
        by_cases hn0 : n6 = 0
        · subst hn0
          go_wp2
          go_loopw [41] (fun u W => ∃ (j : Nat), u = iv j ∧ Hid (j ≤ 0 ∧ Below V4.heap.size V4 W)) (fun u _ => 0 - (intOf u).toNat)
          case atStart => exact ⟨0, rfl, Nat.le_refl _, Below.refl _ _⟩
          case round =>
            obtain ⟨j, rfl, HJ⟩ := hrel
            have hj : j = 0 := by have := HJ.out.1; omega
            subst hj
            clear e1 e2
            have e2 : wr.cell? ⟨g6, 2, none⟩ = some (iv R) := (H4.out.2.2.2.2.1.below HJ.out.2 H4.out.2.2.2.2.1.lt).cell rfl
            have HP4 : Hid (PAt wr p M2 ∧ x.ok) := ⟨H4.out.1.1.below HJ.out.2, HOK.out⟩
            have HG6 : Hid (Blk wr g6 42 [hv x.u, .slice as6 0 c6, iv R]) := H4.out.2.2.2.2.1.below HJ.out.2 H4.out.2.2.2.2.1.lt
            have HG5 : Hid (Blk wr g5 32 x.cells) := H4.out.2.2.2.1.below HJ.out.2 H4.out.2.2.2.1.lt
            have HE : Hid (∀ V, Below wr.heap.size wr V → PB w.heap.size V p M2 ∧ Sh M2 ∧ Below w.heap.size w V) := fun V hV => by
              have hb := below_tr HJ.out.2 hV
              exact ⟨⟨H4.out.1.1.below hb, H4.out.1.2.1, Nat.le_trans H4.out.1.2.2 hb.size⟩, H4.out.2.1, below_tr H4.out.2.2.1 hb⟩
            by_cases hR0 : R = 0
            · have b1 : (R != 0) = false := by simp [hR0]
              clear hR0
              go_wp2_with fail
              refine tm17n HP4 HG6 HG5 b1 ?_
              intro V9 hV9
              have HF : Hid (PB w.heap.size V9 p M2 ∧ Sh M2 ∧ Below w.heap.size w V9) := HE.out V9 hV9
              clear hV9 b1
              go_wp2
              go_roundw
              case rel => exact ⟨i + 1, M2, by simp, HQ.out, HF.out⟩
              case measure =>
                have := HQ.out
                simp only [intOf]
                omega
            · have b1 : (R != 0) = true := by simpa using hR0
              have HFF : Hid (x.u ∈ usersL M2 ∧ x.u ∈ membersL M2 x.x) := HFA.out.2.2.1 (by rw [HFA.out.2.2.2]; exact hR0)
              clear hR0
              go_wp2_with fail
              refine tm17y HP4 HG6 HG5 HFF b1 ?_
              intro V9 au nu cu am nm cm hV9
              have HF : Hid (PB w.heap.size V9 p M2 ∧ Sh M2 ∧ Below w.heap.size w V9) := HE.out V9 hV9
              clear hV9 b1
              go_wp2
              go_roundw
              case rel => exact ⟨i + 1, M2, by simp, HQ.out, HF.out⟩
              case measure =>
                have := HQ.out
                simp only [intOf]
                omega
        · have q7 : (0 : Int) < (n6 : Int) := by omega
          have hR1 : R ≠ 0 := HFA.out.1 (fun e => by have := H4.out.2.2.2.2.2.1.1; rw [e] at this; simp at this; omega)
          have q8 : (R == 0) = false := by simpa using hR1
          clear hn0 hR1
          go_wp2
          go_loopw [41] (fun u W => ∃ (j : Nat), u = iv j ∧ Hid (j ≤ n6 ∧ Below V4.heap.size V4 W)) (fun u _ => n6 - (intOf u).toNat)
          case atStart => exact ⟨0, rfl, Nat.zero_le _, Below.refl _ _⟩
          case round =>
            obtain ⟨j, rfl, HJ⟩ := hrel
            by_cases hj : j = n6
            · have q9 : (n6 : Int) ≤ (j : Int) := by omega
              clear hj e1 e2
              have e2 : wr.cell? ⟨g6, 2, none⟩ = some (iv R) := (H4.out.2.2.2.2.1.below HJ.out.2 H4.out.2.2.2.2.1.lt).cell rfl
              have HP4 : Hid (PAt wr p M2 ∧ x.ok) := ⟨H4.out.1.1.below HJ.out.2, HOK.out⟩
              have HG6 : Hid (Blk wr g6 42 [hv x.u, .slice as6 n6 c6, iv R]) := H4.out.2.2.2.2.1.below HJ.out.2 H4.out.2.2.2.2.1.lt
              have HG5 : Hid (Blk wr g5 32 x.cells) := H4.out.2.2.2.1.below HJ.out.2 H4.out.2.2.2.1.lt
              have HE : Hid (∀ V, Below wr.heap.size wr V → PB w.heap.size V p M2 ∧ Sh M2 ∧ Below w.heap.size w V) := fun V hV => by
                have hb := below_tr HJ.out.2 hV
                exact ⟨⟨H4.out.1.1.below hb, H4.out.1.2.1, Nat.le_trans H4.out.1.2.2 hb.size⟩, H4.out.2.1, below_tr H4.out.2.2.1 hb⟩
              by_cases hR0 : R = 0
              · have b1 : (R != 0) = false := by simp [hR0]
                clear hR0
                go_wp2_with fail
                refine tm17n HP4 HG6 HG5 b1 ?_
                intro V9 hV9
                have HF : Hid (PB w.heap.size V9 p M2 ∧ Sh M2 ∧ Below w.heap.size w V9) := HE.out V9 hV9
                clear hV9 b1
                go_wp2
                go_roundw
                case rel => exact ⟨i + 1, M2, by simp, HQ.out, HF.out⟩
                case measure =>
                  have := HQ.out
                  simp only [intOf]
                  omega
              · have b1 : (R != 0) = true := by simpa using hR0
                have HFF : Hid (x.u ∈ usersL M2 ∧ x.u ∈ membersL M2 x.x) := HFA.out.2.2.1 (by rw [HFA.out.2.2.2]; exact hR0)
                clear hR0
                go_wp2_with fail
                refine tm17y HP4 HG6 HG5 HFF b1 ?_
                intro V9 au nu cu am nm cm hV9
                have HF : Hid (PB w.heap.size V9 p M2 ∧ Sh M2 ∧ Below w.heap.size w V9) := HE.out V9 hV9
                clear hV9 b1
                go_wp2
                go_roundw
                case rel => exact ⟨i + 1, M2, by simp, HQ.out, HF.out⟩
                case measure =>
                  have := HQ.out
                  simp only [intOf]
                  omega
            · have HJQ : Hid (j < n6) := by have := HJ.out.1; show _ < _; omega
              have q9 : (j : Int) < (n6 : Int) := by have := HJQ.out; omega
              have q10 : j < n6 := HJQ.out
              obtain ⟨gs, t, has, ht, hc⟩ := str_at (H4.out.2.2.2.2.2.1.below HJ.out.2) q10
              subst has
              have HT : Hid (t ∈ teamsL M2 x.x) := HFA.out.2.1 t (List.mem_of_getElem? ht)
              have HTE := teams_is (H4.out.1.1.below HJ.out.2) x.x HOK.out.1
              have f1 : wr.cell? ⟨g5, 1, none⟩ = some (hv x.x) := (H4.out.2.2.2.1.below HJ.out.2 H4.out.2.2.2.1.lt).cell rfl
              clear hj ht e1 e2
              go_wp2_with fail
              refine HTE.mono ?_
              rintro e V6 ⟨at6, nt6, ct6, rfl, HT6⟩
              have HHO := holds_is (c := ct6) HT6.out.1 t HT.out (by have := HT6.out.2.1; omega)
              clear HTE f1
              go_wp2_with fail
              refine HHO.mono ?_
              rintro e V7 ⟨rfl, hb7⟩
              have HB7 : Hid (Below V4.heap.size V4 V7) := below_tr (below_tr HJ.out.2 HT6.out.2.2) hb7
              clear HHO hb7 hc
              go_wp2
              go_roundw
              case rel => exact ⟨j + 1, by simp, HJQ.out, HB7.out⟩
              case measure =>
                have := HJQ.out
                simp only [intOf]
                omega
#print axioms teams_law
end Go.Proofs.Ytfickhhfhdhcbaa.Oct
