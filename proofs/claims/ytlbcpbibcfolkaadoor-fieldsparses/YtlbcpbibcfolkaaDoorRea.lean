/-
  Layer 22 (fields): the reference's Digit, Escape and Unescape.
-/
import Derived.Test.YtlbcpbibcfolkaaDoorPll
import Derived.Deep.RegionLaw
import Derived.OwnWalk
namespace Go.Proofs.YtlbcpbibcfolkaaDoor.Oct
open Go.RowKit
set_option linter.unusedSimpArgs false
set_option linter.unusedVariables false

set_option maxRecDepth 100000 in
set_option maxHeartbeats 4000000 in
theorem rdigit_is (x : Int) (h0 : 0 ≤ x) (h1 : x ≤ 255) (w : World) (r : Int) (hr : dgtI x = r) : Calls Tryd.prog 25 #[bv x] w fun e w' => e = .returned (iv r) ∧ w = w' := by
  have HH : Hid (0 ≤ x ∧ x ≤ 255) := ⟨h0, h1⟩
  have hw : ∀ y : Int, 0 ≤ y → y ≤ 255 → IntKind.u8.wrap y = y := fun y a b => by rw [IntKind.wrap_u8]; omega
  have hv : ∀ y : Int, 0 ≤ y → y ≤ 255 → IntKind.i64.wrap y = y := fun y a b => by rw [IntKind.wrap_i64]; omega
  by_cases c1 : 97 ≤ x ∧ x ≤ 102
  · have hd : x - 87 = r := by rw [← hr]; unfold dgtI; rw [if_pos c1]
    have q1 := c1.1
    have q2 := c1.2
    have q3 : ¬ (x ≤ 57) := by omega
    have q4 : 48 ≤ x := by omega
    have w1 : IntKind.u8.wrap (x - 97) = x - 97 := hw _ (by omega) (by omega)
    have w2 : IntKind.i64.wrap (x - 97) = x - 97 := hv _ (by omega) (by omega)
    have w3 : IntKind.i64.wrap (x - 97 + 10) = r := by rw [hv _ (by omega) (by omega)]; omega
    clear hd c1 hr hw hv
    go_enter Tryd.func25, Tryd.ntmps25
    go_wp2
    go_ret
    exact ⟨by first | rfl | (congr 2; omega), rfl⟩
  by_cases c2 : 65 ≤ x ∧ x ≤ 70
  · have hd : x - 55 = r := by rw [← hr]; unfold dgtI; rw [if_neg c1, if_pos c2]
    have q1 := c2.1
    have q2 := c2.2
    have q3 : ¬ (97 ≤ x) := by omega
    have q4 : ¬ (x ≤ 57) := by omega
    have q5 : 48 ≤ x := by omega
    have w1 : IntKind.u8.wrap (x - 65) = x - 65 := hw _ (by omega) (by omega)
    have w2 : IntKind.i64.wrap (x - 65) = x - 65 := hv _ (by omega) (by omega)
    have w3 : IntKind.i64.wrap (x - 65 + 10) = r := by rw [hv _ (by omega) (by omega)]; omega
    clear hd c1 c2 hr hw hv
    go_enter Tryd.func25, Tryd.ntmps25
    go_wp2
    go_ret
    exact ⟨by first | rfl | (congr 2; omega), rfl⟩
  by_cases c3 : 48 ≤ x ∧ x ≤ 57
  · have hd : x - 48 = r := by rw [← hr]; unfold dgtI; rw [if_neg c1, if_neg c2, if_pos c3]
    have q1 := c3.1
    have q2 := c3.2
    have w1 : IntKind.u8.wrap (x - 48) = x - 48 := hw _ (by omega) (by omega)
    have w2 : IntKind.i64.wrap (x - 48) = x - 48 := hv _ (by omega) (by omega)
    clear c1 c2 c3 hr hw hv
    go_enter Tryd.func25, Tryd.ntmps25
    go_wp2
    go_ret
    exact ⟨by first | rfl | (rw [hd]) | (congr 2; omega), rfl⟩
  have hd : r = -1 := by rw [← hr]; unfold dgtI; rw [if_neg c1, if_neg c2, if_neg c3]
  subst hd
  clear hr hw hv
  by_cases d1 : 97 ≤ x <;> by_cases d2 : x ≤ 102 <;> by_cases d3 : 65 ≤ x <;> by_cases d4 : x ≤ 70 <;> by_cases d5 : 48 ≤ x <;> by_cases d6 : x ≤ 57 <;> first | (exfalso; omega) | skip
  all_goals
    clear c1 c2 c3
    go_enter Tryd.func25, Tryd.ntmps25
    go_wp2
    go_ret
    exact ⟨rfl, rfl⟩
#print axioms rdigit_is
set_option maxRecDepth 100000 in
set_option maxHeartbeats 2000000 in
theorem rescape_is (s : BA) (hs : s.size ≤ 20000000) (w : World) : Calls Tryd.prog 13 #[.string s] w fun e w' => e = .returned (.string ⟨(escL s.data.toList).toArray⟩) ∧ Below w.heap.size w w' := by
  obtain ⟨i0, hi, hz0, hz1, hz2⟩ := info5
  have HI5 : Hid (Tryd.prog.info? 5 = some i0 ∧ i0.zero = some (.int .u8 0) ∧ i0.size = 1 ∧ i0.bytes = 1) := ⟨hi, hz0, hz1, hz2⟩
  obtain ⟨n, hn⟩ : ∃ n, s.size = n := ⟨_, rfl⟩
  have qn : (s.size : Int) = (n : Int) := by omega
  have qn2 : (n : Int) ≤ 20000000 := by omega
  obtain ⟨L, hL⟩ : ∃ L, s.data.toList = L := ⟨_, rfl⟩
  have HL : Hid (s.data.toList = L ∧ L.length = n ∧ n ≤ 20000000) := ⟨hL, by rw [← hL, ← hn]; rfl, by omega⟩
  obtain ⟨S, hS⟩ : ∃ S : BA, ⟨(escL L).toArray⟩ = S := ⟨_, rfl⟩
  have HS : Hid ((⟨(escL L).toArray⟩ : BA) = S) := hS
  rw [hL, hS]
  clear hs hL hS hn
  go_enter Tryd.func13, Tryd.ntmps13
  go_wp2_with fail
  go_loopw [5, 4] (fun i v wr => ∃ (t : Nat) (x : Value), i = .int .i64 t ∧ x = v ∧ t ≤ n ∧ Hid (Own 5 w.heap.size wr x (escL (L.take t))) ∧ Hid (Below w.heap.size w wr)) (fun i _ _ => n - (intOf i).toNat)
  case atStart => exact ⟨0, _, rfl, rfl, by omega, ⟨rfl, .inl ⟨rfl, rfl⟩⟩, Below.refl _ _⟩
  case round =>
    obtain ⟨t, v, rfl, rfl, ht, ho, hb⟩ := hrel
    by_cases hlt : t = n
    · subst hlt
      have hfull : L.take t = L := List.take_of_length_le (by rw [HL.out.2.1]; exact Nat.le_refl _)
      rw [hfull] at ho
      have hHL : (escL L).length ≤ 140737488355328 := by have := (escL_len L).2; have := HL.out.2; omega
      obtain ⟨ah, ch, rfl, hinh, -⟩ := own_in ho.out hHL
      have hcv := string_in Tryd.underlying51 Tryd.underlying5 Tryd.underlying9 hinh
      rw [HS.out] at hcv
      have HB : Hid (Below w.heap.size w wr) := hb
      generalize (escL L).length = K at *
      clear hinh hHL
      go_wp2
      go_ret
      exact ⟨rfl, HB.out⟩
    · have q1 : (t : Int) < (n : Int) := by omega
      have HT : Hid (t < n) := by show t < n; omega
      have htl : t < L.length := by rw [HL.out.2.1]; exact HT.out
      obtain ⟨c, hc⟩ : ∃ c, L[t]? = some c := ⟨_, List.getElem?_eq_getElem htl⟩
      obtain ⟨OL, hOL⟩ : ∃ OL, escL (L.take t) = OL := ⟨_, rfl⟩
      have HOL : Hid (escL (L.take t) = OL) := hOL
      rw [hOL] at ho
      have HO : Hid (Own 5 w.heap.size wr v OL ∧ Below w.heap.size w wr) := ⟨ho.out, hb.out⟩
      have HCI : Hid (s.data.toList[t]? = some c) := by rw [HL.out.1]; exact hc
      have hz3 : OL.length + 3 ≤ 140737488355328 := by rw [← hOL]; have h3 := (escL_len (L.take t)).2; rw [List.length_take] at h3; have := HL.out.2; omega
      have hst : escL (L.take (t + 1)) = escL (L.take t) ++ escB c := by rw [List.take_add_one, hc, escL_app]; simp [escL]
      clear htl hc hlt ho hb hi hz0 hz1 hz2 hOL
      by_cases h2 : plainI (c.toNat : Int) = true
      · have HP : Hid (plainI (c.toNat : Int) = true) := h2
        have heb : escB c = [c] := by unfold escB; rw [if_neg (fun h => by subst h; exact absurd h2 (by decide)), if_pos h2]
        rw [heb] at hst
        have HC : Hid (True ∧ escL (L.take (t + 1)) = escL (L.take t) ++ [c] ∧ OL.length + 1 ≤ 140737488355328) := ⟨trivial, hst, by omega⟩
        clear h2 heb hst hz3
        obtain ⟨W4, hW4⟩ : ∃ W4, wr.alloc (.cells #[bv (c.toNat : Int)] 5) = W4 := ⟨_, rfl⟩
        have hb4 : Below wr.heap.size wr W4 := by rw [← hW4]; exact below_al _ _
        have HH : Hid (W4.ownsRow w.heap.size 5 1 v OL.length (U OL) ∧ In W4 (some ⟨wr.heap.size, 0, none⟩) 1 1 [c] ∧ w.heap.size ≤ W4.heap.size ∧ Below w.heap.size w W4) := ⟨HO.out.1.below hb4 (Nat.le_refl _), by rw [← hW4]; exact in_new wr 5 [c] (by simp), Nat.le_trans HO.out.2.size hb4.size, below_tr HO.out.2 hb4⟩
        clear hb4
        go_wp2_with (with_reducible change wpList _ _ _ ({ dst := some 15, op := _, type := _, pos := _, after := _, guard := _ } :: _) _ _; refine Hid.out ?_)
        show wpList _ _ _ _ _ _
        refine wpList_idx rfl (.tmp 13) (.tmp 14) rfl s t c rfl rfl HCI.out ?_
        go_wp2_with fail
        refine (rplain_is (c.toNat : Int) wr true HP.out).mono ?_
        rintro e W ⟨rfl, rfl⟩
        go_wp2_with (with_reducible change wpList _ _ _ ({ dst := some 21, op := _, type := _, pos := _, after := _, guard := _ } :: _) _ _; refine Hid.out ?_)
        show wpList _ _ _ _ _ _
        refine wpList_append_in _ rfl (.tmp 18) (.tmp 20) 51 rfl w.heap.size 5 i0 Tryd.underlying51 HI5.out.1 HI5.out.2.1 HI5.out.2.2.1 HI5.out.2.2.2 v OL OL.length rfl rfl HH.out.1 (some ⟨wr.heap.size, 0, none⟩) 1 1 [c] rfl HH.out.2.1 HC.out.2.2 HH.out.2.2.1 ?_
        intro v5 W5 ho5 hg5
        have HF : Hid (t + 1 ≤ n ∧ Own 5 w.heap.size W5 v5 (escL (L.take (t + 1))) ∧ Below w.heap.size w W5) := ⟨HT.out, by rw [HC.out.2.1, HOL.out]; exact ho5, HH.out.2.2.2.grown hg5 HH.out.2.2.1 (fun j hj => own_lt HH.out.1 hj)⟩
        clear ho5 hg5
        go_wp2
        go_roundw
        case rel => exact ⟨t + 1, _, rfl, rfl, HF.out.1, HF.out.2.1, HF.out.2.2⟩
        case measure => show n - (t + 1) < n - t; have := HF.out.1; omega
      · have h2' : plainI (c.toNat : Int) = false := by simpa using h2
        by_cases h3 : c = 32
        · subst h3
          have heb : escB 32 = [43] := rfl
          rw [heb] at hst
          have HC : Hid (True ∧ escL (L.take (t + 1)) = escL (L.take t) ++ [43] ∧ OL.length + 1 ≤ 140737488355328) := ⟨trivial, hst, by omega⟩
          clear h2 h2' heb hst hz3
          obtain ⟨W4, hW4⟩ : ∃ W4, wr.alloc (.cells #[bv 43] 5) = W4 := ⟨_, rfl⟩
          have hb4 : Below wr.heap.size wr W4 := by rw [← hW4]; exact below_al _ _
          have HH : Hid (W4.ownsRow w.heap.size 5 1 v OL.length (U OL) ∧ In W4 (some ⟨wr.heap.size, 0, none⟩) 1 1 [43] ∧ w.heap.size ≤ W4.heap.size ∧ Below w.heap.size w W4) := ⟨HO.out.1.below hb4 (Nat.le_refl _), by rw [← hW4]; exact in_new wr 5 [43] (by simp), Nat.le_trans HO.out.2.size hb4.size, below_tr HO.out.2 hb4⟩
          clear hb4
          go_wp2_with (with_reducible change wpList _ _ _ ({ dst := some 15, op := _, type := _, pos := _, after := _, guard := _ } :: _) _ _; refine Hid.out ?_)
          show wpList _ _ _ _ _ _
          refine wpList_idx rfl (.tmp 13) (.tmp 14) rfl s t 32 rfl rfl HCI.out ?_
          go_wp2_with fail
          refine (rplain_is _ wr false rfl).mono ?_
          rintro e W ⟨rfl, rfl⟩
          go_wp2_with (with_reducible change wpList _ _ _ ({ dst := some 26, op := _, type := _, pos := _, after := _, guard := _ } :: _) _ _; refine Hid.out ?_)
          show wpList _ _ _ _ _ _
          refine wpList_append_in _ rfl (.tmp 24) (.tmp 25) 51 rfl w.heap.size 5 i0 Tryd.underlying51 HI5.out.1 HI5.out.2.1 HI5.out.2.2.1 HI5.out.2.2.2 v OL OL.length rfl rfl HH.out.1 (some ⟨wr.heap.size, 0, none⟩) 1 1 [43] rfl HH.out.2.1 HC.out.2.2 HH.out.2.2.1 ?_
          intro v5 W5 ho5 hg5
          have HF : Hid (t + 1 ≤ n ∧ Own 5 w.heap.size W5 v5 (escL (L.take (t + 1))) ∧ Below w.heap.size w W5) := ⟨HT.out, by rw [HC.out.2.1, HOL.out]; exact ho5, HH.out.2.2.2.grown hg5 HH.out.2.2.1 (fun j hj => own_lt HH.out.1 hj)⟩
          clear ho5 hg5
          go_wp2
          go_roundw
          case rel => exact ⟨t + 1, _, rfl, rfl, HF.out.1, HF.out.2.1, HF.out.2.2⟩
          case measure => show n - (t + 1) < n - t; have := HF.out.1; omega
        · have HXL : Hid (c.toNat < 256) := c.toNat_lt
          obtain ⟨X, hX⟩ : ∃ X, c.toNat = X := ⟨_, rfl⟩
          have n1 : ((X : Int) == 32) = false := by rw [beq_eq_false_iff_ne, ← hX]; exact fun h => h3 (UInt8.toNat_inj.1 (by show c.toNat = 32; omega))
          have heb : escB c = [37, digits.getD (X / 16) 0, digits.getD (X % 16) 0] := by unfold escB; rw [if_neg h3, if_neg h2, hX]
          obtain ⟨A, hA⟩ : ∃ A, A = X / 16 := ⟨_, rfl⟩
          obtain ⟨D, hD⟩ : ∃ D, D = X % 16 := ⟨_, rfl⟩
          rw [heb, ← hA, ← hD] at hst
          rw [hX] at h2' HXL
          have HP : Hid (plainI (X : Int) = false) := h2'
          have q2 : (X : Int) < 256 := by have := HXL.out; omega
          have hA1 : (X : Int) / 16 = (A : Int) := by omega
          have hB1 : (X : Int) % 16 = (D : Int) := by omega
          have hA4 : (X : Int).tdiv 16 = (A : Int) := by rw [Int.tdiv_eq_ediv_of_nonneg (by omega)]; omega
          have hB4 : (X : Int).tmod 16 = (D : Int) := by rw [Int.tmod_eq_emod_of_nonneg (by omega)]; omega
          have hA5 : IntKind.u8.wrap (A : Int) = (A : Int) := by rw [IntKind.wrap_u8]; have := HXL.out; omega
          have hA2 : A < 16 := by have := HXL.out; omega
          have hB2 : D < 16 := by omega
          have hA3 : (A : Int) < 16 := by omega
          have hB3 : (D : Int) < 16 := by omega
          have hg1 := digits_at A
          have hg2 := digits_at D
          generalize digits.getD A 0 = d1 at hg1 hst
          generalize digits.getD D 0 = d2 at hg2 hst
          have HC : Hid (c.toNat = X ∧ escL (L.take (t + 1)) = escL (L.take t) ++ [37, d1, d2] ∧ OL.length + 3 ≤ 140737488355328) := ⟨hX, hst, by omega⟩
          have hrp : ∀ W, Calls Tryd.prog 22 #[bv (X : Int)] W fun e w' => e = .returned (.bool false) ∧ W = w' := fun W => rplain_is (X : Int) W false HP.out
          have HRP : Hid (∀ W, Calls Tryd.prog 22 #[bv (X : Int)] W fun e w' => e = .returned (.bool false) ∧ W = w') := hrp
          clear h2 h2' heb hst hz3 hA hD h3 hX hrp
          go_wp2_with (with_reducible change wpList _ _ _ ({ dst := some 15, op := _, type := _, pos := _, after := _, guard := _ } :: _) _ _; refine Hid.out ?_)
          show wpList _ _ _ _ _ _
          refine wpList_idx rfl (.tmp 13) (.tmp 14) rfl s t c rfl rfl HCI.out ?_
          rw [HC.out.1]
          go_wp2_with fail
          refine (HRP.out wr).mono ?_
          rintro e W ⟨rfl, rfl⟩
          go_wp2_with fail
          have HI : Hid (In (wr.drew.alloc (.cells (U [37, d1, d2]).toArray 5)) (some ⟨wr.drew.heap.size, 0, none⟩) 3 3 [37, d1, d2]) := in_new wr.drew 5 [37, d1, d2] (by simp)
          have HO2 : Hid ((wr.drew.alloc (.cells (U [37, d1, d2]).toArray 5)).ownsRow w.heap.size 5 1 v OL.length (U OL)) := World.ownsRow.alloc (show wr.drew.ownsRow w.heap.size 5 1 v OL.length (U OL) from HO.out.1) _
          go_region_law (refine step_append_in _ (by rfl) (.tmp 27) (.tmp 36) 51 rfl w.heap.size 5 i0 Tryd.underlying51 HI5.out.1 HI5.out.2.1 HI5.out.2.2.1 HI5.out.2.2.2 v OL OL.length rfl rfl HO2.out (some ⟨wr.drew.heap.size, 0, none⟩) 3 3 [37, d1, d2] rfl HI.out HC.out.2.2 (by have := HO.out.2.size; simp; omega) ?_; intro v5 W5 ho5 hg5)
          all_goals
            have HF : Hid (t + 1 ≤ n ∧ Own 5 w.heap.size W5 v5 (escL (L.take (t + 1))) ∧ Below w.heap.size w W5) := ⟨HT.out, by rw [HC.out.2.1, HOL.out]; exact ho5, (below_tr HO.out.2 (below_tr (below_drew0 wr) (below_al wr.drew _))).grown hg5 (by have := HO.out.2.size; simp; omega) (fun j hj => own_lt HO.out.1 hj)⟩
            clear ho5 hg5
            go_wp2
            go_roundw
            case rel => exact ⟨t + 1, _, rfl, rfl, HF.out.1, HF.out.2.1, HF.out.2.2⟩
            case measure => show n - (t + 1) < n - t; have := HF.out.1; omega
#print axioms rescape_is
end Go.Proofs.YtlbcpbibcfolkaaDoor.Oct
