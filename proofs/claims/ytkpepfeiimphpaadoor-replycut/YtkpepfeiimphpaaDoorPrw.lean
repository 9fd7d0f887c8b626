/-
  Layer 24 (reply): Print of both, for texts of any size.
-/
import Derived.Test.YtkpepfeiimphpaaDoorRdp
namespace Go.Proofs.YtkpepfeiimphpaaDoor.Oct
open Go.RowKit
set_option linter.unusedSimpArgs false
set_option linter.unusedVariables false

set_option maxRecDepth 100000 in
set_option maxHeartbeats 4000000 in
theorem print_w (st : Int) (ty bo : BA) (cl : Bool) (w : World) (hp : PT w) (hty : ty.size ≤ 140737488355328) (hbo : bo.size ≤ 140737488355328) : Calls Tryd.prog 8 #[.agg #[iv st, .string ty, .string bo, .bool cl]] w fun e w' => ∃ s : BA, e = .returned (.tuple #[.string s, iv (prL st ty bo cl).2]) ∧ Hid (s.data.toList = (prL st ty bo cl).1) ∧ Below w.heap.size w w' := by
  obtain ⟨b, hb⟩ : ∃ b, w.heap.size = b := ⟨_, rfl⟩
  obtain ⟨A, hA⟩ : ∃ A, w.alloc (.cells #[iv st, .string ty, .string bo, .bool cl] 23) = A := ⟨_, rfl⟩
  have hB : Below w.heap.size w A := by rw [← hA]; exact below_al _ _
  have h2 : Blk A b 23 [iv st, .string ty, .string bo, .bool cl] := by rw [← hA, ← hb]; exact Blk.new w _ _
  have HA : Hid (Below w.heap.size w A ∧ Blk A b 23 [iv st, .string ty, .string bo, .bool cl] ∧ PT A) := ⟨hB, h2, hp.below hB⟩
  have HSZ : Hid (ty.size ≤ 140737488355328 ∧ bo.size ≤ 140737488355328) := ⟨hty, hbo⟩
  have c0 : A.cell? ⟨b, 0, none⟩ = some (iv st) := h2.cell rfl
  have c1 : A.cell? ⟨b, 1, none⟩ = some (.string ty) := h2.cell rfl
  have c2 : A.cell? ⟨b, 2, none⟩ = some (.string bo) := h2.cell rfl
  obtain ⟨q, hq⟩ : ∃ q, prL st ty bo cl = q := ⟨_, rfl⟩
  have HQ : Hid (prL st ty bo cl = q) := hq
  rw [hq]
  obtain ⟨n, hn⟩ : ∃ n, bo.size = n := ⟨_, rfl⟩
  have HN : Hid (bo.size = n ∧ n ≤ 140737488355328) := ⟨hn, by omega⟩
  have qn : (n : Int) ≤ 140737488355328 := by omega
  obtain ⟨tb, htb⟩ : ∃ t, typB ty.data.toList = t := ⟨_, rfl⟩
  have HTB : Hid (typB ty.data.toList = tb) := htb
  clear hp hty hbo hB h2 hq htb
  by_cases h100 : st < 100
  · have HF : Hid (q = ([], 2)) := by show _ = _; rw [← HQ.out]; unfold prL; rw [if_pos (.inl h100)]
    go_enter Tryd.func8, Tryd.ntmps8
    go_wp2
    go_ret2
    exact ⟨⟨#[]⟩, by rw [HF.out]; rfl, by show _ = _; rw [HF.out], HA.out.1⟩
  · have q100 : (100 : Int) ≤ st := by omega
    have d100 : decide (st < 100) = false := decide_eq_false h100
    by_cases h999 : 999 < st
    · have HF : Hid (q = ([], 2)) := by show _ = _; rw [← HQ.out]; unfold prL; rw [if_pos (.inr (.inl h999))]
      clear h100
      go_enter Tryd.func8, Tryd.ntmps8
      go_wp2
      go_ret2
      exact ⟨⟨#[]⟩, by rw [HF.out]; rfl, by show _ = _; rw [HF.out], HA.out.1⟩
    · have q999 : st ≤ 999 := by omega
      have d999 : decide (999 < st) = false := decide_eq_false h999
      have HST : Hid (100 ≤ st ∧ st ≤ 999) := ⟨q100, q999⟩
      have HT := isType_is ty (by have := HSZ.out.1; omega) A
      rw [HTB.out] at HT
      clear h100 h999
      go_enter Tryd.func8, Tryd.ntmps8
      go_wp2_with fail
      refine HT.mono ?_
      rintro e W ⟨rfl, rfl⟩
      clear HT hA hb
      cases tb
      · have HF : Hid (q = ([], 2)) := by show _ = _; rw [← HQ.out]; unfold prL; rw [if_pos (.inr (.inr HTB.out))]
        go_wp2
        go_ret2
        exact ⟨⟨#[]⟩, by rw [HF.out]; rfl, by show _ = _; rw [HF.out], HA.out.1⟩
      · by_cases h64 : (65536 : Int) < (n : Int)
        · have HF : Hid (q = ([], 3)) := by
            show _ = _
            have := HST.out
            rw [← HQ.out]; unfold prL; rw [if_neg (by rw [HTB.out]; rintro (h | h | h); omega; omega; cases h), if_pos (by rw [HN.out.1]; omega)]
          go_wp2
          go_ret2
          exact ⟨⟨#[]⟩, by rw [HF.out]; rfl, by show _ = _; rw [HF.out], HA.out.1⟩
        · have q64 : (n : Int) ≤ 65536 := by omega
          have HB6 : Hid (bo.size ≤ 65536) := by show _ ≤ _; rw [HN.out.1]; omega
          have HTS : Hid (ty.size ≤ 64) := by
            have := HTB.out
            unfold typB at this
            simp only [Bool.and_eq_true, decide_eq_true_eq] at this
            exact this.1.1.1
          obtain ⟨k, hk⟩ : ∃ k : Nat, st = (k : Int) := ⟨st.toNat, by have := HST.out; omega⟩
          have HF : Hid (q = (headL k ty.data.toList bo.size cl ++ bo.data.toList, 0)) := by
            show _ = _
            have := HST.out
            rw [← HQ.out]; unfold prL; rw [if_neg (by rw [HTB.out]; rintro (h | h | h); omega; omega; cases h), if_neg (by rw [HN.out.1]; omega), hk]
            rfl
          have HK9 : Hid (k ≤ 999) := by show _ ≤ _; have := HST.out; omega
          subst hk
          clear h64 d100 d999
          have HHD : Hid (∀ V, Below A.heap.size A V → Calls Tryd.prog 15 #[.agg #[iv (k : Int), .string ty, .string bo, .bool cl]] V fun e V2 => ∃ s : BA, e = .returned (.string s) ∧ Hid (s.data.toList = headL k ty.data.toList bo.size cl ∧ s.size ≤ 90000) ∧ Below V.heap.size V V2) := fun V hV => headOf_is k ty bo cl V (HA.out.2.2.below hV) HK9.out HTS.out HB6.out
          have HB : Hid (Blk A b 23 [iv (k : Int), .string ty, .string bo, .bool cl]) := HA.out.2.1
          go_wp2_with fail
          refine pr5 HB HB6 HHD ?_
          intro V1 s hs hb1
          have HE : Hid ((s ++ bo).data.toList = q.1 ∧ Below w.heap.size w V1) := by
            refine ⟨?_, below_tr HA.out.1 hb1⟩
            rw [HF.out, ByteArray.data_append, Array.toList_append, hs.out.1]
          clear hs hb1 HHD HB
          go_wp2
          go_ret2
          exact ⟨s ++ bo, by rw [HF.out]; rfl, HE.out.1, HE.out.2⟩
#print axioms print_w
set_option maxRecDepth 100000 in
set_option maxHeartbeats 4000000 in
theorem rprint_w (st : Int) (ty bo : BA) (cl : Bool) (w : World) (hp : PT w) (hty : ty.size ≤ 140737488355328) (hbo : bo.size ≤ 140737488355328) : Calls Tryd.prog 9 #[.agg #[iv st, .string ty, .string bo, .bool cl]] w fun e w' => ∃ s : BA, e = .returned (.tuple #[.string s, iv (prL st ty bo cl).2]) ∧ Hid (s.data.toList = (prL st ty bo cl).1) ∧ Below w.heap.size w w' := by
  obtain ⟨b, hb⟩ : ∃ b, w.heap.size = b := ⟨_, rfl⟩
  obtain ⟨A, hA⟩ : ∃ A, w.alloc (.cells #[iv st, .string ty, .string bo, .bool cl] 23) = A := ⟨_, rfl⟩
  have hB : Below w.heap.size w A := by rw [← hA]; exact below_al _ _
  have h2 : Blk A b 23 [iv st, .string ty, .string bo, .bool cl] := by rw [← hA, ← hb]; exact Blk.new w _ _
  have HA : Hid (Below w.heap.size w A ∧ Blk A b 23 [iv st, .string ty, .string bo, .bool cl] ∧ PT A) := ⟨hB, h2, hp.below hB⟩
  have HSZ : Hid (ty.size ≤ 140737488355328 ∧ bo.size ≤ 140737488355328) := ⟨hty, hbo⟩
  have c0 : A.cell? ⟨b, 0, none⟩ = some (iv st) := h2.cell rfl
  have c1 : A.cell? ⟨b, 1, none⟩ = some (.string ty) := h2.cell rfl
  have c2 : A.cell? ⟨b, 2, none⟩ = some (.string bo) := h2.cell rfl
  obtain ⟨q, hq⟩ : ∃ q, prL st ty bo cl = q := ⟨_, rfl⟩
  have HQ : Hid (prL st ty bo cl = q) := hq
  rw [hq]
  obtain ⟨n, hn⟩ : ∃ n, bo.size = n := ⟨_, rfl⟩
  have HN : Hid (bo.size = n ∧ n ≤ 140737488355328) := ⟨hn, by omega⟩
  have qn : (n : Int) ≤ 140737488355328 := by omega
  obtain ⟨tb, htb⟩ : ∃ t, typB ty.data.toList = t := ⟨_, rfl⟩
  have HTB : Hid (typB ty.data.toList = tb) := htb
  clear hp hty hbo hB h2 hq htb
  by_cases h100 : st < 100
  · have HF : Hid (q = ([], 2)) := by show _ = _; rw [← HQ.out]; unfold prL; rw [if_pos (.inl h100)]
    go_enter Tryd.func9, Tryd.ntmps9
    go_wp2
    go_ret2
    exact ⟨⟨#[]⟩, by rw [HF.out]; rfl, by show _ = _; rw [HF.out], HA.out.1⟩
  · have q100 : (100 : Int) ≤ st := by omega
    have d100 : decide (st < 100) = false := decide_eq_false h100
    by_cases h999 : 999 < st
    · have HF : Hid (q = ([], 2)) := by show _ = _; rw [← HQ.out]; unfold prL; rw [if_pos (.inr (.inl h999))]
      clear h100
      go_enter Tryd.func9, Tryd.ntmps9
      go_wp2
      go_ret2
      exact ⟨⟨#[]⟩, by rw [HF.out]; rfl, by show _ = _; rw [HF.out], HA.out.1⟩
    · have q999 : st ≤ 999 := by omega
      have d999 : decide (999 < st) = false := decide_eq_false h999
      have HST : Hid (100 ≤ st ∧ st ≤ 999) := ⟨q100, q999⟩
      have HT := typed_is ty (by have := HSZ.out.1; omega) A
      rw [HTB.out] at HT
      clear h100 h999
      go_enter Tryd.func9, Tryd.ntmps9
      go_wp2_with fail
      refine HT.mono ?_
      rintro e W ⟨rfl, rfl⟩
      clear HT hA hb
      cases tb
      · have HF : Hid (q = ([], 2)) := by show _ = _; rw [← HQ.out]; unfold prL; rw [if_pos (.inr (.inr HTB.out))]
        go_wp2
        go_ret2
        exact ⟨⟨#[]⟩, by rw [HF.out]; rfl, by show _ = _; rw [HF.out], HA.out.1⟩
      · by_cases h64 : (65536 : Int) < (n : Int)
        · have HF : Hid (q = ([], 3)) := by
            show _ = _
            have := HST.out
            rw [← HQ.out]; unfold prL; rw [if_neg (by rw [HTB.out]; rintro (h | h | h); omega; omega; cases h), if_pos (by rw [HN.out.1]; omega)]
          go_wp2
          go_ret2
          exact ⟨⟨#[]⟩, by rw [HF.out]; rfl, by show _ = _; rw [HF.out], HA.out.1⟩
        · have q64 : (n : Int) ≤ 65536 := by omega
          have HB6 : Hid (bo.size ≤ 65536) := by show _ ≤ _; rw [HN.out.1]; omega
          have HTS : Hid (ty.size ≤ 64) := by
            have := HTB.out
            unfold typB at this
            simp only [Bool.and_eq_true, decide_eq_true_eq] at this
            exact this.1.1.1
          obtain ⟨k, hk⟩ : ∃ k : Nat, st = (k : Int) := ⟨st.toNat, by have := HST.out; omega⟩
          have HF : Hid (q = (headL k ty.data.toList bo.size cl ++ bo.data.toList, 0)) := by
            show _ = _
            have := HST.out
            rw [← HQ.out]; unfold prL; rw [if_neg (by rw [HTB.out]; rintro (h | h | h); omega; omega; cases h), if_neg (by rw [HN.out.1]; omega), hk]
            rfl
          have HK9 : Hid (k ≤ 999) := by show _ ≤ _; have := HST.out; omega
          subst hk
          clear h64 d100 d999
          have HTX := text_is k ty bo cl A HA.out.2.2 HK9.out HTS.out HB6.out
          go_wp2_with (with_reducible change wpList _ _ _ ({ dst := some 22, op := _, type := _, pos := _, after := _, guard := _ } :: _) _ _; refine Hid.out ?_)
          show wpList _ _ _ _ _ _
          refine wpList_load_row rfl 23 (.tmp 1) rfl b rfl 23 #[iv (k : Int), .string ty, .string bo, .bool cl] (0, 0) _ HA.out.2.1 Tryd.underlying23 rfl size23 ?_
          simp only [Act.put, List.setIfInBounds_toArray, List.set_cons_zero, List.set_cons_succ]
          go_wp2_with fail
          refine HTX.mono ?_
          rintro e V1 ⟨s, rfl, hs, hb1⟩
          have HE : Hid (s.data.toList = q.1 ∧ Below w.heap.size w V1) := ⟨by rw [HF.out, hs.out.1], below_tr HA.out.1 hb1⟩
          clear hs hb1 HTX
          go_wp2
          go_ret2
          exact ⟨s, by rw [HF.out]; rfl, HE.out.1, HE.out.2⟩
#print axioms rprint_w
end Go.Proofs.YtkpepfeiimphpaaDoor.Oct
