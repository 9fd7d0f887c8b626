/-
  Layer 7 (tree): the law TreeGone.
-/
import Derived.Test.YtnagknlfboadkaaGonePure
namespace Go.Proofs.Ytnagknlfboadkaa.Oct
open Go.RowKit

theorem wrap_u64_nonneg (t : Int) : 0 ≤ IntKind.u64.wrap t := by
  first
    | (rw [IntKind.wrap_u64]; omega)
    | (simp [IntKind.wrap, IntKind.bits, IntKind.signed]; omega)
theorem depth_nil {D : Nat} (h : DepthOk D ([] : List Pr).length) : D = 0 := by
  rcases h with ⟨h, _⟩ | ⟨_, h, _⟩
  · exact h
  · simp at h
theorem told_nil {w : World} {B : Nat} {u : Value} {k t : ByteArray} (h : w.ownsRow B 40 2 u (scanT k t []).length ((scanT k t []).flatMap pc)) : ∃ a c, u = .slice a 0 c := by
  rcases h.2 with ⟨e, _⟩ | ⟨g, cap, cur, e, _⟩
  · exact ⟨none, 0, e⟩
  · exact ⟨_, cap, e⟩

set_option maxRecDepth 100000 in
set_option maxHeartbeats 4000000 in
theorem gone_law (l : List ActV) (a : Option Addr) (len cap : Nat) (turn : Int) (w : World) (h : ArgA w a len cap l) :
    Calls Try.prog 6 #[.slice a len cap, .int .i64 turn] w fun e w' => e = .returned (.bool true) ∧ Below w.heap.size w w' := by
  have HA : Hid (ArgA w a len cap l) := h
  clear h
  go_enter Try.func6, Try.ntmps6
  go_wp2_with fail
  refine (few_is w a len cap l HA.out).mono ?_
  rintro e w1 ⟨b, rfl, HF, HB1⟩
  cases b with
  | false =>
    go_wp2_with (go_at_call 9; refine (lives_is w1).mono ?_; rintro e w2 ⟨rfl, HB2⟩)
    go_ret
    exact ⟨rfl, HB1.out.trans (HB2.out.mono HB1.out.size)⟩
  | true =>
    have HL : Hid (len ≤ 400 ∧ ∀ x ∈ l, x.key.size ≤ 100000) := HF.out rfl
    clear HF
    go_wp2_with (go_at_call 10; refine (new_is w1).mono ?_; rintro e w2 ⟨rfl, HM2, HB2⟩)
    have HW2 : Hid (Below w.heap.size w w2) := HB1.out.trans (HB2.out.mono HB1.out.size)
    have HMM : Hid (w.heap.size ≤ w1.heap.size) := HB1.out.size
    generalize w1.heap.size = m at *
    go_loopw [18, 6] (fun u lv wr => ∃ (i : Nat) (a' : Option Addr) (n' c' : Nat) (L' : List Pr), u = .int .i64 (i : Int) ∧ lv = .slice a' n' c' ∧ Hid (i ≤ len ∧ L'.length ≤ i * 60) ∧ Hid (Tr wr m L' ∧ RdP wr a' n' L' ∧ Cap a' n' c') ∧ Hid (Below w.heap.size w wr)) (fun u _ _ => len - (intOf u).toNat)
    case atStart => exact ⟨0, none, 0, 0, [], rfl, rfl, ⟨Nat.zero_le _, Nat.le_refl _⟩, ⟨.inl ⟨HM2.out, rfl⟩, ⟨rfl, fun h => absurd h (by omega)⟩, Nat.le_refl _, .inl ⟨rfl, rfl⟩⟩, HW2.out⟩
    case round =>
      obtain ⟨i, a', n', c', L', rfl, rfl, HI, HT, HB⟩ := hrel
      by_cases hi : i < len
      · obtain ⟨x, hx⟩ : ∃ x, l[i]? = some x := ⟨_, List.getElem?_eq_getElem (by rw [HA.out.1]; exact hi)⟩
        obtain ⟨bb, off, rfl, hbl, hat⟩ := HA.out.2.2.2 (by omega)
        obtain ⟨c0, c1, c2, c3, s1, s2⟩ := (hat i x hx)
        have d0 := (HB.out.cell (p := ⟨bb, off + i * 4, none⟩) hbl).trans c0
        have d1 := (HB.out.cell (p := ⟨bb, off + i * 4 + 1, none⟩) hbl).trans c1
        have d2 := (HB.out.cell (p := ⟨bb, off + i * 4 + 2, none⟩) hbl).trans c2
        have d3 := (HB.out.cell (p := ⟨bb, off + i * 4 + 3, none⟩) hbl).trans c3
        have HXL : Hid (i < len ∧ x.key.size ≤ 100000) := ⟨hi, HL.out.2 x (List.mem_of_getElem? hx)⟩
        have q1 : (i : Int) < (len : Int) := by omega
        have q5 : (len : Int) ≤ 400 := by have := HL.out.1; omega
        have HB3 : Hid (Below wr.heap.size wr (wr.alloc (.cells #[.int .i64 x.kind, .string x.key, .string x.val, .int .i64 x.n] 29))) := (Below.refl _ wr).alloc (Nat.le_refl _) _
        have HP : Hid (Calls Try.prog 14 #[.pointer (some ⟨m, 0, none⟩), .slice a' n' c', .agg #[.int .i64 x.kind, .string x.key, .string x.val, .int .i64 x.n]] (wr.alloc (.cells #[.int .i64 x.kind, .string x.key, .string x.val, .int .i64 x.n] 29)) (PlayP (wr.alloc (.cells #[.int .i64 x.kind, .string x.key, .string x.val, .int .i64 x.n] 29)) m L')) := play_is _ m a' n' c' L' x (HT.out.1.below HB3.out) (HT.out.2.1.below HB3.out (Nat.le_refl _)) HT.out.2.2 HXL.out.2 (by have := HI.out; have := HL.out.1; omega)
        have HB3w : Hid (Below w.heap.size w (wr.alloc (.cells #[.int .i64 x.kind, .string x.key, .string x.val, .int .i64 x.n] 29))) := HB.out.alloc HB.out.size _
        clear c0 c1 c2 c3 hat hx hi hbl s1 s2 HB3
        obtain ⟨kind, key, val, nn⟩ := x
        dsimp only at d0 d1 d2 d3 HP HB3w
        go_wp2_with (go_at_call 14; (with_reducible refine Calls.mono HP.out ?_); rintro e w4 ⟨a4, n4, c4, L4, rfl, HT4, HG4⟩; have HB4 : Hid (Below w.heap.size w w4) := below_grownBy HB3w.out HG4.out HMM.out (Nat.le_refl _); have HN4 : Hid (L4.length ≤ (i + 1) * 60) := (by have := HT4.out.2.2.2; have := HI.out; show _ ≤ _; omega))
        go_roundw
        case rel => exact ⟨i + 1, a4, n4, c4, L4, by simp, rfl, ⟨HXL.out.1, HN4.out⟩, ⟨HT4.out.1, HT4.out.2.1, HT4.out.2.2.1⟩, HB4.out⟩
        case measure => have := HXL.out; simp [intOf]; omega
      · have q1 : ¬ (i : Int) < (len : Int) := by omega
        obtain ⟨W0, hW0⟩ : ∃ W0, wr = W0 := ⟨_, rfl⟩
        subst hW0
        have hn' : n' = L'.length := HT.out.2.1.1.symm
        have h24 : L'.length ≤ 24000 := by
          have h1 := HI.out
          have h2 := HL.out.1
          omega
        have HQ : Hid (L'.length ≤ 24000 ∧ Ris L' ∧ n' = L'.length) := ⟨h24, HT.out.1.ris, hn'⟩
        clear h24
        clear hn'
        go_wp2
        obtain ⟨c, hc⟩ : ∃ c : Nat, n' ≠ 0 → (IntKind.u64.wrap turn).tmod (n' : Int) = (c : Int) ∧ c < n' := ⟨((IntKind.u64.wrap turn).tmod (n' : Int)).toNat, fun h0 => by
          have hU := wrap_u64_nonneg turn
          have h1 : 0 ≤ (IntKind.u64.wrap turn).tmod (n' : Int) := Int.tmod_nonneg _ hU
          have h2 := Int.tmod_lt_of_pos (IntKind.u64.wrap turn) (show (0 : Int) < (n' : Int) by omega)
          omega⟩
        have HCC : Hid (n' ≠ 0 → (IntKind.u64.wrap turn).tmod (n' : Int) = (c : Int) ∧ c < n') := hc
        clear hc
        go_loopw [32] (fun u wr => ∃ (i : Nat) (M : List Pr), u = .int .i64 (i : Int) ∧ Hid (i ≤ n' ∧ GInv L' c i M) ∧ Hid (Tr wr m M ∧ RdP wr a' n' L') ∧ Hid (Below w.heap.size w wr)) (fun u _ => n' - (intOf u).toNat)
        case atStart => exact ⟨0, L', rfl, ⟨Nat.zero_le _, ⟨HQ.out.2.1, rfl, fun j x _ _ hx => List.mem_of_getElem? hx⟩⟩, ⟨HT.out.1, HT.out.2.1⟩, HB.out⟩
        case round =>
          obtain ⟨j, M, rfl, HJ, HTM, HBR⟩ := hrel
          by_cases hj : j < n'
          · obtain ⟨x, hx⟩ : ∃ x, L'[(j + c) % L'.length]? = some x := ⟨_, List.getElem?_eq_getElem (Nat.mod_lt _ (by have := HQ.out.2.2; omega))⟩
            obtain ⟨hc, hcn⟩ := HCC.out (by omega)
            have hst := HJ.out.2.step HQ.out.2.1 (by have := HQ.out.2.2; omega) (by have := HQ.out.2.2; omega) hx
            obtain ⟨g, off, rfl, hg1, hc1⟩ := HTM.out.2.2 (by omega)
            have e0 := (hc1 _ x hx).1
            rw [← HQ.out.2.2] at e0
            have r1 : (j : Int) < (n' : Int) := by omega
            have r2 : (n' : Int) ≤ 24000 := by have := HQ.out; omega
            have r3 : (c : Int) < (n' : Int) := by omega
            obtain ⟨f, hf⟩ : ∃ f, (j + c) % n' = f := ⟨_, rfl⟩
            have hfm : ((j : Int) + (c : Int)).tmod (n' : Int) = (f : Int) := by
              rw [← hf, ← Int.natCast_add]; exact (Int.ofNat_tmod (j + c) n').symm
            have hfn : f < n' := by rw [← hf]; exact Nat.mod_lt _ (by omega)
            have r4 : (f : Int) < (n' : Int) := by omega
            rw [hf] at e0
            have HST : Hid (GInv L' c (j + 1) (remP M x.1) ∧ j < n' ∧ M.length ≤ 24000) := ⟨hst.1, hj, by have := HJ.out.2.len; have := HQ.out; omega⟩
            have H18 : Hid (Calls Try.prog 18 #[.pointer (some ⟨m, 0, none⟩), .string x.1] wr fun e w' => e = .returned (.bool true) ∧ Hid (Tr w' m (remP M x.1)) ∧ Hid (wr.grownBy w' (some m))) := by
              have := tdel wr m M x.1 HTM.out.1 (by have := HST.out; omega)
              rw [hst.2.1] at this
              exact this
            have H18b : Hid (∀ W, Tr W m (remP M x.1) → Calls Try.prog 18 #[.pointer (some ⟨m, 0, none⟩), .string x.1] W fun e w' => e = .returned (.bool false) ∧ Hid (Tr w' m (remP M x.1)) ∧ Hid (W.grownBy w' (some m))) := fun W hW => by
              have := tdel W m (remP M x.1) x.1 hW (by have := rem_most HJ.out.2.ris x.1; have := HST.out; omega)
              rw [hst.2.2, rem_no hW.ris x.1 (List.isEmpty_iff.1 hst.2.2)] at this
              exact this
            have HLN : Hid ((remP M x.1).length + (j + 1) = n') := by
              have := hst.1.len
              have := HQ.out.2.2
              show _ = _
              omega
            clear hc1 hx hg1 hst hf hfn hcn hj
            obtain ⟨x1, x2⟩ := x
            dsimp only at e0 H18 H18b HLN HST
            obtain ⟨M', hM'⟩ : ∃ M', remP M x1 = M' := ⟨_, rfl⟩
            rw [hM'] at H18 H18b HLN HST
            obtain ⟨q, hq⟩ : ∃ q, M'.length = q := ⟨_, rfl⟩
            rw [hq] at HLN
            have HQL : Hid (M'.length = q) := hq
            have r5 : (n' : Int) - 1 - (j : Int) = (q : Int) := by have := HLN.out; omega
            clear hM' hq
            go_wp2_with (first
              | (go_at_call 18; (with_reducible refine Calls.mono H18.out ?_); rintro e w5 ⟨rfl, HT5, HG5⟩)
              | (go_at_call 18; refine (H18b.out w5 HT5.out).mono ?_; rintro e w6 ⟨rfl, HT6, HG6⟩)
              | (go_at_call 15; refine (tlen w6 m M' HT6.out).mono ?_; rintro e w7 ⟨rfl, rfl⟩; rw [HQL.out]))
            go_roundw
            case rel => exact ⟨j + 1, M', by simp, ⟨HST.out.2.1, HST.out.1⟩, ⟨HT6.out, (HTM.out.2.oth HG5.out HTM.out.1.oth).oth HG6.out HT5.out.oth⟩, below_grownBy (below_grownBy HBR.out HG5.out HMM.out (Nat.le_refl _)) HG6.out HMM.out (Nat.le_refl _)⟩
            case measure => have := HST.out; simp [intOf]; omega
          · have r1 : ¬ (j : Int) < (n' : Int) := by omega
            have hM0 : M = [] := List.eq_nil_of_length_eq_zero (by have := HJ.out.2.len; have := HQ.out.2.2; omega)
            subst hM0
            have HZ : Hid (Tr wr m []) := HTM.out.1
            clear hj
            go_wp2_with (first
              | (go_at_call 9; refine (lives_is w8).mono ?_; rintro e w9 ⟨rfl, HB9⟩)
              | (go_at_call 15; refine (tlen w8 m _ HT8.out).mono ?_; rintro e w7 ⟨rfl, rfl⟩)
              | (go_at_call 19; refine (tput w7 m [] (⟨#[97]⟩, ⟨#[98]⟩) (HZ.out.below HB7.out) (by simp)).mono ?_; rintro e w8 ⟨rfl, HT8, HG8⟩)
              | (go_at_call 13; refine (told_all wr m [] _ _ HZ.out (by simp)).mono ?_; rintro e w7 ⟨u, rfl, HO7, HB7⟩; obtain ⟨a7, c7, rfl⟩ := told_nil HO7.out)
              | (go_at_call 20; refine (tdepth wr m [] HZ.out (by simp)).mono ?_; rintro e w7 ⟨D, rfl, HD, rfl⟩; have hD := depth_nil HD.out; subst hD)
              | (go_at_call 15; refine (tlen wr m [] HZ.out).mono ?_; rintro e w7 ⟨rfl, rfl⟩))
            go_ret
            exact ⟨rfl, (below_grownBy (HBR.out.trans (HB7.out.mono HBR.out.size)) HG8.out HMM.out (Nat.le_refl _)).trans (HB9.out.mono (Nat.le_trans (HBR.out.trans (HB7.out.mono HBR.out.size)).size HG8.out.size))⟩
#print axioms gone_law
end Go.Proofs.Ytnagknlfboadkaa.Oct
