/-
  Layer 7 (tree): the law TreeShallow.
-/
import Derived.Test.YtnagknlfboadkaaFew
namespace Go.Proofs.Ytnagknlfboadkaa.Oct
open Go.RowKit

theorem below_grownBy {B m : Nat} {w a b : World} (h : Below B w a) (hg : a.grownBy b (some m)) (hm : B ≤ m) (hB : B ≤ w.heap.size) : Below B w b :=
  ⟨hg.os.trans h.os, hg.tape.trans h.tape, hg.output.trans h.output, Nat.le_trans h.size hg.size, fun k hk => (hg.block k (Nat.lt_of_lt_of_le hk (Nat.le_trans hB h.size)) (by simp; omega)).trans (h.block k hk)⟩
/-- the depths that so many keys may have -/
theorem depths {D n : Nat} (h : DepthOk D n) (hn : n ≤ 24000) : (D = 0 ∧ n = 0) ∨ (D = 1 ∧ 1 ≤ n ∧ n ≤ 7) ∨ (D = 2 ∧ 7 ≤ n ∧ n ≤ 63) ∨ (D = 3 ∧ 31 ≤ n ∧ n ≤ 511) ∨ (D = 4 ∧ 127 ≤ n ∧ n ≤ 4095) ∨ (D = 5 ∧ 511 ≤ n ∧ n ≤ 32767) ∨ (D = 6 ∧ 2047 ≤ n ∧ n ≤ 262143) ∨ (D = 7 ∧ 8191 ≤ n ∧ n ≤ 2097151) := by
  rcases h with ⟨h1, h2⟩ | ⟨h1, h2, h3, h4⟩
  · exact .inl ⟨h1, h2⟩
  · have hD : D ≤ 7 := by
      refine Nat.le_of_not_lt fun hc => ?_
      have : 4 ^ 7 ≤ 4 ^ (D - 1) := Nat.pow_le_pow_right (by omega) (by omega)
      have e : (4 : Nat) ^ 7 = 16384 := by decide
      omega
    have hc : D = 1 ∨ D = 2 ∨ D = 3 ∨ D = 4 ∨ D = 5 ∨ D = 6 ∨ D = 7 := by omega
    rcases hc with rfl | rfl | rfl | rfl | rfl | rfl | rfl <;> simp at h3 h4 <;> omega
#print axioms depths

set_option maxRecDepth 100000 in
set_option maxHeartbeats 4000000 in
theorem shallow_law (l : List ActV) (a : Option Addr) (len cap : Nat) (w : World) (h : ArgA w a len cap l) :
    Calls Try.prog 5 #[.slice a len cap] w fun e w' => e = .returned (.bool true) ∧ Below w.heap.size w w' := by
  have HA : Hid (ArgA w a len cap l) := h
  clear h
  go_enter Try.func5, Try.ntmps5
  go_wp2_with fail
  refine (few_is w a len cap l HA.out).mono ?_
  rintro e w1 ⟨b, rfl, HF, HB1⟩
  cases b with
  | false =>
    go_wp2_with (go_at_call 9; refine (lives_is w1).mono ?_; rintro e w2 ⟨rfl, HB2⟩)
    go_ret
    exact ⟨rfl, HB1.out.trans (HB2.out.mono HB1.out.size)⟩
  | true =>
    have HL : Hid (len ≤ 400 ∧ ∀ x ∈ l, x.key.size ≤ 100000) := HF.out rfl
    clear HF
    go_wp2_with (go_at_call 10; refine (new_is w1).mono ?_; rintro e w2 ⟨rfl, HM2, HB2⟩)
    have HW2 : Hid (Below w.heap.size w w2) := HB1.out.trans (HB2.out.mono HB1.out.size)
    have HMM : Hid (w.heap.size ≤ w1.heap.size) := HB1.out.size
    generalize w1.heap.size = m at *
    go_loopw [16, 4] (fun u lv wr => ∃ (i : Nat) (a' : Option Addr) (n' c' : Nat) (L' : List Pr), u = .int .i64 (i : Int) ∧ lv = .slice a' n' c' ∧ Hid (i ≤ len ∧ L'.length ≤ i * 60) ∧ Hid (Tr wr m L' ∧ RdP wr a' n' L' ∧ Cap a' n' c') ∧ Hid (Below w.heap.size w wr)) (fun u _ _ => len - (intOf u).toNat)
    case atStart => exact ⟨0, none, 0, 0, [], rfl, rfl, ⟨Nat.zero_le _, Nat.le_refl _⟩, ⟨.inl ⟨HM2.out, rfl⟩, ⟨rfl, fun h => absurd h (by omega)⟩, Nat.le_refl _, .inl ⟨rfl, rfl⟩⟩, HW2.out⟩
    case round =>
      obtain ⟨i, a', n', c', L', rfl, rfl, HI, HT, HB⟩ := hrel
      by_cases hi : i < len
      · obtain ⟨x, hx⟩ : ∃ x, l[i]? = some x := ⟨_, List.getElem?_eq_getElem (by rw [HA.out.1]; exact hi)⟩
        obtain ⟨bb, off, rfl, hbl, hat⟩ := HA.out.2.2.2 (by omega)
        obtain ⟨c0, c1, c2, c3, s1, s2⟩ := (hat i x hx)
        have d0 := (HB.out.cell (p := ⟨bb, off + i * 4, none⟩) hbl).trans c0
        have d1 := (HB.out.cell (p := ⟨bb, off + i * 4 + 1, none⟩) hbl).trans c1
        have d2 := (HB.out.cell (p := ⟨bb, off + i * 4 + 2, none⟩) hbl).trans c2
        have d3 := (HB.out.cell (p := ⟨bb, off + i * 4 + 3, none⟩) hbl).trans c3
        have HXL : Hid (i < len ∧ x.key.size ≤ 100000) := ⟨hi, HL.out.2 x (List.mem_of_getElem? hx)⟩
        have q1 : (i : Int) < (len : Int) := by omega
        have q5 : (len : Int) ≤ 400 := by have := HL.out.1; omega
        have HB3 : Hid (Below wr.heap.size wr (wr.alloc (.cells #[.int .i64 x.kind, .string x.key, .string x.val, .int .i64 x.n] 29))) := (Below.refl _ wr).alloc (Nat.le_refl _) _
        have HP : Hid (Calls Try.prog 14 #[.pointer (some ⟨m, 0, none⟩), .slice a' n' c', .agg #[.int .i64 x.kind, .string x.key, .string x.val, .int .i64 x.n]] (wr.alloc (.cells #[.int .i64 x.kind, .string x.key, .string x.val, .int .i64 x.n] 29)) (PlayP (wr.alloc (.cells #[.int .i64 x.kind, .string x.key, .string x.val, .int .i64 x.n] 29)) m L')) := play_is _ m a' n' c' L' x (HT.out.1.below HB3.out) (HT.out.2.1.below HB3.out (Nat.le_refl _)) HT.out.2.2 HXL.out.2 (by have := HI.out; have := HL.out.1; omega)
        have HB3w : Hid (Below w.heap.size w (wr.alloc (.cells #[.int .i64 x.kind, .string x.key, .string x.val, .int .i64 x.n] 29))) := HB.out.alloc HB.out.size _
        clear c0 c1 c2 c3 hat hx hi hbl s1 s2 HB3
        obtain ⟨kind, key, val, nn⟩ := x
        dsimp only at d0 d1 d2 d3 HP HB3w
        go_wp2_with (first
          | (go_at_call 14; (with_reducible refine Calls.mono HP.out ?_); rintro e w4 ⟨a4, n4, c4, L4, rfl, HT4, HG4⟩; have HB4 : Hid (Below w.heap.size w w4) := below_grownBy HB3w.out HG4.out HMM.out (Nat.le_refl _); have HN4 : Hid (n4 = L4.length ∧ L4.length ≤ 24000 ∧ L4.length ≤ (i + 1) * 60) := ⟨HT4.out.2.1.1.symm, (by have := HT4.out.2.2.2; have := HI.out; have := HXL.out; have := HL.out.1; omega), (by have := HT4.out.2.2.2; have := HI.out; omega)⟩)
          | (go_at_call 15; refine (tlen w4 m L4 HT4.out.1).mono ?_; rintro e w5 ⟨rfl, rfl⟩)
          | fail)
        refine (tdepth w4 m L4 HT4.out.1 (by have := HN4.out; omega)).mono ?_
        rintro e w5 ⟨D, rfl, HD, rfl⟩
        have hds := depths HD.out HN4.out.2.1
        have hn4 := HN4.out.1
        generalize hNN : L4.length = NN at hds hn4 ⊢
        subst hn4
        clear HD d0 d1 d2 d3 HP
        rcases hds with ⟨rfl, hn0⟩ | ⟨rfl, p1, p2⟩ | ⟨rfl, p1, p2⟩ | ⟨rfl, p1, p2⟩ | ⟨rfl, p1, p2⟩ | ⟨rfl, p1, p2⟩ | ⟨rfl, p1, p2⟩ | ⟨rfl, p1, p2⟩
        · subst hn0
          go_wp2
          go_roundw
          case rel => exact ⟨i + 1, a4, _, c4, L4, by simp, rfl, ⟨HXL.out.1, HN4.out.2.2⟩, ⟨HT4.out.1, HT4.out.2.1, HT4.out.2.2.1⟩, HB4.out⟩
          case measure => have := HXL.out; simp [intOf]; omega
        · have r1 : (1 : Int) ≤ (n4 : Int) := by omega
          have r2 : (n4 : Int) ≤ 7 := by omega
          have r3 : ¬ (n4 : Int) = 0 := by omega
          have r4 : ¬ n4 = 0 := by omega
          go_wp2
          go_roundw
          case rel => exact ⟨i + 1, a4, _, c4, L4, by simp, rfl, ⟨HXL.out.1, HN4.out.2.2⟩, ⟨HT4.out.1, HT4.out.2.1, HT4.out.2.2.1⟩, HB4.out⟩
          case measure => have := HXL.out; simp [intOf]; omega
        · have r1 : (7 : Int) ≤ (n4 : Int) := by omega
          have r2 : (n4 : Int) ≤ 63 := by omega
          have r3 : ¬ (n4 : Int) = 0 := by omega
          have r4 : ¬ n4 = 0 := by omega
          go_wp2
          go_roundw
          case rel => exact ⟨i + 1, a4, _, c4, L4, by simp, rfl, ⟨HXL.out.1, HN4.out.2.2⟩, ⟨HT4.out.1, HT4.out.2.1, HT4.out.2.2.1⟩, HB4.out⟩
          case measure => have := HXL.out; simp [intOf]; omega
        · have r1 : (31 : Int) ≤ (n4 : Int) := by omega
          have r2 : (n4 : Int) ≤ 511 := by omega
          have r3 : ¬ (n4 : Int) = 0 := by omega
          have r4 : ¬ n4 = 0 := by omega
          go_wp2
          go_roundw
          case rel => exact ⟨i + 1, a4, _, c4, L4, by simp, rfl, ⟨HXL.out.1, HN4.out.2.2⟩, ⟨HT4.out.1, HT4.out.2.1, HT4.out.2.2.1⟩, HB4.out⟩
          case measure => have := HXL.out; simp [intOf]; omega
        · have r1 : (127 : Int) ≤ (n4 : Int) := by omega
          have r2 : (n4 : Int) ≤ 4095 := by omega
          have r3 : ¬ (n4 : Int) = 0 := by omega
          have r4 : ¬ n4 = 0 := by omega
          go_wp2
          go_roundw
          case rel => exact ⟨i + 1, a4, _, c4, L4, by simp, rfl, ⟨HXL.out.1, HN4.out.2.2⟩, ⟨HT4.out.1, HT4.out.2.1, HT4.out.2.2.1⟩, HB4.out⟩
          case measure => have := HXL.out; simp [intOf]; omega
        · have r1 : (511 : Int) ≤ (n4 : Int) := by omega
          have r2 : (n4 : Int) ≤ 32767 := by omega
          have r3 : ¬ (n4 : Int) = 0 := by omega
          have r4 : ¬ n4 = 0 := by omega
          go_wp2
          go_roundw
          case rel => exact ⟨i + 1, a4, _, c4, L4, by simp, rfl, ⟨HXL.out.1, HN4.out.2.2⟩, ⟨HT4.out.1, HT4.out.2.1, HT4.out.2.2.1⟩, HB4.out⟩
          case measure => have := HXL.out; simp [intOf]; omega
        · have r1 : (2047 : Int) ≤ (n4 : Int) := by omega
          have r2 : (n4 : Int) ≤ 262143 := by omega
          have r3 : ¬ (n4 : Int) = 0 := by omega
          have r4 : ¬ n4 = 0 := by omega
          go_wp2
          go_roundw
          case rel => exact ⟨i + 1, a4, _, c4, L4, by simp, rfl, ⟨HXL.out.1, HN4.out.2.2⟩, ⟨HT4.out.1, HT4.out.2.1, HT4.out.2.2.1⟩, HB4.out⟩
          case measure => have := HXL.out; simp [intOf]; omega
        · have r1 : (8191 : Int) ≤ (n4 : Int) := by omega
          have r2 : (n4 : Int) ≤ 2097151 := by omega
          have r3 : ¬ (n4 : Int) = 0 := by omega
          have r4 : ¬ n4 = 0 := by omega
          go_wp2
          go_roundw
          case rel => exact ⟨i + 1, a4, _, c4, L4, by simp, rfl, ⟨HXL.out.1, HN4.out.2.2⟩, ⟨HT4.out.1, HT4.out.2.1, HT4.out.2.2.1⟩, HB4.out⟩
          case measure => have := HXL.out; simp [intOf]; omega
      · have q1 : ¬ (i : Int) < (len : Int) := by omega
        go_wp2_with (go_at_call 9; refine (lives_is wr).mono ?_; rintro e w5 ⟨rfl, HB5⟩)
        go_ret
        exact ⟨rfl, HB.out.trans (HB5.out.mono HB.out.size)⟩
#print axioms shallow_law
end Go.Proofs.Ytnagknlfboadkaa.Oct
