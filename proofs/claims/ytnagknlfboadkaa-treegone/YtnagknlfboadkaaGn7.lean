/-
  Layer 7 (tree): the law TreeShallow.
  Layer 7 (tree): what is left behind deletions.
  Layer 7 (tree): the law TreeGone.
-/
import Derived.Test.YtnagknlfboadkaaGn6
/- Layer 7 (tree): the law TreeShallow. -/
namespace Go.Proofs.Ytnagknlfboadkaa.Oct
open Go.RowKit

theorem below_grownBy {B m : Nat} {w a b : World} (h : Below B w a) (hg : a.grownBy b (some m)) (hm : B ≤ m) (hB : B ≤ w.heap.size) : Below B w b :=
  ⟨hg.os.trans h.os, hg.tape.trans h.tape, hg.output.trans h.output, Nat.le_trans h.size hg.size, fun k hk => (hg.block k (Nat.lt_of_lt_of_le hk (Nat.le_trans hB h.size)) (by simp; omega)).trans (h.block k hk)⟩
/-- the depths that so many keys may have -/
theorem depths {D n : Nat} (h : DepthOk D n) (hn : n ≤ 24000) : (D = 0 ∧ n = 0) ∨ (D = 1 ∧ 1 ≤ n ∧ n ≤ 7) ∨ (D = 2 ∧ 7 ≤ n ∧ n ≤ 63) ∨ (D = 3 ∧ 31 ≤ n ∧ n ≤ 511) ∨ (D = 4 ∧ 127 ≤ n ∧ n ≤ 4095) ∨ (D = 5 ∧ 511 ≤ n ∧ n ≤ 32767) ∨ (D = 6 ∧ 2047 ≤ n ∧ n ≤ 262143) ∨ (D = 7 ∧ 8191 ≤ n ∧ n ≤ 2097151) := by
  rcases h with ⟨h1, h2⟩ | ⟨h1, h2, h3, h4⟩
  · exact .inl ⟨h1, h2⟩
  · have hD : D ≤ 7 := by
      refine Nat.le_of_not_lt fun hc => ?_
      have : 4 ^ 7 ≤ 4 ^ (D - 1) := Nat.pow_le_pow_right (by omega) (by omega)
      have e : (4 : Nat) ^ 7 = 16384 := by decide
      omega
    have hc : D = 1 ∨ D = 2 ∨ D = 3 ∨ D = 4 ∨ D = 5 ∨ D = 6 ∨ D = 7 := by omega
    rcases hc with rfl | rfl | rfl | rfl | rfl | rfl | rfl <;> simp at h3 h4 <;> omega

set_option maxRecDepth 100000 in
set_option maxHeartbeats 4000000 in
theorem shallow_law (l : List ActV) (a : Option Addr) (len cap : Nat) (w : World) (h : ArgA w a len cap l) :
    Calls Try.prog 5 #[.slice a len cap] w fun e w' => e = .returned (.bool true) ∧ Below w.heap.size w w' := by
  have HA : Hid (ArgA w a len cap l) := h
  clear h
  go_enter Try.func5, Try.ntmps5
  go_wp2_with fail
  refine (few_is w a len cap l HA.out).mono ?_
  rintro e w1 ⟨b, rfl, HF, HB1⟩
  cases b with
  | false =>
    go_wp2_with (go_at_call 9; refine (lives_is w1).mono ?_; rintro e w2 ⟨rfl, HB2⟩)
    go_ret
    exact ⟨rfl, HB1.out.trans (HB2.out.mono HB1.out.size)⟩
  | true =>
    have HL : Hid (len ≤ 400 ∧ ∀ x ∈ l, x.key.size ≤ 100000) := HF.out rfl
    clear HF
    go_wp2_with (go_at_call 10; refine (new_is w1).mono ?_; rintro e w2 ⟨rfl, HM2, HB2⟩)
    have HW2 : Hid (Below w.heap.size w w2) := HB1.out.trans (HB2.out.mono HB1.out.size)
    have HMM : Hid (w.heap.size ≤ w1.heap.size) := HB1.out.size
    generalize w1.heap.size = m at *
    go_loopw [16, 4] (fun u lv wr => ∃ (i : Nat) (a' : Option Addr) (n' c' : Nat) (L' : List Pr), u = .int .i64 (i : Int) ∧ lv = .slice a' n' c' ∧ Hid (i ≤ len ∧ L'.length ≤ i * 60) ∧ Hid (Tr wr m L' ∧ RdP wr a' n' L' ∧ Cap a' n' c') ∧ Hid (Below w.heap.size w wr)) (fun u _ _ => len - (intOf u).toNat)
    case atStart => exact ⟨0, none, 0, 0, [], rfl, rfl, ⟨Nat.zero_le _, Nat.le_refl _⟩, ⟨.inl ⟨HM2.out, rfl⟩, ⟨rfl, fun h => absurd h (by omega)⟩, Nat.le_refl _, .inl ⟨rfl, rfl⟩⟩, HW2.out⟩
    case round =>
      obtain ⟨i, a', n', c', L', rfl, rfl, HI, HT, HB⟩ := hrel
      by_cases hi : i < len
      · obtain ⟨x, hx⟩ : ∃ x, l[i]? = some x := ⟨_, List.getElem?_eq_getElem (by rw [HA.out.1]; exact hi)⟩
        obtain ⟨bb, off, rfl, hbl, hat⟩ := HA.out.2.2.2 (by omega)
        obtain ⟨c0, c1, c2, c3, s1, s2⟩ := (hat i x hx)
        have d0 := (HB.out.cell (p := ⟨bb, off + i * 4, none⟩) hbl).trans c0
        have d1 := (HB.out.cell (p := ⟨bb, off + i * 4 + 1, none⟩) hbl).trans c1
        have d2 := (HB.out.cell (p := ⟨bb, off + i * 4 + 2, none⟩) hbl).trans c2
        have d3 := (HB.out.cell (p := ⟨bb, off + i * 4 + 3, none⟩) hbl).trans c3
        have HXL : Hid (i < len ∧ x.key.size ≤ 100000) := ⟨hi, HL.out.2 x (List.mem_of_getElem? hx)⟩
        have q1 : (i : Int) < (len : Int) := by omega
        have q5 : (len : Int) ≤ 400 := by have := HL.out.1; omega
        have HB3 : Hid (Below wr.heap.size wr (wr.alloc (.cells #[.int .i64 x.kind, .string x.key, .string x.val, .int .i64 x.n] 29))) := (Below.refl _ wr).alloc (Nat.le_refl _) _
        have HP : Hid (Calls Try.prog 14 #[.pointer (some ⟨m, 0, none⟩), .slice a' n' c', .agg #[.int .i64 x.kind, .string x.key, .string x.val, .int .i64 x.n]] (wr.alloc (.cells #[.int .i64 x.kind, .string x.key, .string x.val, .int .i64 x.n] 29)) (PlayP (wr.alloc (.cells #[.int .i64 x.kind, .string x.key, .string x.val, .int .i64 x.n] 29)) m L')) := play_is _ m a' n' c' L' x (HT.out.1.below HB3.out) (HT.out.2.1.below HB3.out (Nat.le_refl _)) HT.out.2.2 HXL.out.2 (by have := HI.out; have := HL.out.1; omega)
        have HB3w : Hid (Below w.heap.size w (wr.alloc (.cells #[.int .i64 x.kind, .string x.key, .string x.val, .int .i64 x.n] 29))) := HB.out.alloc HB.out.size _
        clear c0 c1 c2 c3 hat hx hi hbl s1 s2 HB3
        obtain ⟨kind, key, val, nn⟩ := x
        dsimp only at d0 d1 d2 d3 HP HB3w
        go_wp2_with (first
          | (go_at_call 14; (with_reducible refine Calls.mono HP.out ?_); rintro e w4 ⟨a4, n4, c4, L4, rfl, HT4, HG4⟩; have HB4 : Hid (Below w.heap.size w w4) := below_grownBy HB3w.out HG4.out HMM.out (Nat.le_refl _); have HN4 : Hid (n4 = L4.length ∧ L4.length ≤ 24000 ∧ L4.length ≤ (i + 1) * 60) := ⟨HT4.out.2.1.1.symm, (by have := HT4.out.2.2.2; have := HI.out; have := HXL.out; have := HL.out.1; omega), (by have := HT4.out.2.2.2; have := HI.out; omega)⟩)
          | (go_at_call 15; refine (tlen w4 m L4 HT4.out.1).mono ?_; rintro e w5 ⟨rfl, rfl⟩)
          | fail)
        refine (tdepth w4 m L4 HT4.out.1 (by have := HN4.out; omega)).mono ?_
        rintro e w5 ⟨D, rfl, HD, rfl⟩
        have hds := depths HD.out HN4.out.2.1
        have hn4 := HN4.out.1
        generalize hNN : L4.length = NN at hds hn4 ⊢
        subst hn4
        clear HD d0 d1 d2 d3 HP
        rcases hds with ⟨rfl, hn0⟩ | ⟨rfl, p1, p2⟩ | ⟨rfl, p1, p2⟩ | ⟨rfl, p1, p2⟩ | ⟨rfl, p1, p2⟩ | ⟨rfl, p1, p2⟩ | ⟨rfl, p1, p2⟩ | ⟨rfl, p1, p2⟩
        · subst hn0
          go_wp2
          go_roundw
          case rel => exact ⟨i + 1, a4, _, c4, L4, by simp, rfl, ⟨HXL.out.1, HN4.out.2.2⟩, ⟨HT4.out.1, HT4.out.2.1, HT4.out.2.2.1⟩, HB4.out⟩
          case measure => have := HXL.out; simp [intOf]; omega
        · have r1 : (1 : Int) ≤ (n4 : Int) := by omega
          have r2 : (n4 : Int) ≤ 7 := by omega
          have r3 : ¬ (n4 : Int) = 0 := by omega
          have r4 : ¬ n4 = 0 := by omega
          go_wp2
          go_roundw
          case rel => exact ⟨i + 1, a4, _, c4, L4, by simp, rfl, ⟨HXL.out.1, HN4.out.2.2⟩, ⟨HT4.out.1, HT4.out.2.1, HT4.out.2.2.1⟩, HB4.out⟩
          case measure => have := HXL.out; simp [intOf]; omega
        · have r1 : (7 : Int) ≤ (n4 : Int) := by omega
          have r2 : (n4 : Int) ≤ 63 := by omega
          have r3 : ¬ (n4 : Int) = 0 := by omega
          have r4 : ¬ n4 = 0 := by omega
          go_wp2
          go_roundw
          case rel => exact ⟨i + 1, a4, _, c4, L4, by simp, rfl, ⟨HXL.out.1, HN4.out.2.2⟩, ⟨HT4.out.1, HT4.out.2.1, HT4.out.2.2.1⟩, HB4.out⟩
          case measure => have := HXL.out; simp [intOf]; omega
        · have r1 : (31 : Int) ≤ (n4 : Int) := by omega
          have r2 : (n4 : Int) ≤ 511 := by omega
          have r3 : ¬ (n4 : Int) = 0 := by omega
          have r4 : ¬ n4 = 0 := by omega
          go_wp2
          go_roundw
          case rel => exact ⟨i + 1, a4, _, c4, L4, by simp, rfl, ⟨HXL.out.1, HN4.out.2.2⟩, ⟨HT4.out.1, HT4.out.2.1, HT4.out.2.2.1⟩, HB4.out⟩
          case measure => have := HXL.out; simp [intOf]; omega
        · have r1 : (127 : Int) ≤ (n4 : Int) := by omega
          have r2 : (n4 : Int) ≤ 4095 := by omega
          have r3 : ¬ (n4 : Int) = 0 := by omega
          have r4 : ¬ n4 = 0 := by omega
          go_wp2
          go_roundw
          case rel => exact ⟨i + 1, a4, _, c4, L4, by simp, rfl, ⟨HXL.out.1, HN4.out.2.2⟩, ⟨HT4.out.1, HT4.out.2.1, HT4.out.2.2.1⟩, HB4.out⟩
          case measure => have := HXL.out; simp [intOf]; omega
        · have r1 : (511 : Int) ≤ (n4 : Int) := by omega
          have r2 : (n4 : Int) ≤ 32767 := by omega
          have r3 : ¬ (n4 : Int) = 0 := by omega
          have r4 : ¬ n4 = 0 := by omega
          go_wp2
          go_roundw
          case rel => exact ⟨i + 1, a4, _, c4, L4, by simp, rfl, ⟨HXL.out.1, HN4.out.2.2⟩, ⟨HT4.out.1, HT4.out.2.1, HT4.out.2.2.1⟩, HB4.out⟩
          case measure => have := HXL.out; simp [intOf]; omega
        · have r1 : (2047 : Int) ≤ (n4 : Int) := by omega
          have r2 : (n4 : Int) ≤ 262143 := by omega
          have r3 : ¬ (n4 : Int) = 0 := by omega
          have r4 : ¬ n4 = 0 := by omega
          go_wp2
          go_roundw
          case rel => exact ⟨i + 1, a4, _, c4, L4, by simp, rfl, ⟨HXL.out.1, HN4.out.2.2⟩, ⟨HT4.out.1, HT4.out.2.1, HT4.out.2.2.1⟩, HB4.out⟩
          case measure => have := HXL.out; simp [intOf]; omega
        · have r1 : (8191 : Int) ≤ (n4 : Int) := by omega
          have r2 : (n4 : Int) ≤ 2097151 := by omega
          have r3 : ¬ (n4 : Int) = 0 := by omega
          have r4 : ¬ n4 = 0 := by omega
          go_wp2
          go_roundw
          case rel => exact ⟨i + 1, a4, _, c4, L4, by simp, rfl, ⟨HXL.out.1, HN4.out.2.2⟩, ⟨HT4.out.1, HT4.out.2.1, HT4.out.2.2.1⟩, HB4.out⟩
          case measure => have := HXL.out; simp [intOf]; omega
      · have q1 : ¬ (i : Int) < (len : Int) := by omega
        go_wp2_with (go_at_call 9; refine (lives_is wr).mono ?_; rintro e w5 ⟨rfl, HB5⟩)
        go_ret
        exact ⟨rfl, HB.out.trans (HB5.out.mono HB.out.size)⟩
end Go.Proofs.Ytnagknlfboadkaa.Oct

/- Layer 7 (tree): what is left behind deletions. -/
namespace Go.Proofs.Ytnagknlfboadkaa.Oct
open Go.RowKit

theorem mem_rem {M : List Pr} {x : Pr} {k : ByteArray} (h : x ∈ M) (hk : x.1 ≠ k) : x ∈ remP M k := by
  unfold remP lo hi
  cases h1 : Lt x.1 k with
  | true => exact List.mem_append.2 (.inl (List.mem_filter.2 ⟨h, h1⟩))
  | false =>
    cases h2 : Lt k x.1 with
    | true => exact List.mem_append.2 (.inr (List.mem_filter.2 ⟨h, h2⟩))
    | false => exact absurd (lt_total h1 h2) hk
theorem eqs_mem {M : List Pr} {x : Pr} (h : x ∈ M) : (eqs x.1 M).isEmpty = false := by
  have : x ∈ eqs x.1 M := List.mem_filter.2 ⟨h, eqb_iff.2 rfl⟩
  cases he : eqs x.1 M with
  | nil => rw [he] at this; cases this
  | cons y l => rfl
theorem eqs_rem (M : List Pr) (k : ByteArray) : eqs k (remP M k) = [] := by
  refine List.filter_eq_nil_iff.2 fun x hx he => ?_
  have e := eqb_iff.1 he
  unfold remP lo hi at hx
  rcases List.mem_append.1 hx with hx | hx
  · have := (List.mem_filter.1 hx).2
    rw [e, lt_irrefl] at this; cases this
  · have := (List.mem_filter.1 hx).2
    rw [e, lt_irrefl] at this; cases this
theorem ris_dist {L : List Pr} (h : Ris L) {p q : Nat} {x y : Pr} (hx : L[p]? = some x) (hy : L[q]? = some y) (hpq : p ≠ q) : x.1 ≠ y.1 := by
  obtain ⟨hp, rfl⟩ := List.getElem?_eq_some_iff.1 hx
  obtain ⟨hq, rfl⟩ := List.getElem?_eq_some_iff.1 hy
  intro e
  rcases Nat.lt_or_gt_of_ne hpq with h1 | h1
  · have := List.pairwise_iff_getElem.1 h p q hp hq h1
    rw [e, lt_irrefl] at this; cases this
  · have := List.pairwise_iff_getElem.1 h q p hq hp h1
    rw [e, lt_irrefl] at this; cases this
theorem modf {i c n : Nat} (hi : i < n) (hc : c < n) : (i + c) % n = if i + c < n then i + c else i + c - n := by
  split
  · exact Nat.mod_eq_of_lt (by assumption)
  · rw [Nat.mod_eq_sub_mod (by omega), Nat.mod_eq_of_lt (by omega)]
/-- what is left behind some deletions -/
structure GInv (L : List Pr) (c i : Nat) (M : List Pr) : Prop where
  ris : Ris M
  len : M.length + i = L.length
  mem : ∀ j x, i ≤ j → j < L.length → L[(j + c) % L.length]? = some x → x ∈ M
theorem GInv.step {L : List Pr} {c i : Nat} {M : List Pr} {x : Pr} (h : GInv L c i M) (hL : Ris L) (hi : i < L.length) (hc : c < L.length) (hx : L[(i + c) % L.length]? = some x) : GInv L c (i + 1) (remP M x.1) ∧ (eqs x.1 M).isEmpty = false ∧ (eqs x.1 (remP M x.1)).isEmpty = true := by
  have hm := h.mem i x (Nat.le_refl _) hi hx
  have he := eqs_mem hm
  refine ⟨⟨ris_rem h.ris _, ?_, fun j y hj hjn hy => ?_⟩, he, by rw [eqs_rem]; rfl⟩
  · have h1 := rem_len h.ris x.1
    rw [if_neg (by rw [he]; simp)] at h1
    have h2 := h.len
    have h3 : 0 < M.length := List.length_pos_of_mem hm
    omega
  · refine mem_rem (h.mem j y (by omega) hjn hy) (ris_dist hL hy hx ?_)
    rw [modf hjn hc, modf hi hc]
    split <;> split <;> omega
end Go.Proofs.Ytnagknlfboadkaa.Oct

/- Layer 7 (tree): the law TreeGone. -/
namespace Go.Proofs.Ytnagknlfboadkaa.Oct
open Go.RowKit

theorem wrap_u64_nonneg (t : Int) : 0 ≤ IntKind.u64.wrap t := by
  first
    | (rw [IntKind.wrap_u64]; omega)
    | (simp [IntKind.wrap, IntKind.bits, IntKind.signed]; omega)
theorem depth_nil {D : Nat} (h : DepthOk D ([] : List Pr).length) : D = 0 := by
  rcases h with ⟨h, _⟩ | ⟨_, h, _⟩
  · exact h
  · simp at h
theorem told_nil {w : World} {B : Nat} {u : Value} {k t : ByteArray} (h : w.ownsRow B 40 2 u (scanT k t []).length ((scanT k t []).flatMap pc)) : ∃ a c, u = .slice a 0 c := by
  rcases h.2 with ⟨e, _⟩ | ⟨g, cap, cur, e, _⟩
  · exact ⟨none, 0, e⟩
  · exact ⟨_, cap, e⟩

set_option maxRecDepth 100000 in
set_option maxHeartbeats 4000000 in
theorem gone_law (l : List ActV) (a : Option Addr) (len cap : Nat) (turn : Int) (w : World) (h : ArgA w a len cap l) :
    Calls Try.prog 6 #[.slice a len cap, .int .i64 turn] w fun e w' => e = .returned (.bool true) ∧ Below w.heap.size w w' := by
  have HA : Hid (ArgA w a len cap l) := h
  clear h
  go_enter Try.func6, Try.ntmps6
  go_wp2_with fail
  refine (few_is w a len cap l HA.out).mono ?_
  rintro e w1 ⟨b, rfl, HF, HB1⟩
  cases b with
  | false =>
    go_wp2_with (go_at_call 9; refine (lives_is w1).mono ?_; rintro e w2 ⟨rfl, HB2⟩)
    go_ret
    exact ⟨rfl, HB1.out.trans (HB2.out.mono HB1.out.size)⟩
  | true =>
    have HL : Hid (len ≤ 400 ∧ ∀ x ∈ l, x.key.size ≤ 100000) := HF.out rfl
    clear HF
    go_wp2_with (go_at_call 10; refine (new_is w1).mono ?_; rintro e w2 ⟨rfl, HM2, HB2⟩)
    have HW2 : Hid (Below w.heap.size w w2) := HB1.out.trans (HB2.out.mono HB1.out.size)
    have HMM : Hid (w.heap.size ≤ w1.heap.size) := HB1.out.size
    generalize w1.heap.size = m at *
    go_loopw [18, 6] (fun u lv wr => ∃ (i : Nat) (a' : Option Addr) (n' c' : Nat) (L' : List Pr), u = .int .i64 (i : Int) ∧ lv = .slice a' n' c' ∧ Hid (i ≤ len ∧ L'.length ≤ i * 60) ∧ Hid (Tr wr m L' ∧ RdP wr a' n' L' ∧ Cap a' n' c') ∧ Hid (Below w.heap.size w wr)) (fun u _ _ => len - (intOf u).toNat)
    case atStart => exact ⟨0, none, 0, 0, [], rfl, rfl, ⟨Nat.zero_le _, Nat.le_refl _⟩, ⟨.inl ⟨HM2.out, rfl⟩, ⟨rfl, fun h => absurd h (by omega)⟩, Nat.le_refl _, .inl ⟨rfl, rfl⟩⟩, HW2.out⟩
    case round =>
      obtain ⟨i, a', n', c', L', rfl, rfl, HI, HT, HB⟩ := hrel
      by_cases hi : i < len
      · obtain ⟨x, hx⟩ : ∃ x, l[i]? = some x := ⟨_, List.getElem?_eq_getElem (by rw [HA.out.1]; exact hi)⟩
        obtain ⟨bb, off, rfl, hbl, hat⟩ := HA.out.2.2.2 (by omega)
        obtain ⟨c0, c1, c2, c3, s1, s2⟩ := (hat i x hx)
        have d0 := (HB.out.cell (p := ⟨bb, off + i * 4, none⟩) hbl).trans c0
        have d1 := (HB.out.cell (p := ⟨bb, off + i * 4 + 1, none⟩) hbl).trans c1
        have d2 := (HB.out.cell (p := ⟨bb, off + i * 4 + 2, none⟩) hbl).trans c2
        have d3 := (HB.out.cell (p := ⟨bb, off + i * 4 + 3, none⟩) hbl).trans c3
        have HXL : Hid (i < len ∧ x.key.size ≤ 100000) := ⟨hi, HL.out.2 x (List.mem_of_getElem? hx)⟩
        have q1 : (i : Int) < (len : Int) := by omega
        have q5 : (len : Int) ≤ 400 := by have := HL.out.1; omega
        have HB3 : Hid (Below wr.heap.size wr (wr.alloc (.cells #[.int .i64 x.kind, .string x.key, .string x.val, .int .i64 x.n] 29))) := (Below.refl _ wr).alloc (Nat.le_refl _) _
        have HP : Hid (Calls Try.prog 14 #[.pointer (some ⟨m, 0, none⟩), .slice a' n' c', .agg #[.int .i64 x.kind, .string x.key, .string x.val, .int .i64 x.n]] (wr.alloc (.cells #[.int .i64 x.kind, .string x.key, .string x.val, .int .i64 x.n] 29)) (PlayP (wr.alloc (.cells #[.int .i64 x.kind, .string x.key, .string x.val, .int .i64 x.n] 29)) m L')) := play_is _ m a' n' c' L' x (HT.out.1.below HB3.out) (HT.out.2.1.below HB3.out (Nat.le_refl _)) HT.out.2.2 HXL.out.2 (by have := HI.out; have := HL.out.1; omega)
        have HB3w : Hid (Below w.heap.size w (wr.alloc (.cells #[.int .i64 x.kind, .string x.key, .string x.val, .int .i64 x.n] 29))) := HB.out.alloc HB.out.size _
        clear c0 c1 c2 c3 hat hx hi hbl s1 s2 HB3
        obtain ⟨kind, key, val, nn⟩ := x
        dsimp only at d0 d1 d2 d3 HP HB3w
        go_wp2_with (go_at_call 14; (with_reducible refine Calls.mono HP.out ?_); rintro e w4 ⟨a4, n4, c4, L4, rfl, HT4, HG4⟩; have HB4 : Hid (Below w.heap.size w w4) := below_grownBy HB3w.out HG4.out HMM.out (Nat.le_refl _); have HN4 : Hid (L4.length ≤ (i + 1) * 60) := (by have := HT4.out.2.2.2; have := HI.out; show _ ≤ _; omega))
        go_roundw
        case rel => exact ⟨i + 1, a4, n4, c4, L4, by simp, rfl, ⟨HXL.out.1, HN4.out⟩, ⟨HT4.out.1, HT4.out.2.1, HT4.out.2.2.1⟩, HB4.out⟩
        case measure => have := HXL.out; simp [intOf]; omega
      · have q1 : ¬ (i : Int) < (len : Int) := by omega
        obtain ⟨W0, hW0⟩ : ∃ W0, wr = W0 := ⟨_, rfl⟩
        subst hW0
        have hn' : n' = L'.length := HT.out.2.1.1.symm
        have h24 : L'.length ≤ 24000 := by
          have h1 := HI.out
          have h2 := HL.out.1
          omega
        have HQ : Hid (L'.length ≤ 24000 ∧ Ris L' ∧ n' = L'.length) := ⟨h24, HT.out.1.ris, hn'⟩
        clear h24
        clear hn'
        go_wp2
        obtain ⟨c, hc⟩ : ∃ c : Nat, n' ≠ 0 → (IntKind.u64.wrap turn).tmod (n' : Int) = (c : Int) ∧ c < n' := ⟨((IntKind.u64.wrap turn).tmod (n' : Int)).toNat, fun h0 => by
          have hU := wrap_u64_nonneg turn
          have h1 : 0 ≤ (IntKind.u64.wrap turn).tmod (n' : Int) := Int.tmod_nonneg _ hU
          have h2 := Int.tmod_lt_of_pos (IntKind.u64.wrap turn) (show (0 : Int) < (n' : Int) by omega)
          omega⟩
        have HCC : Hid (n' ≠ 0 → (IntKind.u64.wrap turn).tmod (n' : Int) = (c : Int) ∧ c < n') := hc
        clear hc
        go_loopw [32] (fun u wr => ∃ (i : Nat) (M : List Pr), u = .int .i64 (i : Int) ∧ Hid (i ≤ n' ∧ GInv L' c i M) ∧ Hid (Tr wr m M ∧ RdP wr a' n' L') ∧ Hid (Below w.heap.size w wr)) (fun u _ => n' - (intOf u).toNat)
        case atStart => exact ⟨0, L', rfl, ⟨Nat.zero_le _, ⟨HQ.out.2.1, rfl, fun j x _ _ hx => List.mem_of_getElem? hx⟩⟩, ⟨HT.out.1, HT.out.2.1⟩, HB.out⟩
        case round =>
          obtain ⟨j, M, rfl, HJ, HTM, HBR⟩ := hrel
          by_cases hj : j < n'
          · obtain ⟨x, hx⟩ : ∃ x, L'[(j + c) % L'.length]? = some x := ⟨_, List.getElem?_eq_getElem (Nat.mod_lt _ (by have := HQ.out.2.2; omega))⟩
            obtain ⟨hc, hcn⟩ := HCC.out (by omega)
            have hst := HJ.out.2.step HQ.out.2.1 (by have := HQ.out.2.2; omega) (by have := HQ.out.2.2; omega) hx
            obtain ⟨g, off, rfl, hg1, hc1⟩ := HTM.out.2.2 (by omega)
            have e0 := (hc1 _ x hx).1
            rw [← HQ.out.2.2] at e0
            have r1 : (j : Int) < (n' : Int) := by omega
            have r2 : (n' : Int) ≤ 24000 := by have := HQ.out; omega
            have r3 : (c : Int) < (n' : Int) := by omega
            obtain ⟨f, hf⟩ : ∃ f, (j + c) % n' = f := ⟨_, rfl⟩
            have hfm : ((j : Int) + (c : Int)).tmod (n' : Int) = (f : Int) := by
              rw [← hf, ← Int.natCast_add]; exact (Int.ofNat_tmod (j + c) n').symm
            have hfn : f < n' := by rw [← hf]; exact Nat.mod_lt _ (by omega)
            have r4 : (f : Int) < (n' : Int) := by omega
            rw [hf] at e0
            have HST : Hid (GInv L' c (j + 1) (remP M x.1) ∧ j < n' ∧ M.length ≤ 24000) := ⟨hst.1, hj, by have := HJ.out.2.len; have := HQ.out; omega⟩
            have H18 : Hid (Calls Try.prog 18 #[.pointer (some ⟨m, 0, none⟩), .string x.1] wr fun e w' => e = .returned (.bool true) ∧ Hid (Tr w' m (remP M x.1)) ∧ Hid (wr.grownBy w' (some m))) := by
              have := tdel wr m M x.1 HTM.out.1 (by have := HST.out; omega)
              rw [hst.2.1] at this
              exact this
            have H18b : Hid (∀ W, Tr W m (remP M x.1) → Calls Try.prog 18 #[.pointer (some ⟨m, 0, none⟩), .string x.1] W fun e w' => e = .returned (.bool false) ∧ Hid (Tr w' m (remP M x.1)) ∧ Hid (W.grownBy w' (some m))) := fun W hW => by
              have := tdel W m (remP M x.1) x.1 hW (by have := rem_most HJ.out.2.ris x.1; have := HST.out; omega)
              rw [hst.2.2, rem_no hW.ris x.1 (List.isEmpty_iff.1 hst.2.2)] at this
              exact this
            have HLN : Hid ((remP M x.1).length + (j + 1) = n') := by
              have := hst.1.len
              have := HQ.out.2.2
              show _ = _
              omega
            clear hc1 hx hg1 hst hf hfn hcn hj
            obtain ⟨x1, x2⟩ := x
            dsimp only at e0 H18 H18b HLN HST
            obtain ⟨M', hM'⟩ : ∃ M', remP M x1 = M' := ⟨_, rfl⟩
            rw [hM'] at H18 H18b HLN HST
            obtain ⟨q, hq⟩ : ∃ q, M'.length = q := ⟨_, rfl⟩
            rw [hq] at HLN
            have HQL : Hid (M'.length = q) := hq
            have r5 : (n' : Int) - 1 - (j : Int) = (q : Int) := by have := HLN.out; omega
            clear hM' hq
            go_wp2_with (first
              | (go_at_call 18; (with_reducible refine Calls.mono H18.out ?_); rintro e w5 ⟨rfl, HT5, HG5⟩)
              | (go_at_call 18; refine (H18b.out w5 HT5.out).mono ?_; rintro e w6 ⟨rfl, HT6, HG6⟩)
              | (go_at_call 15; refine (tlen w6 m M' HT6.out).mono ?_; rintro e w7 ⟨rfl, rfl⟩; rw [HQL.out]))
            go_roundw
            case rel => exact ⟨j + 1, M', by simp, ⟨HST.out.2.1, HST.out.1⟩, ⟨HT6.out, (HTM.out.2.oth HG5.out HTM.out.1.oth).oth HG6.out HT5.out.oth⟩, below_grownBy (below_grownBy HBR.out HG5.out HMM.out (Nat.le_refl _)) HG6.out HMM.out (Nat.le_refl _)⟩
            case measure => have := HST.out; simp [intOf]; omega
          · have r1 : ¬ (j : Int) < (n' : Int) := by omega
            have hM0 : M = [] := List.eq_nil_of_length_eq_zero (by have := HJ.out.2.len; have := HQ.out.2.2; omega)
            subst hM0
            have HZ : Hid (Tr wr m []) := HTM.out.1
            clear hj
            go_wp2_with (first
              | (go_at_call 9; refine (lives_is w8).mono ?_; rintro e w9 ⟨rfl, HB9⟩)
              | (go_at_call 15; refine (tlen w8 m _ HT8.out).mono ?_; rintro e w7 ⟨rfl, rfl⟩)
              | (go_at_call 19; refine (tput w7 m [] (⟨#[97]⟩, ⟨#[98]⟩) (HZ.out.below HB7.out) (by simp)).mono ?_; rintro e w8 ⟨rfl, HT8, HG8⟩)
              | (go_at_call 13; refine (told_all wr m [] _ _ HZ.out (by simp)).mono ?_; rintro e w7 ⟨u, rfl, HO7, HB7⟩; obtain ⟨a7, c7, rfl⟩ := told_nil HO7.out)
              | (go_at_call 20; refine (tdepth wr m [] HZ.out (by simp)).mono ?_; rintro e w7 ⟨D, rfl, HD, rfl⟩; have hD := depth_nil HD.out; subst hD)
              | (go_at_call 15; refine (tlen wr m [] HZ.out).mono ?_; rintro e w7 ⟨rfl, rfl⟩))
            go_ret
            exact ⟨rfl, (below_grownBy (HBR.out.trans (HB7.out.mono HBR.out.size)) HG8.out HMM.out (Nat.le_refl _)).trans (HB9.out.mono (Nat.le_trans (HBR.out.trans (HB7.out.mono HBR.out.size)).size HG8.out.size))⟩
end Go.Proofs.Ytnagknlfboadkaa.Oct
