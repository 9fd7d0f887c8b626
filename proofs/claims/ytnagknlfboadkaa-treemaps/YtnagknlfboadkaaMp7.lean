/-
  Layer 7 (tree): the law TreeShallow.
  Layer 7 (tree): the law TreeMaps.
-/
import Derived.Test.YtnagknlfboadkaaMp6
/- Layer 7 (tree): the law TreeShallow. -/
namespace Go.Proofs.Ytnagknlfboadkaa.Oct
open Go.RowKit

theorem below_grownBy {B m : Nat} {w a b : World} (h : Below B w a) (hg : a.grownBy b (some m)) (hm : B ≤ m) (hB : B ≤ w.heap.size) : Below B w b :=
  ⟨hg.os.trans h.os, hg.tape.trans h.tape, hg.output.trans h.output, Nat.le_trans h.size hg.size, fun k hk => (hg.block k (Nat.lt_of_lt_of_le hk (Nat.le_trans hB h.size)) (by simp; omega)).trans (h.block k hk)⟩
/-- the depths that so many keys may have -/
theorem depths {D n : Nat} (h : DepthOk D n) (hn : n ≤ 24000) : (D = 0 ∧ n = 0) ∨ (D = 1 ∧ 1 ≤ n ∧ n ≤ 7) ∨ (D = 2 ∧ 7 ≤ n ∧ n ≤ 63) ∨ (D = 3 ∧ 31 ≤ n ∧ n ≤ 511) ∨ (D = 4 ∧ 127 ≤ n ∧ n ≤ 4095) ∨ (D = 5 ∧ 511 ≤ n ∧ n ≤ 32767) ∨ (D = 6 ∧ 2047 ≤ n ∧ n ≤ 262143) ∨ (D = 7 ∧ 8191 ≤ n ∧ n ≤ 2097151) := by
  rcases h with ⟨h1, h2⟩ | ⟨h1, h2, h3, h4⟩
  · exact .inl ⟨h1, h2⟩
  · have hD : D ≤ 7 := by
      refine Nat.le_of_not_lt fun hc => ?_
      have : 4 ^ 7 ≤ 4 ^ (D - 1) := Nat.pow_le_pow_right (by omega) (by omega)
      have e : (4 : Nat) ^ 7 = 16384 := by decide
      omega
    have hc : D = 1 ∨ D = 2 ∨ D = 3 ∨ D = 4 ∨ D = 5 ∨ D = 6 ∨ D = 7 := by omega
    rcases hc with rfl | rfl | rfl | rfl | rfl | rfl | rfl <;> simp at h3 h4 <;> omega

set_option maxRecDepth 100000 in
set_option maxHeartbeats 4000000 in
theorem shallow_law (l : List ActV) (a : Option Addr) (len cap : Nat) (w : World) (h : ArgA w a len cap l) :
    Calls Try.prog 5 #[.slice a len cap] w fun e w' => e = .returned (.bool true) ∧ Below w.heap.size w w' := by
  have HA : Hid (ArgA w a len cap l) := h
  clear h
  go_enter Try.func5, Try.ntmps5
  go_wp2_with fail
  refine (few_is w a len cap l HA.out).mono ?_
  rintro e w1 ⟨b, rfl, HF, HB1⟩
  cases b with
  | false =>
    go_wp2_with (go_at_call 9; refine (lives_is w1).mono ?_; rintro e w2 ⟨rfl, HB2⟩)
    go_ret
    exact ⟨rfl, HB1.out.trans (HB2.out.mono HB1.out.size)⟩
  | true =>
    have HL : Hid (len ≤ 400 ∧ ∀ x ∈ l, x.key.size ≤ 100000) := HF.out rfl
    clear HF
    go_wp2_with (go_at_call 10; refine (new_is w1).mono ?_; rintro e w2 ⟨rfl, HM2, HB2⟩)
    have HW2 : Hid (Below w.heap.size w w2) := HB1.out.trans (HB2.out.mono HB1.out.size)
    have HMM : Hid (w.heap.size ≤ w1.heap.size) := HB1.out.size
    generalize w1.heap.size = m at *
    go_loopw [16, 4] (fun u lv wr => ∃ (i : Nat) (a' : Option Addr) (n' c' : Nat) (L' : List Pr), u = .int .i64 (i : Int) ∧ lv = .slice a' n' c' ∧ Hid (i ≤ len ∧ L'.length ≤ i * 60) ∧ Hid (Tr wr m L' ∧ RdP wr a' n' L' ∧ Cap a' n' c') ∧ Hid (Below w.heap.size w wr)) (fun u _ _ => len - (intOf u).toNat)
    case atStart => exact ⟨0, none, 0, 0, [], rfl, rfl, ⟨Nat.zero_le _, Nat.le_refl _⟩, ⟨.inl ⟨HM2.out, rfl⟩, ⟨rfl, fun h => absurd h (by omega)⟩, Nat.le_refl _, .inl ⟨rfl, rfl⟩⟩, HW2.out⟩
    case round =>
      obtain ⟨i, a', n', c', L', rfl, rfl, HI, HT, HB⟩ := hrel
      by_cases hi : i < len
      · obtain ⟨x, hx⟩ : ∃ x, l[i]? = some x := ⟨_, List.getElem?_eq_getElem (by rw [HA.out.1]; exact hi)⟩
        obtain ⟨bb, off, rfl, hbl, hat⟩ := HA.out.2.2.2 (by omega)
        obtain ⟨c0, c1, c2, c3, s1, s2⟩ := (hat i x hx)
        have d0 := (HB.out.cell (p := ⟨bb, off + i * 4, none⟩) hbl).trans c0
        have d1 := (HB.out.cell (p := ⟨bb, off + i * 4 + 1, none⟩) hbl).trans c1
        have d2 := (HB.out.cell (p := ⟨bb, off + i * 4 + 2, none⟩) hbl).trans c2
        have d3 := (HB.out.cell (p := ⟨bb, off + i * 4 + 3, none⟩) hbl).trans c3
        have HXL : Hid (i < len ∧ x.key.size ≤ 100000) := ⟨hi, HL.out.2 x (List.mem_of_getElem? hx)⟩
        have q1 : (i : Int) < (len : Int) := by omega
        have q5 : (len : Int) ≤ 400 := by have := HL.out.1; omega
        have HB3 : Hid (Below wr.heap.size wr (wr.alloc (.cells #[.int .i64 x.kind, .string x.key, .string x.val, .int .i64 x.n] 29))) := (Below.refl _ wr).alloc (Nat.le_refl _) _
        have HP : Hid (Calls Try.prog 14 #[.pointer (some ⟨m, 0, none⟩), .slice a' n' c', .agg #[.int .i64 x.kind, .string x.key, .string x.val, .int .i64 x.n]] (wr.alloc (.cells #[.int .i64 x.kind, .string x.key, .string x.val, .int .i64 x.n] 29)) (PlayP (wr.alloc (.cells #[.int .i64 x.kind, .string x.key, .string x.val, .int .i64 x.n] 29)) m L')) := play_is _ m a' n' c' L' x (HT.out.1.below HB3.out) (HT.out.2.1.below HB3.out (Nat.le_refl _)) HT.out.2.2 HXL.out.2 (by have := HI.out; have := HL.out.1; omega)
        have HB3w : Hid (Below w.heap.size w (wr.alloc (.cells #[.int .i64 x.kind, .string x.key, .string x.val, .int .i64 x.n] 29))) := HB.out.alloc HB.out.size _
        clear c0 c1 c2 c3 hat hx hi hbl s1 s2 HB3
        obtain ⟨kind, key, val, nn⟩ := x
        dsimp only at d0 d1 d2 d3 HP HB3w
        go_wp2_with (first
          | (go_at_call 14; (with_reducible refine Calls.mono HP.out ?_); rintro e w4 ⟨a4, n4, c4, L4, rfl, HT4, HG4⟩; have HB4 : Hid (Below w.heap.size w w4) := below_grownBy HB3w.out HG4.out HMM.out (Nat.le_refl _); have HN4 : Hid (n4 = L4.length ∧ L4.length ≤ 24000 ∧ L4.length ≤ (i + 1) * 60) := ⟨HT4.out.2.1.1.symm, (by have := HT4.out.2.2.2; have := HI.out; have := HXL.out; have := HL.out.1; omega), (by have := HT4.out.2.2.2; have := HI.out; omega)⟩)
          | (go_at_call 15; refine (tlen w4 m L4 HT4.out.1).mono ?_; rintro e w5 ⟨rfl, rfl⟩)
          | fail)
        refine (tdepth w4 m L4 HT4.out.1 (by have := HN4.out; omega)).mono ?_
        rintro e w5 ⟨D, rfl, HD, rfl⟩
        have hds := depths HD.out HN4.out.2.1
        have hn4 := HN4.out.1
        generalize hNN : L4.length = NN at hds hn4 ⊢
        subst hn4
        clear HD d0 d1 d2 d3 HP
        rcases hds with ⟨rfl, hn0⟩ | ⟨rfl, p1, p2⟩ | ⟨rfl, p1, p2⟩ | ⟨rfl, p1, p2⟩ | ⟨rfl, p1, p2⟩ | ⟨rfl, p1, p2⟩ | ⟨rfl, p1, p2⟩ | ⟨rfl, p1, p2⟩
        · subst hn0
          go_wp2
          go_roundw
          case rel => exact ⟨i + 1, a4, _, c4, L4, by simp, rfl, ⟨HXL.out.1, HN4.out.2.2⟩, ⟨HT4.out.1, HT4.out.2.1, HT4.out.2.2.1⟩, HB4.out⟩
          case measure => have := HXL.out; simp [intOf]; omega
        · have r1 : (1 : Int) ≤ (n4 : Int) := by omega
          have r2 : (n4 : Int) ≤ 7 := by omega
          have r3 : ¬ (n4 : Int) = 0 := by omega
          have r4 : ¬ n4 = 0 := by omega
          go_wp2
          go_roundw
          case rel => exact ⟨i + 1, a4, _, c4, L4, by simp, rfl, ⟨HXL.out.1, HN4.out.2.2⟩, ⟨HT4.out.1, HT4.out.2.1, HT4.out.2.2.1⟩, HB4.out⟩
          case measure => have := HXL.out; simp [intOf]; omega
        · have r1 : (7 : Int) ≤ (n4 : Int) := by omega
          have r2 : (n4 : Int) ≤ 63 := by omega
          have r3 : ¬ (n4 : Int) = 0 := by omega
          have r4 : ¬ n4 = 0 := by omega
          go_wp2
          go_roundw
          case rel => exact ⟨i + 1, a4, _, c4, L4, by simp, rfl, ⟨HXL.out.1, HN4.out.2.2⟩, ⟨HT4.out.1, HT4.out.2.1, HT4.out.2.2.1⟩, HB4.out⟩
          case measure => have := HXL.out; simp [intOf]; omega
        · have r1 : (31 : Int) ≤ (n4 : Int) := by omega
          have r2 : (n4 : Int) ≤ 511 := by omega
          have r3 : ¬ (n4 : Int) = 0 := by omega
          have r4 : ¬ n4 = 0 := by omega
          go_wp2
          go_roundw
          case rel => exact ⟨i + 1, a4, _, c4, L4, by simp, rfl, ⟨HXL.out.1, HN4.out.2.2⟩, ⟨HT4.out.1, HT4.out.2.1, HT4.out.2.2.1⟩, HB4.out⟩
          case measure => have := HXL.out; simp [intOf]; omega
        · have r1 : (127 : Int) ≤ (n4 : Int) := by omega
          have r2 : (n4 : Int) ≤ 4095 := by omega
          have r3 : ¬ (n4 : Int) = 0 := by omega
          have r4 : ¬ n4 = 0 := by omega
          go_wp2
          go_roundw
          case rel => exact ⟨i + 1, a4, _, c4, L4, by simp, rfl, ⟨HXL.out.1, HN4.out.2.2⟩, ⟨HT4.out.1, HT4.out.2.1, HT4.out.2.2.1⟩, HB4.out⟩
          case measure => have := HXL.out; simp [intOf]; omega
        · have r1 : (511 : Int) ≤ (n4 : Int) := by omega
          have r2 : (n4 : Int) ≤ 32767 := by omega
          have r3 : ¬ (n4 : Int) = 0 := by omega
          have r4 : ¬ n4 = 0 := by omega
          go_wp2
          go_roundw
          case rel => exact ⟨i + 1, a4, _, c4, L4, by simp, rfl, ⟨HXL.out.1, HN4.out.2.2⟩, ⟨HT4.out.1, HT4.out.2.1, HT4.out.2.2.1⟩, HB4.out⟩
          case measure => have := HXL.out; simp [intOf]; omega
        · have r1 : (2047 : Int) ≤ (n4 : Int) := by omega
          have r2 : (n4 : Int) ≤ 262143 := by omega
          have r3 : ¬ (n4 : Int) = 0 := by omega
          have r4 : ¬ n4 = 0 := by omega
          go_wp2
          go_roundw
          case rel => exact ⟨i + 1, a4, _, c4, L4, by simp, rfl, ⟨HXL.out.1, HN4.out.2.2⟩, ⟨HT4.out.1, HT4.out.2.1, HT4.out.2.2.1⟩, HB4.out⟩
          case measure => have := HXL.out; simp [intOf]; omega
        · have r1 : (8191 : Int) ≤ (n4 : Int) := by omega
          have r2 : (n4 : Int) ≤ 2097151 := by omega
          have r3 : ¬ (n4 : Int) = 0 := by omega
          have r4 : ¬ n4 = 0 := by omega
          go_wp2
          go_roundw
          case rel => exact ⟨i + 1, a4, _, c4, L4, by simp, rfl, ⟨HXL.out.1, HN4.out.2.2⟩, ⟨HT4.out.1, HT4.out.2.1, HT4.out.2.2.1⟩, HB4.out⟩
          case measure => have := HXL.out; simp [intOf]; omega
      · have q1 : ¬ (i : Int) < (len : Int) := by omega
        go_wp2_with (go_at_call 9; refine (lives_is wr).mono ?_; rintro e w5 ⟨rfl, HB5⟩)
        go_ret
        exact ⟨rfl, HB.out.trans (HB5.out.mono HB.out.size)⟩
end Go.Proofs.Ytnagknlfboadkaa.Oct

/- Layer 7 (tree): the law TreeMaps. -/
namespace Go.Proofs.Ytnagknlfboadkaa.Oct
open Go.RowKit

theorem Tr.keptBy {w w' : World} {m o : Nat} {L : List Pr} (h : Tr w o L) (hg : w.grownBy w' (some m)) (ho : Oth w m) (hne : o ≠ m) : Tr w' o L := by
  obtain ⟨p, h1, h2⟩ := h.root
  exact (h2.oth hg ho).tr (Blk.kept (show Blk w o 48 _ from h1) hg (by simpa using hne))
theorem told_full (w : World) (m : Nat) (L : List Pr) (hT : Tr w m L) (hn : L.length ≤ 90000) :
    Calls Try.prog 13 #[.pointer (some ⟨m, 0, none⟩), .string ⟨#[]⟩, .string ⟨#[]⟩] w fun e w' => ∃ (a : Option Addr) (n c : Nat), e = .returned (.slice a n c) ∧ Hid (RdP w' a n L) ∧ Hid (Below w.heap.size w w') := by
  refine (told_all w m L ⟨#[]⟩ ⟨#[]⟩ hT (by omega)).mono ?_
  rintro e w' ⟨u, rfl, hO, hB⟩
  have hO2 : Bs 40 2 w.heap.size w' u (scanT ⟨#[]⟩ ⟨#[]⟩ L).length ((scanT ⟨#[]⟩ ⟨#[]⟩ L).flatMap pc) := .inr ⟨fun u hu => by
    obtain ⟨x, _, hx⟩ := List.mem_flatMap.1 hu
    simp only [pc, List.mem_cons, List.not_mem_nil, or_false] at hx
    rcases hx with rfl | rfl <;> rfl, hO.out⟩
  obtain ⟨a', c', rfl, _, h2, _⟩ := hO2.read
  have e : scanT ⟨#[]⟩ ⟨#[]⟩ L = L := by
    rw [scanT_is hT.ris]
    refine List.filter_eq_self.2 fun x _ => ?_
    unfold inS okS geS
    rw [l0]
    cases x.1.toList <;> simp [Op.bytesLess]
  rw [e] at h2
  exact ⟨a', _, c', rfl, by rw [e]; exact h2.toP, hB⟩
theorem same_yes (w : World) (a : Option Addr) (n c : Nat) (a2 : Option Addr) (n2 c2 : Nat) (L : List Pr) (h : RdP w a n L) (h2 : RdP w a2 n2 L) (hn : L.length ≤ 90000) :
    Calls Try.prog 12 #[.slice a n c, .slice a2 n2 c2] w fun e w' => e = .returned (.bool true) ∧ Hid (Below w.heap.size w w') := by
  have := same_any w a n c L a2 n2 c2 L h h2 (by have := h.1; omega) (by have := h2.1; omega)
  rw [sameP_yes rfl] at this
  exact this

set_option maxRecDepth 100000 in
set_option maxHeartbeats 4000000 in
theorem maps_law (l : List ActV) (a : Option Addr) (len cap : Nat) (w : World) (h : ArgA w a len cap l) :
    Calls Try.prog 3 #[.slice a len cap] w fun e w' => e = .returned (.bool true) ∧ Below w.heap.size w w' := by
  have HA : Hid (ArgA w a len cap l) := h
  clear h
  go_enter Try.func3, Try.ntmps3
  go_wp2_with fail
  refine (few_is w a len cap l HA.out).mono ?_
  rintro e w1 ⟨b, rfl, HF, HB1⟩
  cases b with
  | false =>
    go_wp2_with (go_at_call 9; refine (lives_is w1).mono ?_; rintro e w2 ⟨rfl, HB2⟩)
    go_ret
    exact ⟨rfl, HB1.out.trans (HB2.out.mono HB1.out.size)⟩
  | true =>
    have HL : Hid (len ≤ 400 ∧ ∀ x ∈ l, x.key.size ≤ 100000) := HF.out rfl
    clear HF
    go_wp2_with (first
      | (go_at_call 10; refine (new_is w1).mono ?_; rintro e w2 ⟨rfl, HM2, HB2⟩; have HMM : Hid (w.heap.size ≤ w1.heap.size) := HB1.out.size; have HW2 : Hid (Below w.heap.size w w2) := HB1.out.trans (HB2.out.mono HB1.out.size); have HTR2 : Hid (Tr w2 w1.heap.size []) := .inl ⟨HM2.out, rfl⟩)
      | (go_at_call 11; refine (tclone w2 w1.heap.size [] HTR2.out).mono ?_; rintro e w3 ⟨cm, rfl, HC3, HB3⟩))
    have HW3 : Hid (Below w.heap.size w w3) := HW2.out.trans (HB3.out.mono HW2.out.size)
    have HNE3 : Hid (w1.heap.size ≠ cm) := by
      have h1 := HTR2.out.lt
      have h2 := HC3.out.1
      show _ ≠ _
      omega
    generalize w1.heap.size = mb0 at *
    go_loopw [20, 3, 4, 5, 6] (fun u mp lv op wv wr => ∃ (i mb : Nat) (a' : Option Addr) (n' c' : Nat) (L' : List Pr) (ob : Nat) (ao : Option Addr) (no co : Nat) (Lo : List Pr), u = .int .i64 (i : Int) ∧ mp = .pointer (some ⟨mb, 0, none⟩) ∧ lv = .slice a' n' c' ∧ op = .pointer (some ⟨ob, 0, none⟩) ∧ wv = .slice ao no co ∧ Hid (i ≤ len ∧ L'.length ≤ i * 60 ∧ Lo.length ≤ i * 60) ∧ Hid (Tr wr mb L' ∧ RdP wr a' n' L' ∧ Cap a' n' c') ∧ Hid (Tr wr ob Lo ∧ RdP wr ao no Lo) ∧ Hid (mb ≠ ob ∧ w.heap.size ≤ mb) ∧ Hid (Below w.heap.size w wr)) (fun u _ _ _ _ _ => len - (intOf u).toNat)
    case atStart => exact ⟨0, mb0, none, 0, 0, [], cm, none, 0, 0, [], rfl, rfl, rfl, rfl, rfl, ⟨Nat.zero_le _, Nat.le_refl _, Nat.le_refl _⟩, ⟨HC3.out.2.2, ⟨rfl, fun h => absurd h (by omega)⟩, Nat.le_refl _, .inl ⟨rfl, rfl⟩⟩, ⟨HC3.out.2.1, ⟨rfl, fun h => absurd h (by omega)⟩⟩, ⟨HNE3.out, HMM.out⟩, HW3.out⟩
    case round =>
      obtain ⟨i, mb, a', n', c', L', ob, ao, no, co, Lo, rfl, rfl, rfl, rfl, rfl, HI, HT, HO, HNM, HB⟩ := hrel
      by_cases hi : i < len
      · obtain ⟨x, hx⟩ : ∃ x, l[i]? = some x := ⟨_, List.getElem?_eq_getElem (by rw [HA.out.1]; exact hi)⟩
        obtain ⟨bb, off, rfl, hbl, hat⟩ := HA.out.2.2.2 (by omega)
        obtain ⟨c0, c1, c2, c3, s1, s2⟩ := (hat i x hx)
        have d0 := (HB.out.cell (p := ⟨bb, off + i * 4, none⟩) hbl).trans c0
        have d1 := (HB.out.cell (p := ⟨bb, off + i * 4 + 1, none⟩) hbl).trans c1
        have d2 := (HB.out.cell (p := ⟨bb, off + i * 4 + 2, none⟩) hbl).trans c2
        have d3 := (HB.out.cell (p := ⟨bb, off + i * 4 + 3, none⟩) hbl).trans c3
        have HXL : Hid (i < len ∧ x.key.size ≤ 100000) := ⟨hi, HL.out.2 x (List.mem_of_getElem? hx)⟩
        have q1 : (i : Int) < (len : Int) := by omega
        have q5 : (len : Int) ≤ 400 := by have := HL.out.1; omega
        have q6 : (0 : Int) ≤ (i : Int) := by omega
        have HB3 : Hid (Below wr.heap.size wr (wr.alloc (.cells #[.int .i64 x.kind, .string x.key, .string x.val, .int .i64 x.n] 29))) := (Below.refl _ wr).alloc (Nat.le_refl _) _
        clear c0 c1 c2 c3 hat hx hi hbl s1 s2
        obtain ⟨kind, key, val, nn⟩ := x
        dsimp only at d0 d1 d2 d3 HB3 HXL
        by_cases hk4 : kind = 4
        · subst hk4
          have hbx := Blk.new wr #[.int .i64 4, .string key, .string val, .int .i64 nn] 29
          have HBX : Hid (∀ W, Below (wr.alloc (.cells #[.int .i64 4, .string key, .string val, .int .i64 nn] 29)).heap.size (wr.alloc (.cells #[.int .i64 4, .string key, .string val, .int .i64 nn] 29)) W → W.cell? ⟨wr.heap.size, 0, none⟩ = some (.int .i64 4) ∧ W.cell? ⟨wr.heap.size, 1, none⟩ = some (.string key) ∧ W.cell? ⟨wr.heap.size, 2, none⟩ = some (.string val) ∧ W.cell? ⟨wr.heap.size, 3, none⟩ = some (.int .i64 nn)) := fun W hW =>
            ⟨(hW.cell (p := ⟨wr.heap.size, 0, none⟩) (by simp)).trans (hbx.cell (i := 0) rfl), (hW.cell (p := ⟨wr.heap.size, 1, none⟩) (by simp)).trans (hbx.cell (i := 1) rfl), (hW.cell (p := ⟨wr.heap.size, 2, none⟩) (by simp)).trans (hbx.cell (i := 2) rfl), (hW.cell (p := ⟨wr.heap.size, 3, none⟩) (by simp)).trans (hbx.cell (i := 3) rfl)⟩
          clear hbx
          by_cases h5 : (i : Int) % 5 = 0
          · have h5b : ((i : Int) % 5 == 0) = true := by simpa using h5
            go_wp2_with (first
              | (go_at_call 14; (with_reducible refine Calls.mono HP.out ?_); rintro e w7 ⟨a4, n4, c4, L4, rfl, HT4, HG4⟩; have HB7 : Hid (Below w.heap.size w w7) := below_grownBy HBP.out HG4.out HMP.out (Nat.le_refl _); have HN4 : Hid (n4 = L4.length ∧ L4.length ≤ 24000 ∧ L4.length ≤ (i + 1) * 60) := ⟨HT4.out.2.1.1.symm, (by have := HT4.out.2.2.2; have := HI.out; have := HXL.out; have := HL.out.1; omega), (by have := HT4.out.2.2.2; have := HI.out; omega)⟩; have HO7 : Hid (Tr w7 mb L' ∧ RdP w7 a' n' L') := ⟨HOP.out.1.keptBy HG4.out HMT.out.oth HNE.out, HOP.out.2.oth HG4.out HMT.out.oth⟩; have hn4 := HN4.out.1; subst hn4)
              | (go_at_call 15; refine (tlen w7 cm L4 HT4.out.1).mono ?_; rintro e w8 ⟨rfl, rfl⟩)
              | (go_at_call 12; refine (same_yes w8 a8 n8 c8 a4 _ c4 L4 HR8.out (HT4.out.2.1.below HB8.out (Nat.le_refl _)) (by have := HN4.out; omega)).mono ?_; rintro e w9 ⟨rfl, hB9⟩; have HB9 : Hid (Below w7.heap.size w7 w9) := HB8.out.trans (hB9.out.mono HB8.out.size); clear hB9)
              | (go_at_call 13; refine (told_full w7 cm L4 HT4.out.1 (by have := HN4.out; omega)).mono ?_; rintro e w8 ⟨a8, n8, c8, rfl, HR8, HB8⟩)
              | (go_at_call 12; refine (same_yes w4 a5 n5 c5 ao no co Lo HR4.out (HO.out.2.below (HB3.out.trans (HB4.out.mono HB3.out.size)) (Nat.le_refl _)) (by have := HI.out; have := HL.out.1; have := HXL.out; omega)).mono ?_; rintro e w5 ⟨rfl, hB5⟩; have hB45 : Hid (Below w4.heap.size w4 w5) := hB5; have HB5 : Hid (Below wr.heap.size wr w5) := (HB3.out.trans (HB4.out.mono HB3.out.size)).trans (hB5.out.mono (HB3.out.trans (HB4.out.mono HB3.out.size)).size); clear hB5)
              | (go_at_call 13; refine (told_full (wr.alloc (.cells #[.int .i64 4, .string key, .string val, .int .i64 nn] 29)) ob Lo (HO.out.1.below HB3.out) (by have := HI.out; have := HL.out.1; have := HXL.out; omega)).mono ?_; rintro e w4 ⟨a5, n5, c5, rfl, HR4, HB4⟩)
              | (go_at_call 11; refine (tclone w5 mb L' (HT.out.1.below HB5.out)).mono ?_; rintro e w6 ⟨cm, rfl, HC6, hB6⟩; have HB6 : Hid (Below wr.heap.size wr w6) := HB5.out.trans (hB6.out.mono HB5.out.size); have HBP : Hid (Below w.heap.size w w6) := HB.out.trans (HB6.out.mono HB.out.size); have HMT : Hid (Tr w6 cm L') := HC6.out.2.1; have HNE : Hid (mb ≠ cm) := (by have h1 := (HT.out.1.below HB5.out).lt; have h2 := HC6.out.1; show _ ≠ _; omega); have HMP : Hid (w.heap.size ≤ cm) := (by have h1 := HC6.out.1; have h2 := HB5.out.size; have h3 := HB.out.size; show _ ≤ _; omega); have HOP : Hid (Tr w6 mb L' ∧ RdP w6 a' n' L') := ⟨HC6.out.2.2, HT.out.2.1.below HB6.out (Nat.le_refl _)⟩; have k9 := HBX.out w6 (((HB4.out).trans (hB45.out.mono HB4.out.size)).trans (hB6.out.mono ((HB4.out).trans (hB45.out.mono HB4.out.size)).size)); have HP : Hid (Calls Try.prog 14 #[.pointer (some ⟨cm, 0, none⟩), .slice a' n' c', .agg #[.int .i64 4, .string key, .string val, .int .i64 nn]] w6 (PlayP w6 cm L')) := play_is w6 cm a' n' c' L' ⟨4, key, val, nn⟩ HMT.out HOP.out.2 HT.out.2.2 HXL.out.2 (by have := HI.out; have := HL.out.1; have := HXL.out; omega); obtain ⟨k90, k91, k92, k93⟩ := k9; clear hB6))
            have HBF : Hid (Below w.heap.size w w9) := HB7.out.trans (HB9.out.mono HB7.out.size)
            go_roundw
            case rel => exact ⟨i + 1, cm, a4, _, c4, L4, mb, a', n', c', L', by simp, rfl, rfl, rfl, rfl, ⟨HXL.out.1, HN4.out.2.2, by have := HI.out; omega⟩, ⟨HT4.out.1.below HB9.out, HT4.out.2.1.below HB9.out (Nat.le_refl _), HT4.out.2.2.1⟩, ⟨HO7.out.1.below HB9.out, HO7.out.2.below HB9.out (Nat.le_refl _)⟩, ⟨fun e => HNE.out (by omega), HMP.out⟩, HBF.out⟩
            case measure => have := HXL.out; simp [intOf]; omega
          · have h5b : ((i : Int) % 5 == 0) = false := by simpa using h5
            go_wp2_with (first
              | (go_at_call 14; (with_reducible refine Calls.mono HP.out ?_); rintro e w7 ⟨a4, n4, c4, L4, rfl, HT4, HG4⟩; have HB7 : Hid (Below w.heap.size w w7) := below_grownBy HBP.out HG4.out HMP.out (Nat.le_refl _); have HN4 : Hid (n4 = L4.length ∧ L4.length ≤ 24000 ∧ L4.length ≤ (i + 1) * 60) := ⟨HT4.out.2.1.1.symm, (by have := HT4.out.2.2.2; have := HI.out; have := HXL.out; have := HL.out.1; omega), (by have := HT4.out.2.2.2; have := HI.out; omega)⟩; have HO7 : Hid (Tr w7 mb L' ∧ RdP w7 a' n' L') := ⟨HOP.out.1.keptBy HG4.out HMT.out.oth HNE.out, HOP.out.2.oth HG4.out HMT.out.oth⟩; have hn4 := HN4.out.1; subst hn4)
              | (go_at_call 15; refine (tlen w7 cm L4 HT4.out.1).mono ?_; rintro e w8 ⟨rfl, rfl⟩)
              | (go_at_call 12; refine (same_yes w8 a8 n8 c8 a4 _ c4 L4 HR8.out (HT4.out.2.1.below HB8.out (Nat.le_refl _)) (by have := HN4.out; omega)).mono ?_; rintro e w9 ⟨rfl, hB9⟩; have HB9 : Hid (Below w7.heap.size w7 w9) := HB8.out.trans (hB9.out.mono HB8.out.size); clear hB9)
              | (go_at_call 13; refine (told_full w7 cm L4 HT4.out.1 (by have := HN4.out; omega)).mono ?_; rintro e w8 ⟨a8, n8, c8, rfl, HR8, HB8⟩)
              | (go_at_call 12; refine (same_yes w4 a5 n5 c5 ao no co Lo HR4.out (HO.out.2.below (HB3.out.trans (HB4.out.mono HB3.out.size)) (Nat.le_refl _)) (by have := HI.out; have := HL.out.1; have := HXL.out; omega)).mono ?_; rintro e w5 ⟨rfl, hB5⟩; have hB45 : Hid (Below w4.heap.size w4 w5) := hB5; have HB5 : Hid (Below wr.heap.size wr w5) := (HB3.out.trans (HB4.out.mono HB3.out.size)).trans (hB5.out.mono (HB3.out.trans (HB4.out.mono HB3.out.size)).size); clear hB5)
              | (go_at_call 13; refine (told_full (wr.alloc (.cells #[.int .i64 4, .string key, .string val, .int .i64 nn] 29)) ob Lo (HO.out.1.below HB3.out) (by have := HI.out; have := HL.out.1; have := HXL.out; omega)).mono ?_; rintro e w4 ⟨a5, n5, c5, rfl, HR4, HB4⟩)
              | (go_at_call 11; refine (tclone w5 mb L' (HT.out.1.below HB5.out)).mono ?_; rintro e w6 ⟨cm, rfl, HC6, hB6⟩; have HB6 : Hid (Below wr.heap.size wr w6) := HB5.out.trans (hB6.out.mono HB5.out.size); have HBP : Hid (Below w.heap.size w w6) := HB.out.trans (HB6.out.mono HB.out.size); have HMT : Hid (Tr w6 cm L') := HC6.out.2.1; have HNE : Hid (mb ≠ cm) := (by have h1 := (HT.out.1.below HB5.out).lt; have h2 := HC6.out.1; show _ ≠ _; omega); have HMP : Hid (w.heap.size ≤ cm) := (by have h1 := HC6.out.1; have h2 := HB5.out.size; have h3 := HB.out.size; show _ ≤ _; omega); have HOP : Hid (Tr w6 mb L' ∧ RdP w6 a' n' L') := ⟨HC6.out.2.2, HT.out.2.1.below HB6.out (Nat.le_refl _)⟩; have k9 := HBX.out w6 (((HB4.out).trans (hB45.out.mono HB4.out.size)).trans (hB6.out.mono ((HB4.out).trans (hB45.out.mono HB4.out.size)).size)); have HP : Hid (Calls Try.prog 14 #[.pointer (some ⟨cm, 0, none⟩), .slice a' n' c', .agg #[.int .i64 4, .string key, .string val, .int .i64 nn]] w6 (PlayP w6 cm L')) := play_is w6 cm a' n' c' L' ⟨4, key, val, nn⟩ HMT.out HOP.out.2 HT.out.2.2 HXL.out.2 (by have := HI.out; have := HL.out.1; have := HXL.out; omega); obtain ⟨k90, k91, k92, k93⟩ := k9; clear hB6))
            go_roundw
            case rel => exact ⟨i + 1, cm, a4, _, c4, L4, mb, a', n', c', L', by simp, rfl, rfl, rfl, rfl, ⟨HXL.out.1, HN4.out.2.2, by have := HI.out; omega⟩, ⟨HT4.out.1, HT4.out.2.1, HT4.out.2.2.1⟩, ⟨HO7.out.1, HO7.out.2⟩, ⟨fun e => HNE.out (by omega), HMP.out⟩, HB7.out⟩
            case measure => have := HXL.out; simp [intOf]; omega
        · have HP : Hid (Calls Try.prog 14 #[.pointer (some ⟨mb, 0, none⟩), .slice a' n' c', .agg #[.int .i64 kind, .string key, .string val, .int .i64 nn]] (wr.alloc (.cells #[.int .i64 kind, .string key, .string val, .int .i64 nn] 29)) (PlayP (wr.alloc (.cells #[.int .i64 kind, .string key, .string val, .int .i64 nn] 29)) mb L')) := play_is _ mb a' n' c' L' ⟨kind, key, val, nn⟩ (HT.out.1.below HB3.out) (HT.out.2.1.below HB3.out (Nat.le_refl _)) HT.out.2.2 HXL.out.2 (by have := HI.out; have := HL.out.1; have := HXL.out; omega)
          have HBP : Hid (Below w.heap.size w (wr.alloc (.cells #[.int .i64 kind, .string key, .string val, .int .i64 nn] 29))) := HB.out.alloc HB.out.size _
          have HMT : Hid (Tr (wr.alloc (.cells #[.int .i64 kind, .string key, .string val, .int .i64 nn] 29)) mb L') := HT.out.1.below HB3.out
          have HOP : Hid (Tr (wr.alloc (.cells #[.int .i64 kind, .string key, .string val, .int .i64 nn] 29)) ob Lo ∧ RdP (wr.alloc (.cells #[.int .i64 kind, .string key, .string val, .int .i64 nn] 29)) ao no Lo) := ⟨HO.out.1.below HB3.out, HO.out.2.below HB3.out (Nat.le_refl _)⟩
          have HMP : Hid (w.heap.size ≤ mb) := HNM.out.2
          have HNE : Hid (ob ≠ mb) := fun e => HNM.out.1 e.symm
          clear HB3
          by_cases h5 : (i : Int) % 5 = 0
          · have h5b : ((i : Int) % 5 == 0) = true := by simpa using h5
            go_wp2_with (first
              | (go_at_call 14; (with_reducible refine Calls.mono HP.out ?_); rintro e w7 ⟨a4, n4, c4, L4, rfl, HT4, HG4⟩; have HB7 : Hid (Below w.heap.size w w7) := below_grownBy HBP.out HG4.out HMP.out (Nat.le_refl _); have HN4 : Hid (n4 = L4.length ∧ L4.length ≤ 24000 ∧ L4.length ≤ (i + 1) * 60) := ⟨HT4.out.2.1.1.symm, (by have := HT4.out.2.2.2; have := HI.out; have := HXL.out; have := HL.out.1; omega), (by have := HT4.out.2.2.2; have := HI.out; omega)⟩; have HO7 : Hid (Tr w7 ob Lo ∧ RdP w7 ao no Lo) := ⟨HOP.out.1.keptBy HG4.out HMT.out.oth HNE.out, HOP.out.2.oth HG4.out HMT.out.oth⟩; have hn4 := HN4.out.1; subst hn4)
              | (go_at_call 15; refine (tlen w7 mb L4 HT4.out.1).mono ?_; rintro e w8 ⟨rfl, rfl⟩)
              | (go_at_call 12; refine (same_yes w8 a8 n8 c8 a4 _ c4 L4 HR8.out (HT4.out.2.1.below HB8.out (Nat.le_refl _)) (by have := HN4.out; omega)).mono ?_; rintro e w9 ⟨rfl, hB9⟩; have HB9 : Hid (Below w7.heap.size w7 w9) := HB8.out.trans (hB9.out.mono HB8.out.size); clear hB9)
              | (go_at_call 13; refine (told_full w7 mb L4 HT4.out.1 (by have := HN4.out; omega)).mono ?_; rintro e w8 ⟨a8, n8, c8, rfl, HR8, HB8⟩))
            have HBF : Hid (Below w.heap.size w w9) := HB7.out.trans (HB9.out.mono HB7.out.size)
            go_roundw
            case rel => exact ⟨i + 1, mb, a4, _, c4, L4, ob, ao, no, co, Lo, by simp, rfl, rfl, rfl, rfl, ⟨HXL.out.1, HN4.out.2.2, by have := HI.out; omega⟩, ⟨HT4.out.1.below HB9.out, HT4.out.2.1.below HB9.out (Nat.le_refl _), HT4.out.2.2.1⟩, ⟨HO7.out.1.below HB9.out, HO7.out.2.below HB9.out (Nat.le_refl _)⟩, ⟨fun e => HNE.out (by omega), HMP.out⟩, HBF.out⟩
            case measure => have := HXL.out; simp [intOf]; omega
          · have h5b : ((i : Int) % 5 == 0) = false := by simpa using h5
            go_wp2_with (first
              | (go_at_call 14; (with_reducible refine Calls.mono HP.out ?_); rintro e w7 ⟨a4, n4, c4, L4, rfl, HT4, HG4⟩; have HB7 : Hid (Below w.heap.size w w7) := below_grownBy HBP.out HG4.out HMP.out (Nat.le_refl _); have HN4 : Hid (n4 = L4.length ∧ L4.length ≤ 24000 ∧ L4.length ≤ (i + 1) * 60) := ⟨HT4.out.2.1.1.symm, (by have := HT4.out.2.2.2; have := HI.out; have := HXL.out; have := HL.out.1; omega), (by have := HT4.out.2.2.2; have := HI.out; omega)⟩; have HO7 : Hid (Tr w7 ob Lo ∧ RdP w7 ao no Lo) := ⟨HOP.out.1.keptBy HG4.out HMT.out.oth HNE.out, HOP.out.2.oth HG4.out HMT.out.oth⟩; have hn4 := HN4.out.1; subst hn4)
              | (go_at_call 15; refine (tlen w7 mb L4 HT4.out.1).mono ?_; rintro e w8 ⟨rfl, rfl⟩)
              | (go_at_call 12; refine (same_yes w8 a8 n8 c8 a4 _ c4 L4 HR8.out (HT4.out.2.1.below HB8.out (Nat.le_refl _)) (by have := HN4.out; omega)).mono ?_; rintro e w9 ⟨rfl, hB9⟩; have HB9 : Hid (Below w7.heap.size w7 w9) := HB8.out.trans (hB9.out.mono HB8.out.size); clear hB9)
              | (go_at_call 13; refine (told_full w7 mb L4 HT4.out.1 (by have := HN4.out; omega)).mono ?_; rintro e w8 ⟨a8, n8, c8, rfl, HR8, HB8⟩))
            go_roundw
            case rel => exact ⟨i + 1, mb, a4, _, c4, L4, ob, ao, no, co, Lo, by simp, rfl, rfl, rfl, rfl, ⟨HXL.out.1, HN4.out.2.2, by have := HI.out; omega⟩, ⟨HT4.out.1, HT4.out.2.1, HT4.out.2.2.1⟩, ⟨HO7.out.1, HO7.out.2⟩, ⟨fun e => HNE.out (by omega), HMP.out⟩, HB7.out⟩
            case measure => have := HXL.out; simp [intOf]; omega
      · have q1 : ¬ (i : Int) < (len : Int) := by omega
        have hno : no = Lo.length := HO.out.2.1.symm
        subst hno
        have HLL : Hid (L'.length ≤ 90000 ∧ Lo.length ≤ 90000) := ⟨by have := HI.out; have := HL.out.1; omega, by have := HI.out; have := HL.out.1; omega⟩
        go_wp2_with (first
          | (go_at_call 9; refine (lives_is w7).mono ?_; rintro e w9 ⟨rfl, HB9⟩)
          | (go_at_call 15; refine (tlen w7 ob Lo (HO.out.1.below HB7.out)).mono ?_; rintro e w8 ⟨rfl, rfl⟩)
          | (go_at_call 12; refine (same_yes w6 a6 n6 c6 ao _ co Lo HR6.out (HO.out.2.below HB6.out (Nat.le_refl _)) HLL.out.2).mono ?_; rintro e w7 ⟨rfl, hB7⟩; have HB7 : Hid (Below wr.heap.size wr w7) := HB6.out.trans (hB7.out.mono HB6.out.size); clear hB7)
          | (go_at_call 13; refine (told_full w5 ob Lo (HO.out.1.below HB5.out) HLL.out.2).mono ?_; rintro e w6 ⟨a6, n6, c6, rfl, HR6, hB6⟩; have HB6 : Hid (Below wr.heap.size wr w6) := HB5.out.trans (hB6.out.mono HB5.out.size); clear hB6)
          | (go_at_call 12; refine (same_yes w4 a5 n5 c5 a' _ c' L' HR4.out (HT.out.2.1.below HB4.out (Nat.le_refl _)) HLL.out.1).mono ?_; rintro e w5 ⟨rfl, hB5⟩; have HB5 : Hid (Below wr.heap.size wr w5) := HB4.out.trans (hB5.out.mono HB4.out.size); clear hB5)
          | (go_at_call 13; refine (told_full wr mb L' HT.out.1 HLL.out.1).mono ?_; rintro e w4 ⟨a5, n5, c5, rfl, HR4, HB4⟩))
        go_ret
        exact ⟨rfl, (HB.out.trans (HB7.out.mono HB.out.size)).trans (HB9.out.mono (HB.out.trans (HB7.out.mono HB.out.size)).size)⟩
end Go.Proofs.Ytnagknlfboadkaa.Oct
