/-
  Layer 7 (tree): the law TreeMaps.
  Layer 7 (tree): what stands between two rounds of TreeScans.
  Layer 7 (tree): the law TreeScans.
-/
import Derived.Test.YtnagknlfboadkaaSc7
/- Layer 7 (tree): the law TreeMaps. -/
namespace Go.Proofs.Ytnagknlfboadkaa.Oct
open Go.RowKit

theorem Tr.keptBy {w w' : World} {m o : Nat} {L : List Pr} (h : Tr w o L) (hg : w.grownBy w' (some m)) (ho : Oth w m) (hne : o ≠ m) : Tr w' o L := by
  obtain ⟨p, h1, h2⟩ := h.root
  exact (h2.oth hg ho).tr (Blk.kept (show Blk w o 48 _ from h1) hg (by simpa using hne))
theorem told_full (w : World) (m : Nat) (L : List Pr) (hT : Tr w m L) (hn : L.length ≤ 90000) :
    Calls Try.prog 13 #[.pointer (some ⟨m, 0, none⟩), .string ⟨#[]⟩, .string ⟨#[]⟩] w fun e w' => ∃ (a : Option Addr) (n c : Nat), e = .returned (.slice a n c) ∧ Hid (RdP w' a n L) ∧ Hid (Below w.heap.size w w') := by
  refine (told_all w m L ⟨#[]⟩ ⟨#[]⟩ hT (by omega)).mono ?_
  rintro e w' ⟨u, rfl, hO, hB⟩
  have hO2 : Bs 40 2 w.heap.size w' u (scanT ⟨#[]⟩ ⟨#[]⟩ L).length ((scanT ⟨#[]⟩ ⟨#[]⟩ L).flatMap pc) := .inr ⟨fun u hu => by
    obtain ⟨x, _, hx⟩ := List.mem_flatMap.1 hu
    simp only [pc, List.mem_cons, List.not_mem_nil, or_false] at hx
    rcases hx with rfl | rfl <;> rfl, hO.out⟩
  obtain ⟨a', c', rfl, _, h2, _⟩ := hO2.read
  have e : scanT ⟨#[]⟩ ⟨#[]⟩ L = L := by
    rw [scanT_is hT.ris]
    refine List.filter_eq_self.2 fun x _ => ?_
    unfold inS okS geS
    rw [l0]
    cases x.1.toList <;> simp [Op.bytesLess]
  rw [e] at h2
  exact ⟨a', _, c', rfl, by rw [e]; exact h2.toP, hB⟩
theorem same_yes (w : World) (a : Option Addr) (n c : Nat) (a2 : Option Addr) (n2 c2 : Nat) (L : List Pr) (h : RdP w a n L) (h2 : RdP w a2 n2 L) (hn : L.length ≤ 90000) :
    Calls Try.prog 12 #[.slice a n c, .slice a2 n2 c2] w fun e w' => e = .returned (.bool true) ∧ Hid (Below w.heap.size w w') := by
  have := same_any w a n c L a2 n2 c2 L h h2 (by have := h.1; omega) (by have := h2.1; omega)
  rw [sameP_yes rfl] at this
  exact this

set_option maxRecDepth 100000 in
set_option maxHeartbeats 4000000 in
theorem maps_law (l : List ActV) (a : Option Addr) (len cap : Nat) (w : World) (h : ArgA w a len cap l) :
    Calls Try.prog 3 #[.slice a len cap] w fun e w' => e = .returned (.bool true) ∧ Below w.heap.size w w' := by
  have HA : Hid (ArgA w a len cap l) := h
  clear h
  go_enter Try.func3, Try.ntmps3
  go_wp2_with fail
  refine (few_is w a len cap l HA.out).mono ?_
  rintro e w1 ⟨b, rfl, HF, HB1⟩
  cases b with
  | false =>
    go_wp2_with (go_at_call 9; refine (lives_is w1).mono ?_; rintro e w2 ⟨rfl, HB2⟩)
    go_ret
    exact ⟨rfl, HB1.out.trans (HB2.out.mono HB1.out.size)⟩
  | true =>
    have HL : Hid (len ≤ 400 ∧ ∀ x ∈ l, x.key.size ≤ 100000) := HF.out rfl
    clear HF
    go_wp2_with (first
      | (go_at_call 10; refine (new_is w1).mono ?_; rintro e w2 ⟨rfl, HM2, HB2⟩; have HMM : Hid (w.heap.size ≤ w1.heap.size) := HB1.out.size; have HW2 : Hid (Below w.heap.size w w2) := HB1.out.trans (HB2.out.mono HB1.out.size); have HTR2 : Hid (Tr w2 w1.heap.size []) := .inl ⟨HM2.out, rfl⟩)
      | (go_at_call 11; refine (tclone w2 w1.heap.size [] HTR2.out).mono ?_; rintro e w3 ⟨cm, rfl, HC3, HB3⟩))
    have HW3 : Hid (Below w.heap.size w w3) := HW2.out.trans (HB3.out.mono HW2.out.size)
    have HNE3 : Hid (w1.heap.size ≠ cm) := by
      have h1 := HTR2.out.lt
      have h2 := HC3.out.1
      show _ ≠ _
      omega
    generalize w1.heap.size = mb0 at *
    go_loopw [20, 3, 4, 5, 6] (fun u mp lv op wv wr => ∃ (i mb : Nat) (a' : Option Addr) (n' c' : Nat) (L' : List Pr) (ob : Nat) (ao : Option Addr) (no co : Nat) (Lo : List Pr), u = .int .i64 (i : Int) ∧ mp = .pointer (some ⟨mb, 0, none⟩) ∧ lv = .slice a' n' c' ∧ op = .pointer (some ⟨ob, 0, none⟩) ∧ wv = .slice ao no co ∧ Hid (i ≤ len ∧ L'.length ≤ i * 60 ∧ Lo.length ≤ i * 60) ∧ Hid (Tr wr mb L' ∧ RdP wr a' n' L' ∧ Cap a' n' c') ∧ Hid (Tr wr ob Lo ∧ RdP wr ao no Lo) ∧ Hid (mb ≠ ob ∧ w.heap.size ≤ mb) ∧ Hid (Below w.heap.size w wr)) (fun u _ _ _ _ _ => len - (intOf u).toNat)
    case atStart => exact ⟨0, mb0, none, 0, 0, [], cm, none, 0, 0, [], rfl, rfl, rfl, rfl, rfl, ⟨Nat.zero_le _, Nat.le_refl _, Nat.le_refl _⟩, ⟨HC3.out.2.2, ⟨rfl, fun h => absurd h (by omega)⟩, Nat.le_refl _, .inl ⟨rfl, rfl⟩⟩, ⟨HC3.out.2.1, ⟨rfl, fun h => absurd h (by omega)⟩⟩, ⟨HNE3.out, HMM.out⟩, HW3.out⟩
    case round =>
      obtain ⟨i, mb, a', n', c', L', ob, ao, no, co, Lo, rfl, rfl, rfl, rfl, rfl, HI, HT, HO, HNM, HB⟩ := hrel
      by_cases hi : i < len
      · obtain ⟨x, hx⟩ : ∃ x, l[i]? = some x := ⟨_, List.getElem?_eq_getElem (by rw [HA.out.1]; exact hi)⟩
        obtain ⟨bb, off, rfl, hbl, hat⟩ := HA.out.2.2.2 (by omega)
        obtain ⟨c0, c1, c2, c3, s1, s2⟩ := (hat i x hx)
        have d0 := (HB.out.cell (p := ⟨bb, off + i * 4, none⟩) hbl).trans c0
        have d1 := (HB.out.cell (p := ⟨bb, off + i * 4 + 1, none⟩) hbl).trans c1
        have d2 := (HB.out.cell (p := ⟨bb, off + i * 4 + 2, none⟩) hbl).trans c2
        have d3 := (HB.out.cell (p := ⟨bb, off + i * 4 + 3, none⟩) hbl).trans c3
        have HXL : Hid (i < len ∧ x.key.size ≤ 100000) := ⟨hi, HL.out.2 x (List.mem_of_getElem? hx)⟩
        have q1 : (i : Int) < (len : Int) := by omega
        have q5 : (len : Int) ≤ 400 := by have := HL.out.1; omega
        have q6 : (0 : Int) ≤ (i : Int) := by omega
        have HB3 : Hid (Below wr.heap.size wr (wr.alloc (.cells #[.int .i64 x.kind, .string x.key, .string x.val, .int .i64 x.n] 29))) := (Below.refl _ wr).alloc (Nat.le_refl _) _
        clear c0 c1 c2 c3 hat hx hi hbl s1 s2
        obtain ⟨kind, key, val, nn⟩ := x
        dsimp only at d0 d1 d2 d3 HB3 HXL
        by_cases hk4 : kind = 4
        · subst hk4
          have hbx := Blk.new wr #[.int .i64 4, .string key, .string val, .int .i64 nn] 29
          have HBX : Hid (∀ W, Below (wr.alloc (.cells #[.int .i64 4, .string key, .string val, .int .i64 nn] 29)).heap.size (wr.alloc (.cells #[.int .i64 4, .string key, .string val, .int .i64 nn] 29)) W → W.cell? ⟨wr.heap.size, 0, none⟩ = some (.int .i64 4) ∧ W.cell? ⟨wr.heap.size, 1, none⟩ = some (.string key) ∧ W.cell? ⟨wr.heap.size, 2, none⟩ = some (.string val) ∧ W.cell? ⟨wr.heap.size, 3, none⟩ = some (.int .i64 nn)) := fun W hW =>
            ⟨(hW.cell (p := ⟨wr.heap.size, 0, none⟩) (by simp)).trans (hbx.cell (i := 0) rfl), (hW.cell (p := ⟨wr.heap.size, 1, none⟩) (by simp)).trans (hbx.cell (i := 1) rfl), (hW.cell (p := ⟨wr.heap.size, 2, none⟩) (by simp)).trans (hbx.cell (i := 2) rfl), (hW.cell (p := ⟨wr.heap.size, 3, none⟩) (by simp)).trans (hbx.cell (i := 3) rfl)⟩
          clear hbx
          by_cases h5 : (i : Int) % 5 = 0
          · have h5b : ((i : Int) % 5 == 0) = true := by simpa using h5
            go_wp2_with (first
              | (go_at_call 14; (with_reducible refine Calls.mono HP.out ?_); rintro e w7 ⟨a4, n4, c4, L4, rfl, HT4, HG4⟩; have HB7 : Hid (Below w.heap.size w w7) := below_grownBy HBP.out HG4.out HMP.out (Nat.le_refl _); have HN4 : Hid (n4 = L4.length ∧ L4.length ≤ 24000 ∧ L4.length ≤ (i + 1) * 60) := ⟨HT4.out.2.1.1.symm, (by have := HT4.out.2.2.2; have := HI.out; have := HXL.out; have := HL.out.1; omega), (by have := HT4.out.2.2.2; have := HI.out; omega)⟩; have HO7 : Hid (Tr w7 mb L' ∧ RdP w7 a' n' L') := ⟨HOP.out.1.keptBy HG4.out HMT.out.oth HNE.out, HOP.out.2.oth HG4.out HMT.out.oth⟩; have hn4 := HN4.out.1; subst hn4)
              | (go_at_call 15; refine (tlen w7 cm L4 HT4.out.1).mono ?_; rintro e w8 ⟨rfl, rfl⟩)
              | (go_at_call 12; refine (same_yes w8 a8 n8 c8 a4 _ c4 L4 HR8.out (HT4.out.2.1.below HB8.out (Nat.le_refl _)) (by have := HN4.out; omega)).mono ?_; rintro e w9 ⟨rfl, hB9⟩; have HB9 : Hid (Below w7.heap.size w7 w9) := HB8.out.trans (hB9.out.mono HB8.out.size); clear hB9)
              | (go_at_call 13; refine (told_full w7 cm L4 HT4.out.1 (by have := HN4.out; omega)).mono ?_; rintro e w8 ⟨a8, n8, c8, rfl, HR8, HB8⟩)
              | (go_at_call 12; refine (same_yes w4 a5 n5 c5 ao no co Lo HR4.out (HO.out.2.below (HB3.out.trans (HB4.out.mono HB3.out.size)) (Nat.le_refl _)) (by have := HI.out; have := HL.out.1; have := HXL.out; omega)).mono ?_; rintro e w5 ⟨rfl, hB5⟩; have hB45 : Hid (Below w4.heap.size w4 w5) := hB5; have HB5 : Hid (Below wr.heap.size wr w5) := (HB3.out.trans (HB4.out.mono HB3.out.size)).trans (hB5.out.mono (HB3.out.trans (HB4.out.mono HB3.out.size)).size); clear hB5)
              | (go_at_call 13; refine (told_full (wr.alloc (.cells #[.int .i64 4, .string key, .string val, .int .i64 nn] 29)) ob Lo (HO.out.1.below HB3.out) (by have := HI.out; have := HL.out.1; have := HXL.out; omega)).mono ?_; rintro e w4 ⟨a5, n5, c5, rfl, HR4, HB4⟩)
              | (go_at_call 11; refine (tclone w5 mb L' (HT.out.1.below HB5.out)).mono ?_; rintro e w6 ⟨cm, rfl, HC6, hB6⟩; have HB6 : Hid (Below wr.heap.size wr w6) := HB5.out.trans (hB6.out.mono HB5.out.size); have HBP : Hid (Below w.heap.size w w6) := HB.out.trans (HB6.out.mono HB.out.size); have HMT : Hid (Tr w6 cm L') := HC6.out.2.1; have HNE : Hid (mb ≠ cm) := (by have h1 := (HT.out.1.below HB5.out).lt; have h2 := HC6.out.1; show _ ≠ _; omega); have HMP : Hid (w.heap.size ≤ cm) := (by have h1 := HC6.out.1; have h2 := HB5.out.size; have h3 := HB.out.size; show _ ≤ _; omega); have HOP : Hid (Tr w6 mb L' ∧ RdP w6 a' n' L') := ⟨HC6.out.2.2, HT.out.2.1.below HB6.out (Nat.le_refl _)⟩; have k9 := HBX.out w6 (((HB4.out).trans (hB45.out.mono HB4.out.size)).trans (hB6.out.mono ((HB4.out).trans (hB45.out.mono HB4.out.size)).size)); have HP : Hid (Calls Try.prog 14 #[.pointer (some ⟨cm, 0, none⟩), .slice a' n' c', .agg #[.int .i64 4, .string key, .string val, .int .i64 nn]] w6 (PlayP w6 cm L')) := play_is w6 cm a' n' c' L' ⟨4, key, val, nn⟩ HMT.out HOP.out.2 HT.out.2.2 HXL.out.2 (by have := HI.out; have := HL.out.1; have := HXL.out; omega); obtain ⟨k90, k91, k92, k93⟩ := k9; clear hB6))
            have HBF : Hid (Below w.heap.size w w9) := HB7.out.trans (HB9.out.mono HB7.out.size)
            go_roundw
            case rel => exact ⟨i + 1, cm, a4, _, c4, L4, mb, a', n', c', L', by simp, rfl, rfl, rfl, rfl, ⟨HXL.out.1, HN4.out.2.2, by have := HI.out; omega⟩, ⟨HT4.out.1.below HB9.out, HT4.out.2.1.below HB9.out (Nat.le_refl _), HT4.out.2.2.1⟩, ⟨HO7.out.1.below HB9.out, HO7.out.2.below HB9.out (Nat.le_refl _)⟩, ⟨fun e => HNE.out (by omega), HMP.out⟩, HBF.out⟩
            case measure => have := HXL.out; simp [intOf]; omega
          · have h5b : ((i : Int) % 5 == 0) = false := by simpa using h5
            go_wp2_with (first
              | (go_at_call 14; (with_reducible refine Calls.mono HP.out ?_); rintro e w7 ⟨a4, n4, c4, L4, rfl, HT4, HG4⟩; have HB7 : Hid (Below w.heap.size w w7) := below_grownBy HBP.out HG4.out HMP.out (Nat.le_refl _); have HN4 : Hid (n4 = L4.length ∧ L4.length ≤ 24000 ∧ L4.length ≤ (i + 1) * 60) := ⟨HT4.out.2.1.1.symm, (by have := HT4.out.2.2.2; have := HI.out; have := HXL.out; have := HL.out.1; omega), (by have := HT4.out.2.2.2; have := HI.out; omega)⟩; have HO7 : Hid (Tr w7 mb L' ∧ RdP w7 a' n' L') := ⟨HOP.out.1.keptBy HG4.out HMT.out.oth HNE.out, HOP.out.2.oth HG4.out HMT.out.oth⟩; have hn4 := HN4.out.1; subst hn4)
              | (go_at_call 15; refine (tlen w7 cm L4 HT4.out.1).mono ?_; rintro e w8 ⟨rfl, rfl⟩)
              | (go_at_call 12; refine (same_yes w8 a8 n8 c8 a4 _ c4 L4 HR8.out (HT4.out.2.1.below HB8.out (Nat.le_refl _)) (by have := HN4.out; omega)).mono ?_; rintro e w9 ⟨rfl, hB9⟩; have HB9 : Hid (Below w7.heap.size w7 w9) := HB8.out.trans (hB9.out.mono HB8.out.size); clear hB9)
              | (go_at_call 13; refine (told_full w7 cm L4 HT4.out.1 (by have := HN4.out; omega)).mono ?_; rintro e w8 ⟨a8, n8, c8, rfl, HR8, HB8⟩)
              | (go_at_call 12; refine (same_yes w4 a5 n5 c5 ao no co Lo HR4.out (HO.out.2.below (HB3.out.trans (HB4.out.mono HB3.out.size)) (Nat.le_refl _)) (by have := HI.out; have := HL.out.1; have := HXL.out; omega)).mono ?_; rintro e w5 ⟨rfl, hB5⟩; have hB45 : Hid (Below w4.heap.size w4 w5) := hB5; have HB5 : Hid (Below wr.heap.size wr w5) := (HB3.out.trans (HB4.out.mono HB3.out.size)).trans (hB5.out.mono (HB3.out.trans (HB4.out.mono HB3.out.size)).size); clear hB5)
              | (go_at_call 13; refine (told_full (wr.alloc (.cells #[.int .i64 4, .string key, .string val, .int .i64 nn] 29)) ob Lo (HO.out.1.below HB3.out) (by have := HI.out; have := HL.out.1; have := HXL.out; omega)).mono ?_; rintro e w4 ⟨a5, n5, c5, rfl, HR4, HB4⟩)
              | (go_at_call 11; refine (tclone w5 mb L' (HT.out.1.below HB5.out)).mono ?_; rintro e w6 ⟨cm, rfl, HC6, hB6⟩; have HB6 : Hid (Below wr.heap.size wr w6) := HB5.out.trans (hB6.out.mono HB5.out.size); have HBP : Hid (Below w.heap.size w w6) := HB.out.trans (HB6.out.mono HB.out.size); have HMT : Hid (Tr w6 cm L') := HC6.out.2.1; have HNE : Hid (mb ≠ cm) := (by have h1 := (HT.out.1.below HB5.out).lt; have h2 := HC6.out.1; show _ ≠ _; omega); have HMP : Hid (w.heap.size ≤ cm) := (by have h1 := HC6.out.1; have h2 := HB5.out.size; have h3 := HB.out.size; show _ ≤ _; omega); have HOP : Hid (Tr w6 mb L' ∧ RdP w6 a' n' L') := ⟨HC6.out.2.2, HT.out.2.1.below HB6.out (Nat.le_refl _)⟩; have k9 := HBX.out w6 (((HB4.out).trans (hB45.out.mono HB4.out.size)).trans (hB6.out.mono ((HB4.out).trans (hB45.out.mono HB4.out.size)).size)); have HP : Hid (Calls Try.prog 14 #[.pointer (some ⟨cm, 0, none⟩), .slice a' n' c', .agg #[.int .i64 4, .string key, .string val, .int .i64 nn]] w6 (PlayP w6 cm L')) := play_is w6 cm a' n' c' L' ⟨4, key, val, nn⟩ HMT.out HOP.out.2 HT.out.2.2 HXL.out.2 (by have := HI.out; have := HL.out.1; have := HXL.out; omega); obtain ⟨k90, k91, k92, k93⟩ := k9; clear hB6))
            go_roundw
            case rel => exact ⟨i + 1, cm, a4, _, c4, L4, mb, a', n', c', L', by simp, rfl, rfl, rfl, rfl, ⟨HXL.out.1, HN4.out.2.2, by have := HI.out; omega⟩, ⟨HT4.out.1, HT4.out.2.1, HT4.out.2.2.1⟩, ⟨HO7.out.1, HO7.out.2⟩, ⟨fun e => HNE.out (by omega), HMP.out⟩, HB7.out⟩
            case measure => have := HXL.out; simp [intOf]; omega
        · have HP : Hid (Calls Try.prog 14 #[.pointer (some ⟨mb, 0, none⟩), .slice a' n' c', .agg #[.int .i64 kind, .string key, .string val, .int .i64 nn]] (wr.alloc (.cells #[.int .i64 kind, .string key, .string val, .int .i64 nn] 29)) (PlayP (wr.alloc (.cells #[.int .i64 kind, .string key, .string val, .int .i64 nn] 29)) mb L')) := play_is _ mb a' n' c' L' ⟨kind, key, val, nn⟩ (HT.out.1.below HB3.out) (HT.out.2.1.below HB3.out (Nat.le_refl _)) HT.out.2.2 HXL.out.2 (by have := HI.out; have := HL.out.1; have := HXL.out; omega)
          have HBP : Hid (Below w.heap.size w (wr.alloc (.cells #[.int .i64 kind, .string key, .string val, .int .i64 nn] 29))) := HB.out.alloc HB.out.size _
          have HMT : Hid (Tr (wr.alloc (.cells #[.int .i64 kind, .string key, .string val, .int .i64 nn] 29)) mb L') := HT.out.1.below HB3.out
          have HOP : Hid (Tr (wr.alloc (.cells #[.int .i64 kind, .string key, .string val, .int .i64 nn] 29)) ob Lo ∧ RdP (wr.alloc (.cells #[.int .i64 kind, .string key, .string val, .int .i64 nn] 29)) ao no Lo) := ⟨HO.out.1.below HB3.out, HO.out.2.below HB3.out (Nat.le_refl _)⟩
          have HMP : Hid (w.heap.size ≤ mb) := HNM.out.2
          have HNE : Hid (ob ≠ mb) := fun e => HNM.out.1 e.symm
          clear HB3
          by_cases h5 : (i : Int) % 5 = 0
          · have h5b : ((i : Int) % 5 == 0) = true := by simpa using h5
            go_wp2_with (first
              | (go_at_call 14; (with_reducible refine Calls.mono HP.out ?_); rintro e w7 ⟨a4, n4, c4, L4, rfl, HT4, HG4⟩; have HB7 : Hid (Below w.heap.size w w7) := below_grownBy HBP.out HG4.out HMP.out (Nat.le_refl _); have HN4 : Hid (n4 = L4.length ∧ L4.length ≤ 24000 ∧ L4.length ≤ (i + 1) * 60) := ⟨HT4.out.2.1.1.symm, (by have := HT4.out.2.2.2; have := HI.out; have := HXL.out; have := HL.out.1; omega), (by have := HT4.out.2.2.2; have := HI.out; omega)⟩; have HO7 : Hid (Tr w7 ob Lo ∧ RdP w7 ao no Lo) := ⟨HOP.out.1.keptBy HG4.out HMT.out.oth HNE.out, HOP.out.2.oth HG4.out HMT.out.oth⟩; have hn4 := HN4.out.1; subst hn4)
              | (go_at_call 15; refine (tlen w7 mb L4 HT4.out.1).mono ?_; rintro e w8 ⟨rfl, rfl⟩)
              | (go_at_call 12; refine (same_yes w8 a8 n8 c8 a4 _ c4 L4 HR8.out (HT4.out.2.1.below HB8.out (Nat.le_refl _)) (by have := HN4.out; omega)).mono ?_; rintro e w9 ⟨rfl, hB9⟩; have HB9 : Hid (Below w7.heap.size w7 w9) := HB8.out.trans (hB9.out.mono HB8.out.size); clear hB9)
              | (go_at_call 13; refine (told_full w7 mb L4 HT4.out.1 (by have := HN4.out; omega)).mono ?_; rintro e w8 ⟨a8, n8, c8, rfl, HR8, HB8⟩))
            have HBF : Hid (Below w.heap.size w w9) := HB7.out.trans (HB9.out.mono HB7.out.size)
            go_roundw
            case rel => exact ⟨i + 1, mb, a4, _, c4, L4, ob, ao, no, co, Lo, by simp, rfl, rfl, rfl, rfl, ⟨HXL.out.1, HN4.out.2.2, by have := HI.out; omega⟩, ⟨HT4.out.1.below HB9.out, HT4.out.2.1.below HB9.out (Nat.le_refl _), HT4.out.2.2.1⟩, ⟨HO7.out.1.below HB9.out, HO7.out.2.below HB9.out (Nat.le_refl _)⟩, ⟨fun e => HNE.out (by omega), HMP.out⟩, HBF.out⟩
            case measure => have := HXL.out; simp [intOf]; omega
          · have h5b : ((i : Int) % 5 == 0) = false := by simpa using h5
            go_wp2_with (first
              | (go_at_call 14; (with_reducible refine Calls.mono HP.out ?_); rintro e w7 ⟨a4, n4, c4, L4, rfl, HT4, HG4⟩; have HB7 : Hid (Below w.heap.size w w7) := below_grownBy HBP.out HG4.out HMP.out (Nat.le_refl _); have HN4 : Hid (n4 = L4.length ∧ L4.length ≤ 24000 ∧ L4.length ≤ (i + 1) * 60) := ⟨HT4.out.2.1.1.symm, (by have := HT4.out.2.2.2; have := HI.out; have := HXL.out; have := HL.out.1; omega), (by have := HT4.out.2.2.2; have := HI.out; omega)⟩; have HO7 : Hid (Tr w7 ob Lo ∧ RdP w7 ao no Lo) := ⟨HOP.out.1.keptBy HG4.out HMT.out.oth HNE.out, HOP.out.2.oth HG4.out HMT.out.oth⟩; have hn4 := HN4.out.1; subst hn4)
              | (go_at_call 15; refine (tlen w7 mb L4 HT4.out.1).mono ?_; rintro e w8 ⟨rfl, rfl⟩)
              | (go_at_call 12; refine (same_yes w8 a8 n8 c8 a4 _ c4 L4 HR8.out (HT4.out.2.1.below HB8.out (Nat.le_refl _)) (by have := HN4.out; omega)).mono ?_; rintro e w9 ⟨rfl, hB9⟩; have HB9 : Hid (Below w7.heap.size w7 w9) := HB8.out.trans (hB9.out.mono HB8.out.size); clear hB9)
              | (go_at_call 13; refine (told_full w7 mb L4 HT4.out.1 (by have := HN4.out; omega)).mono ?_; rintro e w8 ⟨a8, n8, c8, rfl, HR8, HB8⟩))
            go_roundw
            case rel => exact ⟨i + 1, mb, a4, _, c4, L4, ob, ao, no, co, Lo, by simp, rfl, rfl, rfl, rfl, ⟨HXL.out.1, HN4.out.2.2, by have := HI.out; omega⟩, ⟨HT4.out.1, HT4.out.2.1, HT4.out.2.2.1⟩, ⟨HO7.out.1, HO7.out.2⟩, ⟨fun e => HNE.out (by omega), HMP.out⟩, HB7.out⟩
            case measure => have := HXL.out; simp [intOf]; omega
      · have q1 : ¬ (i : Int) < (len : Int) := by omega
        have hno : no = Lo.length := HO.out.2.1.symm
        subst hno
        have HLL : Hid (L'.length ≤ 90000 ∧ Lo.length ≤ 90000) := ⟨by have := HI.out; have := HL.out.1; omega, by have := HI.out; have := HL.out.1; omega⟩
        go_wp2_with (first
          | (go_at_call 9; refine (lives_is w7).mono ?_; rintro e w9 ⟨rfl, HB9⟩)
          | (go_at_call 15; refine (tlen w7 ob Lo (HO.out.1.below HB7.out)).mono ?_; rintro e w8 ⟨rfl, rfl⟩)
          | (go_at_call 12; refine (same_yes w6 a6 n6 c6 ao _ co Lo HR6.out (HO.out.2.below HB6.out (Nat.le_refl _)) HLL.out.2).mono ?_; rintro e w7 ⟨rfl, hB7⟩; have HB7 : Hid (Below wr.heap.size wr w7) := HB6.out.trans (hB7.out.mono HB6.out.size); clear hB7)
          | (go_at_call 13; refine (told_full w5 ob Lo (HO.out.1.below HB5.out) HLL.out.2).mono ?_; rintro e w6 ⟨a6, n6, c6, rfl, HR6, hB6⟩; have HB6 : Hid (Below wr.heap.size wr w6) := HB5.out.trans (hB6.out.mono HB5.out.size); clear hB6)
          | (go_at_call 12; refine (same_yes w4 a5 n5 c5 a' _ c' L' HR4.out (HT.out.2.1.below HB4.out (Nat.le_refl _)) HLL.out.1).mono ?_; rintro e w5 ⟨rfl, hB5⟩; have HB5 : Hid (Below wr.heap.size wr w5) := HB4.out.trans (hB5.out.mono HB4.out.size); clear hB5)
          | (go_at_call 13; refine (told_full wr mb L' HT.out.1 HLL.out.1).mono ?_; rintro e w4 ⟨a5, n5, c5, rfl, HR4, HB4⟩))
        go_ret
        exact ⟨rfl, (HB.out.trans (HB7.out.mono HB.out.size)).trans (HB9.out.mono (HB.out.trans (HB7.out.mono HB.out.size)).size)⟩
end Go.Proofs.Ytnagknlfboadkaa.Oct

/- Layer 7 (tree): what stands between two rounds of TreeScans. -/
namespace Go.Proofs.Ytnagknlfboadkaa.Oct
open Go.RowKit

theorem Kept.trans {A0 A B : World} (h : Kept A0 A) (k : Kept A B) : Kept A0 B := by
  intro b e he hr
  have h1 := h b e he hr
  exact (k b e he (hr.same h1)).trans h1
theorem Kept.oth {A B : World} {x : Nat} (hg : A.grownBy B (some x)) (ho : Oth A x) : Kept A B := by
  intro b e he hr
  exact hg.block b hr.lt (by have := ho.ne hr he; simpa using this)
theorem Kept.wid {D : Nat} {A B : World} (h : Wid.BelowR D A B) : Kept A B := by
  intro b e _ hr
  obtain ⟨cs, fr, hc⟩ := hr
  exact h.rows b (Array.getElem?_eq_some_iff.1 hc).1 ⟨cs, e, fr, hc⟩
theorem Lies.fix {w w' : World} (hk : Kept w w') : ∀ {d : Nat} {t : T d} {nd : Nat}, Lies w d t nd → Lies w' d t nd
  | 0, _, _, h => by
    obtain ⟨a, n, cap, h1, h2⟩ := h
    exact ⟨a, n, cap, h1.fix hk, h2⟩
  | d + 1, _, _, h => by
    obtain ⟨a, n, cap, a', n', cap', bs, h1, h2, h3, h4, h5, h6⟩ := h
    exact ⟨a, n, cap, a', n', cap', bs, h1.fix hk, h2, h3.fix hk, h4, h5, fun i k b' hi hb' => Lies.fix hk (h6 i k b' hi hb')⟩
theorem Tr.fix {A B : World} {m : Nat} {L : List Pr} (h : Tr A m L) (hk : Kept A B) (hm : B.heap[m]? = A.heap[m]?) : Tr B m L := by
  rcases h with ⟨h1, h2⟩ | ⟨d, t, nd, h1, h2, h3⟩
  · exact .inl ⟨hm.trans h1, h2⟩
  · exact .inr ⟨d, t, nd, hm.trans h1, h2.fix hk, h3⟩
theorem Tr.hdr {A : World} {m : Nat} {L : List Pr} (h : Tr A m L) : ∃ C, A.heap[m]? = some (.cells C 48) := by
  obtain ⟨p, h1⟩ := h.mp
  exact ⟨_, h1⟩
/-- the boxes of TreeScans, and what it reads -/
structure SB (w A0 : World) (p : Option Addr) (br bm bw bF m : Nat) (aw : Option Addr) (nw cw : Nat) (key : ByteArray) (stop : Int) (ys : List Pr) (A : World) : Prop where
  be : Below w.heap.size w A
  st : A.heap[w.heap.size]? = some (.cells #[.int .i64 stop] 3)
  rs : A.heap[br]? = some (.cells #[.bool false] 4)
  mb : A.heap[bm]? = some (.cells #[.pointer (some ⟨m, 0, none⟩)] 25)
  wt : A.heap[bw]? = some (.cells #[.slice aw nw cw] 27)
  rd : RdP A aw nw ys
  fr : A.heap[bF]? = some (.cells #[.string key] 9)
  un : A.heap[bF + 1]? = some (.cells #[.string ⟨#[]⟩] 9)
  ro : A.heap[bF + 2]? = some (.cells #[.pointer p] 46)
  kp : Kept A0 A
section
variable {w A0 : World} {p : Option Addr} {br bm bw bF m : Nat} {aw : Option Addr} {nw cw : Nat} {key : ByteArray} {stop : Int} {ys : List Pr} {A B : World}
theorem SB.keep (h : SB w A0 p br bm bw bF m aw nw cw key stop ys A) (hb : Below w.heap.size A B) (hk : Kept A B) (hs : ∀ b, b = w.heap.size ∨ b = br ∨ b = bm ∨ b = bw ∨ b = bF ∨ b = bF + 1 ∨ b = bF + 2 → B.heap[b]? = A.heap[b]?) : SB w A0 p br bm bw bF m aw nw cw key stop ys B :=
  ⟨h.be.trans hb, (hs _ (by simp)).trans h.st, (hs _ (by simp)).trans h.rs, (hs _ (by simp)).trans h.mb, (hs _ (by simp)).trans h.wt, h.rd.fix hk, (hs _ (by simp)).trans h.fr, (hs _ (by simp)).trans h.un, (hs _ (by simp)).trans h.ro, h.kp.trans hk⟩
theorem SB.lt (h : SB w A0 p br bm bw bF m aw nw cw key stop ys A) {b : Nat} (hb : b = w.heap.size ∨ b = br ∨ b = bm ∨ b = bw ∨ b = bF ∨ b = bF + 1 ∨ b = bF + 2) : b < A.heap.size ∧ Wid.CellsAt A b := by
  have key : ∀ {b : Nat} {cs : Array Value} {t : TypeId}, A.heap[b]? = some (.cells cs t) → b < A.heap.size ∧ Wid.CellsAt A b := fun e => ⟨(Array.getElem?_eq_some_iff.1 e).1, _, _, _, e⟩
  rcases hb with rfl | rfl | rfl | rfl | rfl | rfl | rfl
  · exact key h.st
  · exact key h.rs
  · exact key h.mb
  · exact key h.wt
  · exact key h.fr
  · exact key h.un
  · exact key h.ro
theorem SB.wid {D : Nat} (h : SB w A0 p br bm bw bF m aw nw cw key stop ys A) (hb : Wid.BelowR D A B) (hD : w.heap.size ≤ D) : SB w A0 p br bm bw bF m aw nw cw key stop ys B :=
  h.keep (hb.below.mono hD) (Kept.wid hb) fun b hx => hb.rows b (h.lt hx).1 (h.lt hx).2
theorem SB.grown {x : Nat} (h : SB w A0 p br bm bw bF m aw nw cw key stop ys A) (hg : A.grownBy B (some x)) (ho : Oth A x) (hw : w.heap.size ≤ x) (hx : x ≠ w.heap.size ∧ x ≠ br ∧ x ≠ bm ∧ x ≠ bw ∧ x ≠ bF ∧ x ≠ bF + 1 ∧ x ≠ bF + 2) : SB w A0 p br bm bw bF m aw nw cw key stop ys B := by
  refine h.keep ⟨hg.os, hg.tape, hg.output, hg.size, fun k hk => hg.block k (by have := h.be.size; omega) (by simp; omega)⟩ (Kept.oth hg ho) fun b hb => hg.block b (h.lt hb).1 ?_
  simp only [ne_eq, Option.some.injEq]
  omega
end
theorem Oth.box {A : World} {b : Nat} {v : Value} {t : TypeId} (h : A.heap[b]? = some (.cells #[v] t)) (h1 : t ≠ 40) (h2 : t ≠ 46) (h3 : t ≠ 67) : Oth A b := ⟨_, _, _, h, h1, h2, h3⟩
theorem Held.grown {D x : Nat} {A B : World} (hg : A.grownBy B (some x)) (hx : x < D) : Held D A B := ⟨hg.size, fun b h1 h2 _ => hg.block b h1 (by simp; omega)⟩
theorem results_four {tm : Array Value} {W : World} {r : Nat} (h : tm[6]? = some (.pointer (some ⟨r, 0, none⟩))) (hc : W.cell? ⟨r, 0, none⟩ = some (.bool true)) : (results Try.f4 tm).run Try.prog W = .ok (.bool true) W := by
  have hr : Try.f4.results = #[.cell 6 4] := rfl
  have h' : tm.getD 6 undef = .pointer (some ⟨r, 0, none⟩) := by simp [h]
  simp only [results, hr]
  go_simp
/-- the law's end: some marks, and the result in its box -/
theorem scans_end {w : World} {tm : Array Value} (h : tm[6]? = some (.pointer (some ⟨w.heap.size + 1, 0, none⟩))) :
    ∀ (ms : List Nat) (V : World), Below w.heap.size w V → V.heap[w.heap.size + 1]? = some (.cells #[.bool true] 4) → ms.Nodup → (∀ m ∈ ms, w.heap.size + 1 < m ∧ V.heap[m]? = some (.deferred (some []))) →
      LeavesInM Fence.wide 3 Try.prog Try.f4 tm (fun e w' => e = .returned (.bool true) ∧ Below w.heap.size w w') (ms.map mark) .returning V
  | [], V, hb, hr, _, _ => ⟨_, results_four h (cell_one hr), rfl, hb⟩
  | m :: ms, V, hb, hr, hn, hm => by
    have h1 := hm m List.mem_cons_self
    refine ⟨by simp, .inl ⟨_, _, rfl, run_takeDeferred h1.2, ?_⟩⟩
    refine scans_end h ms _ (hb.trans (below_putObj _ _ _ _ (by omega))) ((World.putObj_heap_other (by omega)).trans hr) (List.nodup_cons.1 hn).2 fun m' hm' => ?_
    have h2 := hm m' (List.mem_cons_of_mem _ hm')
    refine ⟨h2.1, (World.putObj_heap_other ?_).trans h2.2⟩
    rintro rfl
    exact (List.nodup_cons.1 hn).1 hm'
/-- a range that is left by its own exit, or gone through: one way on -/
theorem rangeBoth {P : Program} {n : Nat} {g : Operand} {ps : Array Tmp} {assign body : Code} {Q : Exit → Act → World → Prop} {a : Act} {w : World} {X : Type} {gf : Nat} {lb : Array Value}
    (hg : a.eval g = .func (.func gf) #[] lb) (eg : ∀ args w, (callFunc gf args).run P w = .ok (.enter gf args) w)
    (enc : Nat → X → Array Value) (hps : ∀ s x, (enc s x).size = ps.size) (xs : List X)
    (I : Nat → World → Prop) (Ix : Code → World → Prop) (hI : ∀ s A B, I s A → Wid.BelowR w.heap.size A B → I s B) (hIx : ∀ c A B, Ix c A → Wid.BelowR w.heap.size A B → Ix c B)
    (h0 : I 0 w) (a₁ : Nat → X → Act)
    (id : Nat) (Fin : World → Prop) (hfin : ∀ W, I xs.length W → Fin W) (hfix : ∀ c W, Ix c W → c = .exit id ∧ Fin W) (hq : ∀ a w, Q .normal a w → Q (.exit id) a w)
    (hassign : ∀ (s : Nat) (x : X) (W : World) (K : Act → World → Prop), K (a₁ s x) W →
      assign.wpIn (Fence.wide.inRound (w.heap.size + 1)) (n - 1 - 1) P (Exit.then K (fun _ _ _ => False)) { tmps := (ps.zip (enc s x)).foldl (fun t (p, v) => t.setIfInBounds p v) a.tmps, defers := [] } W)
    (hbody : ∀ (s : Nat) (x : X) (W : World), I s W → xs[s]? = some x → w.heap.size + 1 < W.heap.size → body.wpIn (Fence.wide.inRound (w.heap.size + 1)) (n - 1 - 1) P
      (Wid.leavePost I Ix w.heap.size s W) (a₁ s x) W)
    (hiter : ∀ (J : Nat → World → Prop) (Jx : World → Prop) (W : World), W.heap.size = w.heap.size + 2 → Below w.heap.size w W → (∀ s A B, J s A → Wid.BelowR (w.heap.size + 2) A B → J s B) → (∀ A B, Jx A → Wid.BelowR (w.heap.size + 2) A B → Jx B) → (∀ s A, J s A → I s A ∧ w.heap.size + 2 ≤ A.heap.size) → (∀ A, Jx A → (∃ c, Ix c A) ∧ w.heap.size + 2 ≤ A.heap.size) →
      (∀ s x A, J s A → xs[s]? = some x → YieldAt Fence.wide (n - 1 - 1) P (w.heap.size + 1) (enc s x) A fun e B => Held (w.heap.size + 2) A B ∧ ((e = .returned (.bool true) ∧ J (s + 1) B) ∨ (e = .returned (.bool false) ∧ Jx B))) → J 0 W →
      CallsIn Fence.wide (n - 1) P gf (#[.func (.yield (w.heap.size + 1)) #[] #[]] ++ lb) W fun e B => (∃ v, e = .returned v) ∧ (J xs.length B ∨ Jx B))
    (hend : ∀ (W : World), Fin W → W.heap[w.heap.size]? = some (.deferred (some [])) → Q .normal { a with defers := { target := .collected w.heap.size, args := #[] } :: a.defers } W) :
    (Code.rangeFunc g ps assign body).wpIn Fence.wide n P Q a w :=
  Wid.rangeLeave hg eg enc hps xs I Ix hI hIx h0 a₁ hassign hbody hiter (fun W h hd => hend W (hfin W h) hd)
    (fun c W h hd => by
      obtain ⟨rfl, hf⟩ := hfix c W h
      exact wpIn_exit (hq _ _ (hend W hf hd)))
end Go.Proofs.Ytnagknlfboadkaa.Oct

/- Layer 7 (tree): the law TreeScans. -/
namespace Go.Proofs.Ytnagknlfboadkaa.Oct
open Go.RowKit Go.Shelf
attribute [local go_sem] Oper.semAt_some

set_option maxRecDepth 100000 in
set_option maxHeartbeats 8000000 in
theorem scans_law (l : List ActV) (a : Option Addr) (len cap : Nat) (key : ByteArray) (stop : Int) (w : World) (h : ArgA w a len cap l) :
    Calls Try.prog 4 #[.slice a len cap, .string key, .int .i64 stop] w fun e w' => e = .returned (.bool true) ∧ Below w.heap.size w w' := by
  have HA : Hid (ArgA w a len cap l) := h
  clear h
  obtain ⟨W0, hW0⟩ : ∃ W0, (w.alloc (.cells #[.int .i64 stop] 3)).alloc (.cells #[.bool false] 4) = W0 := ⟨_, rfl⟩
  have HS0 : Hid (W0.heap.size = w.heap.size + 2) := by show _ = _; rw [← hW0]; simp
  have HB0 : Hid (Below w.heap.size w W0) := by show Below _ _ _; rw [← hW0]; exact ((Below.refl _ w).alloc (Nat.le_refl _) _).alloc (by simp) _
  have HST : Hid (W0.heap[w.heap.size]? = some (.cells #[.int .i64 stop] 3)) := by
    show _ = _; rw [← hW0, Below.heap_alloc _ _ _ (by simp)]; exact World.alloc_heap_new w _
  have HRS : Hid (W0.heap[w.heap.size + 1]? = some (.cells #[.bool false] 4)) := by
    show _ = _
    have e := World.alloc_heap_new (w.alloc (.cells #[.int .i64 stop] 3)) (.cells #[.bool false] 4)
    rw [World.size_alloc] at e
    rw [← hW0]; exact e
  have HW0 : Hid ((w.alloc (.cells #[.int .i64 stop] 3)).alloc (.cells #[.bool false] 4) = W0) := hW0
  clear hW0
  refine (callsIn_wide (n := 3)).1 ?_
  refine callsIn_of_wp_marks Try.func4 rfl trivial ?_ rfl
  simp only [Try.ntmps4, List.size_toArray, List.length_cons, List.length_nil, Nat.reduceAdd, Nat.reduceSub, Array.replicate_succ, Array.replicate_zero, List.push_toArray, List.append_toArray, List.nil_append, List.cons_append]
  refine wpIn_wide.2 ?_
  go_wp2_with fail
  rw [HW0.out]
  refine (few_is W0 a len cap l ?hAA).mono ?_
  case hAA => exact HA.out.below HB0.out
  rintro e w1 ⟨b, rfl, HF, HB1⟩
  have HR1 : Hid (w1.heap[w.heap.size + 1]? = some (.cells #[.bool false] 4) ∧ w1.heap[w.heap.size]? = some (.cells #[.int .i64 stop] 3)) := ⟨(HB1.out.block _ (by have := HS0.out; omega)).trans HRS.out, (HB1.out.block _ (by have := HS0.out; omega)).trans HST.out⟩
  have HZ1 : Hid (w.heap.size + 2 ≤ w1.heap.size) := by show _ ≤ _; have := HS0.out; have := HB1.out.size; omega
  cases b with
  | false =>
    go_wp2_with (go_at_call 9; refine (lives_is w1).mono ?_; rintro e w2 ⟨rfl, HB2⟩; have hr2 := (HB2.out.block (w.heap.size + 1) (by have := HZ1.out; omega)).trans HR1.out.1; have c6 := cell_one hr2; have f6 : w2.frozen? ⟨w.heap.size + 1, 0, none⟩ = false := frozen_of_row w2 (w.heap.size + 1) 0 _ 4 hr2; have HR2 : Hid (w2.heap[w.heap.size + 1]? = some (.cells #[.bool false] 4)) := hr2; clear hr2)
    refine scans_end rfl [] _ (((HB0.out.trans (HB1.out.mono HB0.out.size)).trans (HB2.out.mono (by have := HZ1.out; omega))).setCell (p := ⟨w.heap.size + 1, 0, none⟩) (by show _ ≤ w.heap.size + 1; omega) _) ?_ (by simp) (by simp)
    simpa using heap_setCell_same w2 (w.heap.size + 1) 0 _ 4 (.bool true) HR2.out
  | true =>
    have HL : Hid (len ≤ 400 ∧ ∀ x ∈ l, x.key.size ≤ 100000) := HF.out rfl
    clear HF
    go_wp2_with (go_at_call 10; refine (new_is w1).mono ?_; rintro e w2 ⟨rfl, HM2, HB2⟩)
    have HW2 : Hid (Below w.heap.size w w2) := (HB0.out.trans (HB1.out.mono HB0.out.size)).trans (HB2.out.mono (by have := HZ1.out; omega))
    have HR2 : Hid (w2.heap[w.heap.size + 1]? = some (.cells #[.bool false] 4) ∧ w2.heap[w.heap.size]? = some (.cells #[.int .i64 stop] 3)) := ⟨(HB2.out.block _ (by have := HZ1.out; omega)).trans HR1.out.1, (HB2.out.block _ (by have := HZ1.out; omega)).trans HR1.out.2⟩
    have HZ2 : Hid (w.heap.size + 2 ≤ w1.heap.size ∧ w1.heap.size < w2.heap.size) := ⟨HZ1.out, Blk.lt (show Blk w2 w1.heap.size 48 _ from HM2.out)⟩
    generalize w1.heap.size = m at *
    obtain ⟨V, hV⟩ : ∃ V, w2.alloc (.cells #[.pointer (some ⟨m, 0, none⟩)] 25) = V := ⟨_, rfl⟩
    have HBV : Hid (Below w2.heap.size w2 V) := by show Below _ _ _; rw [← hV]; exact (Below.refl _ w2).alloc (Nat.le_refl _) _
    have HSV : Hid (V.heap.size = w2.heap.size + 1) := by show _ = _; rw [← hV]; simp
    have HMB : Hid (V.heap[w2.heap.size]? = some (.cells #[.pointer (some ⟨m, 0, none⟩)] 25)) := by show _ = _; rw [← hV]; exact World.alloc_heap_new w2 _
    rw [hV]
    clear hV HST HRS HR1 HB1 HB0 HW0 HS0 HZ1
    generalize hbm : w2.heap.size = bm at *
    have HBX : Hid (V.heap[w.heap.size + 1]? = some (.cells #[.bool false] 4) ∧ V.heap[w.heap.size]? = some (.cells #[.int .i64 stop] 3) ∧ V.heap[bm]? = some (.cells #[.pointer (some ⟨m, 0, none⟩)] 25)) := ⟨(HBV.out.block _ (by have := HZ2.out; omega)).trans HR2.out.1, (HBV.out.block _ (by have := HZ2.out; omega)).trans HR2.out.2, HMB.out⟩
    have HBW : Hid (Below w.heap.size w V) := HW2.out.trans (HBV.out.mono (by have := HZ2.out; omega))
    have HTV : Hid (Tr V m []) := Tr.below (.inl ⟨HM2.out, rfl⟩) (by rw [hbm]; exact HBV.out)
    clear HR2 HW2 HM2 HB2 HBV HMB hbm
    have HMV : Hid (m < V.heap.size) := HTV.out.lt
    go_loopw [25, 8] (fun u lv wr => ∃ (i : Nat) (a' : Option Addr) (n' c' : Nat) (L' : List Pr), u = .int .i64 (i : Int) ∧ lv = .slice a' n' c' ∧ Hid (i ≤ len ∧ L'.length ≤ i * 60 ∧ KeyOk L') ∧ Hid (Tr wr m L' ∧ RdP wr a' n' L' ∧ Cap a' n' c') ∧ Hid (V.grownBy wr (some m))) (fun u _ _ => len - (intOf u).toNat)
    case atStart => exact ⟨0, none, 0, 0, [], rfl, rfl, ⟨Nat.zero_le _, Nat.le_refl _, fun p hp => by cases hp⟩, ⟨HTV.out, ⟨rfl, fun h => absurd h (by omega)⟩, Nat.le_refl _, .inl ⟨rfl, rfl⟩⟩, below_grown (Below.refl _ V) _⟩
    case round =>
      obtain ⟨i, a', n', c', L', rfl, rfl, HI, HT, HG⟩ := hrel
      have HB : Hid (Below w.heap.size w wr) := below_grownBy HBW.out HG.out (by have := HZ2.out; omega) (Nat.le_refl _)
      have HX : Hid (wr.heap[w.heap.size + 1]? = some (.cells #[.bool false] 4) ∧ wr.heap[w.heap.size]? = some (.cells #[.int .i64 stop] 3) ∧ wr.heap[bm]? = some (.cells #[.pointer (some ⟨m, 0, none⟩)] 25)) := ⟨(HG.out.block _ (Array.getElem?_eq_some_iff.1 HBX.out.1).1 (by have := HZ2.out; simp; omega)).trans HBX.out.1, (HG.out.block _ (Array.getElem?_eq_some_iff.1 HBX.out.2.1).1 (by have := HZ2.out; simp; omega)).trans HBX.out.2.1, (HG.out.block _ (Array.getElem?_eq_some_iff.1 HBX.out.2.2).1 (by have := HZ2.out; simp; omega)).trans HBX.out.2.2⟩
      have e7 := cell_one HX.out.2.2
      by_cases hi : i < len
      · obtain ⟨x, hx⟩ : ∃ x, l[i]? = some x := ⟨_, List.getElem?_eq_getElem (by rw [HA.out.1]; exact hi)⟩
        obtain ⟨bb, off, rfl, hbl, hat⟩ := HA.out.2.2.2 (by omega)
        obtain ⟨c0, c1, c2, c3, s1, s2⟩ := (hat i x hx)
        have d0 := (HB.out.cell (p := ⟨bb, off + i * 4, none⟩) hbl).trans c0
        have d1 := (HB.out.cell (p := ⟨bb, off + i * 4 + 1, none⟩) hbl).trans c1
        have d2 := (HB.out.cell (p := ⟨bb, off + i * 4 + 2, none⟩) hbl).trans c2
        have d3 := (HB.out.cell (p := ⟨bb, off + i * 4 + 3, none⟩) hbl).trans c3
        have HXL : Hid (i < len ∧ x.key.size ≤ 100000) := ⟨hi, HL.out.2 x (List.mem_of_getElem? hx)⟩
        have q1 : (i : Int) < (len : Int) := by omega
        have q5 : (len : Int) ≤ 400 := by have := HL.out.1; omega
        have hbmr : bm < wr.heap.size := (Array.getElem?_eq_some_iff.1 HX.out.2.2).1
        have HB3 : Hid (Below wr.heap.size wr (wr.alloc (.cells #[.int .i64 x.kind, .string x.key, .string x.val, .int .i64 x.n] 29))) := (Below.refl _ wr).alloc (Nat.le_refl _) _
        have HP : Hid (Calls Try.prog 14 #[.pointer (some ⟨m, 0, none⟩), .slice a' n' c', .agg #[.int .i64 x.kind, .string x.key, .string x.val, .int .i64 x.n]] (wr.alloc (.cells #[.int .i64 x.kind, .string x.key, .string x.val, .int .i64 x.n] 29)) (PlayK (wr.alloc (.cells #[.int .i64 x.kind, .string x.key, .string x.val, .int .i64 x.n] 29)) m L')) := playk_is _ m a' n' c' L' x (HT.out.1.below HB3.out) (HT.out.2.1.below HB3.out (Nat.le_refl _)) HT.out.2.2 HXL.out.2 (by have := HI.out; have := HL.out.1; omega)
        have HG3 : Hid (V.grownBy (wr.alloc (.cells #[.int .i64 x.kind, .string x.key, .string x.val, .int .i64 x.n] 29)) (some m)) := grown_tr HG.out (below_grown HB3.out _)
        clear c0 c1 c2 c3 hat hx hi hbl s1 s2 HB3
        obtain ⟨kind, key2, val, nn⟩ := x
        dsimp only at d0 d1 d2 d3 HP HG3
        go_wp2_with (go_at_call 14; (with_reducible refine Calls.mono HP.out ?_); rintro e w4 ⟨a4, n4, c4, L4, rfl, HT4, HG4, HK4⟩)
        go_roundw
        case rel => exact ⟨i + 1, a4, _, c4, L4, by simp, rfl, ⟨HXL.out.1, by have := HT4.out.2.2.2; have := HI.out.2.1; omega, HK4.out HI.out.2.2⟩, ⟨HT4.out.1, HT4.out.2.1, HT4.out.2.2.1⟩, grown_tr HG3.out HG4.out⟩
        case measure => have := HXL.out; simp [intOf]; omega
      · have q1 : ¬ (i : Int) < (len : Int) := by omega
        have HLL : Hid (L'.length ≤ 24000 ∧ KeyOk L') := ⟨by have := HI.out; have := HL.out.1; omega, HI.out.2.2⟩
        clear HI HBX HTV HBW q1
        obtain ⟨p, hmp, hroot⟩ := HT.out.1.root
        have HRT : Hid (Root wr p L') := hroot
        have HMP : Hid (Mp wr m (.pointer p) L'.length) := hmp
        obtain ⟨ys, hys⟩ : ∃ ys, L'.filter (inS key ⟨#[]⟩) = ys := ⟨_, rfl⟩
        have HYS : Hid (scanT key ⟨#[]⟩ L' = ys) := by show _ = _; rw [scanT_is HT.out.1.ris]; exact hys
        have HYK : Hid (ys.length ≤ 24000 ∧ ∀ x ∈ ys, x.1.size ≤ 100010) := ⟨by rw [← hys]; have := List.length_filter_le (inS key ⟨#[]⟩) L'; have := HLL.out.1; omega, fun x hx => HLL.out.2 x (by rw [← hys] at hx; exact (List.mem_filter.1 hx).1)⟩
        have H16 : Hid (Calls Try.prog 16 #[.slice a' n' c', .string key, .string ⟨#[]⟩] wr (Rows wr ys)) := by
          show Calls _ _ _ _ _
          rw [← hys]
          exact rscan_is wr a' n' c' L' key ⟨#[]⟩ HT.out.2.1 (by have := HT.out.2.1.1; have := HLL.out.1; omega)
        have HZW : Hid (bm < wr.heap.size ∧ m < wr.heap.size) := ⟨(Array.getElem?_eq_some_iff.1 HX.out.2.2).1, HT.out.1.lt⟩
        have q1 : ¬ (i : Int) < (len : Int) := by omega
        clear hys hmp hroot hi
        have nn := not_nil28
        go_wp2_with (first
          | (go_at_call 16; (with_reducible refine Calls.mono H16.out ?_); rintro e w5 ⟨a5, n5, c5, rfl, HR5, HB5⟩; have hbW : Below wr.heap.size wr (w5.alloc (.cells #[.slice a5 n5 c5] 27)) := HB5.out.alloc HB5.out.size _; have e7' : (w5.alloc (.cells #[.slice a5 n5 c5] 27)).cell? ⟨bm, 0, none⟩ = some (.pointer (some ⟨m, 0, none⟩)) := (hbW.cell (p := ⟨bm, 0, none⟩) HZW.out.1).trans e7; have HBW5 : Hid (Below wr.heap.size wr (w5.alloc (.cells #[.slice a5 n5 c5] 27))) := hbW; clear hbW)
          | (go_at_call 17; refine (scan_yes _ m L'.length p key ⟨#[]⟩ (HMP.out.keep HBW5.out (Nat.le_refl _))).mono ?_; rintro e w6 ⟨rfl, HW6⟩))
        have hw6 := HW6.out
        have HS6 : Hid (w6.heap.size = w5.heap.size + 4) := by show _ = _; rw [hw6]; simp
        have hb56 : Below w5.heap.size w5 w6 := by
          rw [hw6]
          exact ((((Below.refl _ w5).alloc (Nat.le_refl _) _).alloc (by simp) _).alloc (by simp; omega) _).alloc (by simp; omega) _
        have hb6 : Below wr.heap.size wr w6 := HB5.out.trans (hb56.mono HB5.out.size)
        have HSB : Hid (SB w wr p (w.heap.size + 1) bm w5.heap.size (w5.heap.size + 1) m a5 n5 c5 key stop ys w6) := by
          refine ⟨HB.out.trans (hb6.mono HB.out.size), (hb6.block _ (Array.getElem?_eq_some_iff.1 HX.out.2.1).1).trans HX.out.2.1, (hb6.block _ (Array.getElem?_eq_some_iff.1 HX.out.1).1).trans HX.out.1, (hb6.block _ HZW.out.1).trans HX.out.2.2, ?_, HR5.out.1.below hb56 (Nat.le_refl _), ?_, ?_, ?_, kept_below hb6⟩
          · rw [hw6, Below.heap_alloc _ _ _ (by simp; omega), Below.heap_alloc _ _ _ (by simp; omega), Below.heap_alloc _ _ _ (by simp)]
            exact World.alloc_heap_new w5 _
          · have e := World.alloc_heap_new (w5.alloc (.cells #[.slice a5 n5 c5] 27)) (.cells #[.string key] 9)
            rw [World.size_alloc] at e
            rw [hw6, Below.heap_alloc _ _ _ (by simp), Below.heap_alloc _ _ _ (by simp)]
            exact e
          · have e := World.alloc_heap_new ((w5.alloc (.cells #[.slice a5 n5 c5] 27)).alloc (.cells #[.string key] 9)) (.cells #[.string ⟨#[]⟩] 9)
            rw [World.size_alloc, World.size_alloc] at e
            rw [hw6, Below.heap_alloc _ _ _ (by simp)]
            exact e
          · have e := World.alloc_heap_new (((w5.alloc (.cells #[.slice a5 n5 c5] 27)).alloc (.cells #[.string key] 9)).alloc (.cells #[.string ⟨#[]⟩] 9)) (.cells #[.pointer p] 46)
            rw [World.size_alloc, World.size_alloc, World.size_alloc] at e
            rw [hw6]
            exact e
        have HT6 : Hid (Tr w6 m L') := HT.out.1.below hb6
        have HZ5 : Hid (bm < w5.heap.size ∧ m < bm ∧ w.heap.size + 2 ≤ m) := ⟨by have := HB5.out.size; have := HZW.out.1; omega, HZ2.out.2, HZ2.out.1⟩
        have HNW : Hid (n5 = ys.length) := HR5.out.1.1.symm
        clear hw6 HW6 hb56 hb6 HB5 HBW5 HR5 e7' e7 HX HT HG HMP H16
        generalize w5.heap.size = bw at *
        obtain ⟨bn, hbn⟩ : ∃ bn, w6.heap.size = bn := ⟨_, rfl⟩
        obtain ⟨W6, hW6⟩ : ∃ W6, w6.alloc (.cells #[.int .i64 0] 3) = W6 := ⟨_, rfl⟩
        have HBN : Hid (bn = bw + 4) := by show _ = _; rw [← hbn]; exact HS6.out
        have hbW : Below w6.heap.size w6 W6 := by rw [← hW6]; exact (Below.refl _ w6).alloc (Nat.le_refl _) _
        have HNB : Hid (W6.heap[bn]? = some (.cells #[.int .i64 ((0 : Nat) : Int)] 3)) := by show _ = _; rw [← hW6, ← hbn]; exact World.alloc_heap_new w6 _
        have HSB6 : Hid (SB w wr p (w.heap.size + 1) bm bw (bw + 1) m a5 n5 c5 key stop ys W6) := HSB.out.wid (Wid.BelowR.full hbW (Nat.le_refl _)) (by have := HSB.out.be.size; omega)
        have HT7 : Hid (Tr W6 m L') := HT6.out.below hbW
        have HSW : Hid (W6.heap.size = bn + 1) := by show _ = _; rw [← hW6, ← hbn]; simp
        rw [hbn, hW6]
        clear hbn hW6 hbW HSB HT6 HS6
        refine (wpIn_wide (n := 3)).1 ?_
        refine rangeBoth (gf := 28) (lb := #[.pointer (some ⟨bw + 1 + 2, 0, none⟩), .pointer (some ⟨bw + 1, 0, none⟩), .pointer (some ⟨bw + 1 + 1, 0, none⟩)]) rfl (enters_of Try.func28 (by kernel_rfl) rfl) (fun _ x => encQ x) (fun _ _ => rfl) ys
          (fun t A => SB w wr p (w.heap.size + 1) bm bw (bw + 1) m a5 n5 c5 key stop ys A ∧ A.heap[bn]? = some (.cells #[.int .i64 (t : Int)] 3) ∧ ∃ L, Tr A m L ∧ L.length ≤ 24000 + t)
          (fun c A => c = .exit 2 ∧ SB w wr p (w.heap.size + 1) bm bw (bw + 1) m a5 n5 c5 key stop ys A ∧ ∃ v : Nat, A.heap[bn]? = some (.cells #[.int .i64 (v : Int)] 3) ∧ (v : Int) = stop ∧ v ≤ 24000)
          ?hI ?hIx ⟨HSB6.out, HNB.out, L', HT7.out, by have := HLL.out.1; omega⟩ (fun _ x => { tmps := #[.slice a len cap, .string key, .int .i64 stop, undef, undef, .pointer (some ⟨w.heap.size, 0, none⟩), .pointer (some ⟨w.heap.size + 1, 0, none⟩), .pointer (some ⟨bm, 0, none⟩), .slice a' n' c', undef, u10, .pointer (some ⟨bw, 0, none⟩), .func (.func 28) #[] #[.pointer (some ⟨bw + 1 + 2, 0, none⟩), .pointer (some ⟨bw + 1, 0, none⟩), .pointer (some ⟨bw + 1 + 1, 0, none⟩)], .pointer (some ⟨bn, 0, none⟩), .string x.1, .string x.2, undef, undef, .slice a len cap, .bool true, .bool false, undef, .pointer (some ⟨m, 0, none⟩), .slice a len cap, .int .i64 ↑len, .int .i64 ↑i, .bool false, u27, u28, u29, u30, u31, u32, u33, u34, u35, u36, .slice a' n' c', .string key, .slice a5 n5 c5, .pointer (some ⟨m, 0, none⟩), .string key, .func (.func 28) #[] #[.pointer (some ⟨bw + 1 + 2, 0, none⟩), .pointer (some ⟨bw + 1, 0, none⟩), .pointer (some ⟨bw + 1 + 1, 0, none⟩)], .func (.func 28) #[] #[.pointer (some ⟨bw + 1 + 2, 0, none⟩), .pointer (some ⟨bw + 1, 0, none⟩), .pointer (some ⟨bw + 1 + 1, 0, none⟩)], .bool false, .func (.func 28) #[] #[.pointer (some ⟨bw + 1 + 2, 0, none⟩), .pointer (some ⟨bw + 1, 0, none⟩), .pointer (some ⟨bw + 1 + 1, 0, none⟩)], .string x.1, .string x.2, undef, undef, undef, undef, undef, undef, undef, undef, undef, undef, undef, undef, undef, undef, undef, undef, undef, undef, undef, undef, undef, undef, undef, undef, undef, undef, undef, undef, undef, undef, undef, undef, undef, undef, undef, undef, undef, undef, undef, undef, undef, undef, undef, undef, undef, undef, undef, undef, undef, undef, undef, undef, undef, undef, undef, undef, undef, undef, undef, undef, undef, undef, undef, undef, undef, undef, undef, undef], defers := [] }) 2
          (fun A => SB w wr p (w.heap.size + 1) bm bw (bw + 1) m a5 n5 c5 key stop ys A ∧ ∃ v : Nat, A.heap[bn]? = some (.cells #[.int .i64 (v : Int)] 3) ∧ (v = ys.length ∨ (v : Int) = stop) ∧ v ≤ 24000) ?fin ?fix ?q ?assign ?body ?iter ?rest
        case hI =>
          rintro t A B ⟨h1, h2, L, h3, h4⟩ hb
          refine ⟨h1.wid hb (by have := HSB6.out.be.size; omega), (hb.below.block _ (by have := HSW.out; omega)).trans h2, L, h3.fix (Kept.wid hb) (hb.below.block _ ?_), h4⟩
          have := HSW.out; have := HBN.out; have := HZ5.out; omega
        case hIx =>
          rintro c A B ⟨h1, h2, v, h3, h4⟩ hb
          exact ⟨h1, h2.wid hb (by have := HSB6.out.be.size; omega), v, (hb.below.block _ (by have := HSW.out; omega)).trans h3, h4⟩
        case fin => rintro A ⟨h1, h2, _⟩; exact ⟨h1, _, h2, .inl rfl, HYK.out.1⟩
        case fix => rintro c A ⟨h1, h2, v, h3, h4, h5⟩; exact ⟨h1, h2, v, h3, .inr h4, h5⟩
        case q => intro a w h; exact h
        case assign =>
          intro t x A K hK
          dsimp only [encQ]
          gi_wp2
          exact hK
        case body =>
          rintro t x A ⟨h1, h2, L, h3, h4⟩ hx hlt
          have HS : Hid (SB w wr p (w.heap.size + 1) bm bw (bw + 1) m a5 n5 c5 key stop ys A) := h1
          have HN : Hid (A.heap[bn]? = some (.cells #[.int .i64 (t : Int)] 3)) := h2
          have HTL : Hid (Tr A m L ∧ L.length ≤ 24000 + t) := ⟨h3, h4⟩
          have HTY : Hid (t < ys.length ∧ ys[t]? = some x) := ⟨(List.getElem?_eq_some_iff.1 hx).1, hx⟩
          obtain ⟨g, off, ha5, hrow, hel⟩ := h1.rd.2 (by have := HTY.out.1; have := HNW.out; omega)
          obtain ⟨ce1, ce2⟩ := hel t x hx
          have cn := cell_one h2
          have cw := cell_one h1.wt
          rw [ha5] at cw
          have c7 := cell_one h1.mb
          have q1 : (t : Int) < (n5 : Int) := by have := HTY.out.1; have := HNW.out; omega
          have q2 : ¬ (n5 : Int) ≤ (t : Int) := by omega
          have q3 : (n5 : Int) ≤ 24000 := by have := HNW.out; have := HYK.out.1; omega
          have r1 : (x.1.toList == x.1.toList) = true := by simp
          have r2 : (x.2.toList == x.2.toList) = true := by simp
          clear hrow hel h1 h2 h3 h4 hx hlt ha5
          have HSZ : Hid (x.1.size ≤ 100010) := HYK.out.2 x (List.mem_of_getElem? HTY.out.2)
          have q9 : ¬ 9223372036854775807 < x.1.size + 1 := by have := HSZ.out; omega
          have HBA : Hid (bn ≠ m ∧ m < A.heap.size ∧ bn < A.heap.size) := ⟨by have := HBN.out; have := HZ5.out; omega, HTL.out.1.lt, (Array.getElem?_eq_some_iff.1 HN.out).1⟩
          generalize hE1 : (!(eqs x.1 L).isEmpty) = E1
          have H18 : Hid (Calls Try.prog 18 #[.pointer (some ⟨m, 0, none⟩), .string x.1] A fun e w' => e = .returned (.bool E1) ∧ Hid (Tr w' m (remP L x.1)) ∧ Hid (A.grownBy w' (some m))) := by
            show Calls _ _ _ _ _
            rw [← hE1]
            exact tdel A m L x.1 HTL.out.1 (by have := HTL.out.2; have := HTY.out.1; have := HYK.out.1; omega)
          obtain ⟨k2, hk2⟩ : ∃ k2 : ByteArray, x.1 ++ ⟨#[33]⟩ = k2 := ⟨_, rfl⟩
          have HRM : Hid ((remP L x.1).length ≤ 24000 + t ∧ (remP L x.1).length ≤ 100000) := by
            have h1 := rem_most HTL.out.1.ris x.1
            have h2 := HTL.out.2; have h3 := HTY.out.1; have h4 := HYK.out.1
            exact ⟨by omega, by omega⟩
          clear hE1
          have HW : Hid (w.heap.size < bn ∧ bn ≠ m ∧ m < W6.heap.size ∧ bn < W6.heap.size) := by
            have h1 := HZ5.out; have h2 := HBN.out; have h3 := HSW.out
            exact ⟨by omega, by omega, by omega, by omega⟩
          have HEND : Hid (∀ A2, Tr A2 m (insP (remP L x.1) (k2, ⟨#[120]⟩)) → A.grownBy A2 (some m) → SB w wr p (w.heap.size + 1) bm bw (bw + 1) m a5 n5 c5 key stop ys A2 → A2.heap[bn]? = some (.cells #[.int .i64 (t : Int)] 3) →
              SB w wr p (w.heap.size + 1) bm bw (bw + 1) m a5 n5 c5 key stop ys (A2.setCell ⟨bn, 0, none⟩ (.int .i64 ((t : Int) + 1))) ∧ (A2.setCell ⟨bn, 0, none⟩ (.int .i64 ((t : Int) + 1))).heap[bn]? = some (.cells #[.int .i64 (((t + 1 : Nat)) : Int)] 3) ∧ (∃ L, Tr (A2.setCell ⟨bn, 0, none⟩ (.int .i64 ((t : Int) + 1))) m L ∧ L.length ≤ 24000 + (t + 1)) ∧ Held W6.heap.size A (A2.setCell ⟨bn, 0, none⟩ (.int .i64 ((t : Int) + 1)))) := by
            intro A2 h1 h2 h3 h4
            have hg := grown_setCell A2 bn 0 (.int .i64 ((t : Int) + 1))
            have ho : Oth A2 bn := Oth.box h4 (by decide) (by decide) (by decide)
            have hz := HZ5.out; have hbb := HBN.out
            refine ⟨h3.grown hg ho (by omega) (by omega), ?_, ⟨_, h1.keptBy hg ho (by omega), ?_⟩, (Held.grown h2 HW.out.2.2.1).trans (Held.grown hg HW.out.2.2.2)⟩
            · have e := heap_setCell_same A2 bn 0 _ 3 (.int .i64 ((t : Int) + 1)) h4
              simpa using e
            · have := ins_most (ris_rem HTL.out.1.ris x.1) (k2, (⟨#[120]⟩ : ByteArray))
              have := HRM.out.1
              omega
          have hnb : ¬ w.heap.size = bn := by have := HW.out; omega
          by_cases hst : (t : Int) + 1 = stop
          · have e1 : (((t : Int) + 1) == stop) = true := by simpa using hst
            have HST : Hid ((t : Int) + 1 = stop) := hst
            clear hst
            gi_wp2_with (first
              | (refine ⟨trivial, ?_⟩; gi_at_call 18; refine (CallsIn.inRound _ (callsIn_wide.2 H18.out)).mono ?_; rintro e A1 ⟨rfl, HT1, HG1⟩; have HS1 : Hid (SB w wr p (w.heap.size + 1) bm bw (bw + 1) m a5 n5 c5 key stop ys A1) := HS.out.grown HG1.out HTL.out.1.oth (by have := HZ5.out; omega) (by have := HZ5.out; omega); have c71 := cell_one HS1.out.mb; have HN1 : Hid (A1.heap[bn]? = some (.cells #[.int .i64 (t : Int)] 3)) := (HG1.out.block bn HBA.out.2.2 (by have := HBA.out.1; simpa using this)).trans HN.out)
              | (refine ⟨trivial, ?_⟩; gi_at_call 19; refine (CallsIn.inRound _ (callsIn_wide.2 (tput A1 m (remP L x.1) (k2, ⟨#[120]⟩) HT1.out (by have := HRM.out; omega)))).mono ?_; rintro e A2 ⟨rfl, HT2, HG2⟩; have HS2 : Hid (SB w wr p (w.heap.size + 1) bm bw (bw + 1) m a5 n5 c5 key stop ys A2) := HS1.out.grown HG2.out HT1.out.oth (by have := HZ5.out; omega) (by have := HZ5.out; omega); have cs2 := cell_one HS2.out.st; have hn2 : A2.heap[bn]? = some (.cells #[.int .i64 (t : Int)] 3) := (HG2.out.block bn (Array.getElem?_eq_some_iff.1 HN1.out).1 (by have := HBA.out.1; simpa using this)).trans HN1.out; have cn2 := cell_one hn2; have fn2 : A2.frozen? ⟨bn, 0, none⟩ = false := frozen_of_row A2 bn 0 _ 3 hn2; have HN2 : Hid (A2.heap[bn]? = some (.cells #[.int .i64 (t : Int)] 3)) := hn2; clear hn2))
            obtain ⟨h1, h2, h3, h4⟩ := HEND.out A2 HT2.out (grown_tr HG1.out HG2.out) HS2.out HN2.out
            exact ⟨⟨rfl, h1, t + 1, h2, by have := HST.out; simp; omega, by have := HTY.out.1; have := HYK.out.1; omega⟩, h4⟩
          · have e1 : (((t : Int) + 1) == stop) = false := by simpa using hst
            clear hst
            gi_wp2_with (first
              | (refine ⟨trivial, ?_⟩; gi_at_call 18; refine (CallsIn.inRound _ (callsIn_wide.2 H18.out)).mono ?_; rintro e A1 ⟨rfl, HT1, HG1⟩; have HS1 : Hid (SB w wr p (w.heap.size + 1) bm bw (bw + 1) m a5 n5 c5 key stop ys A1) := HS.out.grown HG1.out HTL.out.1.oth (by have := HZ5.out; omega) (by have := HZ5.out; omega); have c71 := cell_one HS1.out.mb; have HN1 : Hid (A1.heap[bn]? = some (.cells #[.int .i64 (t : Int)] 3)) := (HG1.out.block bn HBA.out.2.2 (by have := HBA.out.1; simpa using this)).trans HN.out)
              | (refine ⟨trivial, ?_⟩; gi_at_call 19; refine (CallsIn.inRound _ (callsIn_wide.2 (tput A1 m (remP L x.1) (k2, ⟨#[120]⟩) HT1.out (by have := HRM.out; omega)))).mono ?_; rintro e A2 ⟨rfl, HT2, HG2⟩; have HS2 : Hid (SB w wr p (w.heap.size + 1) bm bw (bw + 1) m a5 n5 c5 key stop ys A2) := HS1.out.grown HG2.out HT1.out.oth (by have := HZ5.out; omega) (by have := HZ5.out; omega); have cs2 := cell_one HS2.out.st; have hn2 : A2.heap[bn]? = some (.cells #[.int .i64 (t : Int)] 3) := (HG2.out.block bn (Array.getElem?_eq_some_iff.1 HN1.out).1 (by have := HBA.out.1; simpa using this)).trans HN1.out; have cn2 := cell_one hn2; have fn2 : A2.frozen? ⟨bn, 0, none⟩ = false := frozen_of_row A2 bn 0 _ 3 hn2; have HN2 : Hid (A2.heap[bn]? = some (.cells #[.int .i64 (t : Int)] 3)) := hn2; clear hn2))
            obtain ⟨h1, h2, h3, h4⟩ := HEND.out A2 HT2.out (grown_tr HG1.out HG2.out) HS2.out HN2.out
            exact ⟨⟨h1, h2, h3⟩, h4⟩
        case iter =>
          intro J Jx A hS hB hJb hJxb hJI hJX hY h0
          have := Wid.scan2_all 2 (W6.heap.size + 1) (bw + 1 + 2) (bw + 1) (bw + 1 + 1) p L' key ⟨#[]⟩ wr HRT.out (W6.heap.size + 2) J Jx hJb hJxb ?_ ?_ ?_ A hS h0
          · rw [HYS.out] at this; exact this
          · intro A hA
            obtain ⟨⟨c, hc⟩, _⟩ := hJX A hA
            exact hc.2.1.kp
          · intro t A hA
            obtain ⟨hI, hsz⟩ := hJI t A hA
            exact ⟨cell_one hI.1.ro, cell_one hI.1.fr, cell_one hI.1.un, hI.1.kp, hsz⟩
          · intro t x A hj hx
            rw [HYS.out] at hx
            exact YieldAt.deep 0 (hY t x A hj hx)
        case rest =>
          rintro A ⟨h1, v, h2, h3, h4⟩ hK
          have HS : Hid (SB w wr p (w.heap.size + 1) bm bw (bw + 1) m a5 n5 c5 key stop ys A) := h1
          have HKA : Hid (A.heap[W6.heap.size]? = some (.deferred (some []))) := hK
          have cn := cell_one h2
          have cw := cell_one h1.wt
          have cs := cell_one h1.st
          have q3 : (n5 : Int) ≤ 24000 := by have := HNW.out; have := HYK.out.1; omega
          have hcase : ((v : Int) != (n5 : Int)) = false ∨ (((v : Int) != (n5 : Int)) = true ∧ ((v : Int) != stop) = false) := by
            have hn := HNW.out
            by_cases hv : v = n5
            · left; simp [hv]
            · right
              refine ⟨by simp; omega, ?_⟩
              rcases h3 with h3 | h3
              · exact absurd (h3.trans hn.symm) hv
              · simp [h3]
          clear h1 h2 h3 h4 hK
          rcases hcase with e1 | ⟨e1, e2⟩
          all_goals
            go_wp2
            obtain ⟨V6, hV6⟩ : ∃ V6, A.alloc (.cells #[.int .i64 0] 3) = V6 := ⟨_, rfl⟩
            obtain ⟨bi, hbi⟩ : ∃ bi, A.heap.size = bi := ⟨_, rfl⟩
            have hbV : Below A.heap.size A V6 := by rw [← hV6]; exact (Below.refl _ A).alloc (Nat.le_refl _) _
            have HWA : Hid (W6.heap.size < A.heap.size) := (Array.getElem?_eq_some_iff.1 HKA.out).1
            have HIB : Hid (V6.heap[bi]? = some (.cells #[.int .i64 ((0 : Nat) : Int)] 3)) := by show _ = _; rw [← hV6, ← hbi]; exact World.alloc_heap_new A _
            have HSV6 : Hid (SB w wr p (w.heap.size + 1) bm bw (bw + 1) m a5 n5 c5 key stop ys V6) := HS.out.wid (Wid.BelowR.full hbV (Nat.le_refl _)) (by have := HS.out.be.size; omega)
            have HSI : Hid (V6.heap.size = bi + 1) := by show _ = _; rw [← hV6, ← hbi]; simp
            have HKV : Hid (V6.heap[W6.heap.size]? = some (.deferred (some []))) := (hbV.block _ HWA.out).trans HKA.out
            have HBI : Hid (W6.heap.size < bi) := by show _ < _; rw [← hbi]; exact HWA.out
            rw [hV6, hbi]
            clear hV6 hbi hbV HS HKA cn cw cs HWA
            refine (wpIn_wide (n := 3)).1 ?_
            refine' Wid.rangeLeave (gf := 28) (lb := #[.pointer (some ⟨bw + 1 + 2, 0, none⟩), .pointer (some ⟨bw + 1, 0, none⟩), .pointer (some ⟨bw + 1 + 1, 0, none⟩)]) rfl (enters_of Try.func28 (by kernel_rfl) rfl) (fun _ x => encQ x) (fun _ _ => rfl) ys
              (fun t A => SB w wr p (w.heap.size + 1) bm bw (bw + 1) m a5 n5 c5 key stop ys A ∧ A.heap[bi]? = some (.cells #[.int .i64 (t : Int)] 3) ∧ A.heap[W6.heap.size]? = some (.deferred (some [])))
              (fun _ _ => False) ?hI (fun _ _ _ h _ => h) ⟨HSV6.out, HIB.out, HKV.out⟩ _ ?assign ?body ?iter ?done (fun c A h _ => h.elim)
            case assign =>
              intro t x A K hK
              dsimp only [encQ]
              gi_wp2
              exact hK
            case hI =>
              rintro t A B ⟨h1, h2, h3⟩ hb
              exact ⟨h1.wid hb (by have := HSV6.out.be.size; omega), (hb.below.block _ (by have := HSI.out; omega)).trans h2, (hb.below.block _ (by have := HSI.out; have := HBI.out; omega)).trans h3⟩
            case iter =>
              intro J Jx A hS hB hJb hJxb hJI hJX hY h0
              have := Wid.scan2_all 2 (V6.heap.size + 1) (bw + 1 + 2) (bw + 1) (bw + 1 + 1) p L' key ⟨#[]⟩ wr HRT.out (V6.heap.size + 2) J Jx hJb hJxb ?_ ?_ ?_ A hS h0
              · rw [HYS.out] at this; exact this
              · intro A hA
                obtain ⟨⟨c, hc⟩, _⟩ := hJX A hA
                exact hc.elim
              · intro t A hA
                obtain ⟨hI, hsz⟩ := hJI t A hA
                exact ⟨cell_one hI.1.ro, cell_one hI.1.fr, cell_one hI.1.un, hI.1.kp, hsz⟩
              · intro t x A hj hx
                rw [HYS.out] at hx
                exact YieldAt.deep 0 (hY t x A hj hx)
            case body =>
              rintro t x A ⟨h1, h2, h3⟩ hx hlt
              have HS : Hid (SB w wr p (w.heap.size + 1) bm bw (bw + 1) m a5 n5 c5 key stop ys A) := h1
              have HN : Hid (A.heap[bi]? = some (.cells #[.int .i64 (t : Int)] 3) ∧ A.heap[W6.heap.size]? = some (.deferred (some []))) := ⟨h2, h3⟩
              have HTY : Hid (t < ys.length ∧ ys[t]? = some x) := ⟨(List.getElem?_eq_some_iff.1 hx).1, hx⟩
              obtain ⟨g, off, ha5, hrow, hel⟩ := h1.rd.2 (by have := HTY.out.1; have := HNW.out; omega)
              obtain ⟨ce1, ce2⟩ := hel t x hx
              have cn := cell_one h2
              have fn : A.frozen? ⟨bi, 0, none⟩ = false := frozen_of_row A bi 0 _ 3 h2
              have cw := cell_one h1.wt
              rw [ha5] at cw
              have q1 : (t : Int) < (n5 : Int) := by have := HTY.out.1; have := HNW.out; omega
              have q2 : ¬ (n5 : Int) ≤ (t : Int) := by omega
              have r1 : (x.1.toList == x.1.toList) = true := by simp
              clear hrow hel h1 h2 h3 hx hlt ha5
              gi_wp2
              have hg := grown_setCell A bi 0 (.int .i64 ((t : Int) + 1))
              have ho : Oth A bi := Oth.box HN.out.1 (by decide) (by decide) (by decide)
              have hz := HZ5.out; have hbb := HBN.out; have hbi := HBI.out; have hsw := HSW.out
              refine ⟨⟨HS.out.grown hg ho (by omega) (by omega), ?_, (hg.block _ (Array.getElem?_eq_some_iff.1 HN.out.2).1 (by simp; omega)).trans HN.out.2⟩, Held.grown hg (by have := HSI.out; omega)⟩
              have e := heap_setCell_same A bi 0 _ 3 (.int .i64 ((t : Int) + 1)) HN.out.1
              simpa using e
            case done =>
              rintro A ⟨h1, h2, h3⟩ hK
              have HS : Hid (SB w wr p (w.heap.size + 1) bm bw (bw + 1) m a5 n5 c5 key stop ys A) := h1
              have HK2 : Hid (A.heap[V6.heap.size]? = some (.deferred (some [])) ∧ A.heap[W6.heap.size]? = some (.deferred (some []))) := ⟨hK, h3⟩
              have cn := cell_one h2
              have cw := cell_one h1.wt
              have e3 : (((ys.length : Nat) : Int) == (n5 : Int)) = true := by have := HNW.out; simp; omega
              clear h1 h2 h3 hK
              go_wp2_with (go_at_call 9; refine (lives_is A).mono ?_; rintro e A2 ⟨rfl, HB2⟩; have hr2 := (HB2.out.block (w.heap.size + 1) (Array.getElem?_eq_some_iff.1 HS.out.rs).1).trans HS.out.rs; have c6 := cell_one hr2; have f6 : A2.frozen? ⟨w.heap.size + 1, 0, none⟩ = false := frozen_of_row A2 (w.heap.size + 1) 0 _ 4 hr2; have HR2 : Hid (A2.heap[w.heap.size + 1]? = some (.cells #[.bool false] 4)) := hr2; clear hr2)
              have hz := HZ5.out; have hbb := HBN.out; have hbi := HBI.out; have hsw := HSW.out; have hsi := HSI.out
              have hg := grown_setCell A2 (w.heap.size + 1) 0 (.bool true)
              have hm : ∀ m : Nat, A.heap[m]? = some (.deferred (some [])) → (A2.setCell ⟨w.heap.size + 1, 0, none⟩ (.bool true)).heap[m]? = some (.deferred (some [])) := fun m hm => by
                have e1 := (HB2.out.block m (Array.getElem?_eq_some_iff.1 hm).1).trans hm
                refine (hg.block m (Array.getElem?_eq_some_iff.1 e1).1 ?_).trans e1
                simp only [ne_eq, Option.some.injEq]
                rintro rfl
                rw [HR2.out] at e1
                cases e1
              refine scans_end rfl [V6.heap.size, W6.heap.size] _ ((HS.out.be.trans (HB2.out.mono HS.out.be.size)).setCell (p := ⟨w.heap.size + 1, 0, none⟩) (by show _ ≤ w.heap.size + 1; omega) _) ?_ (by simp; omega) ?_
              · simpa using heap_setCell_same A2 (w.heap.size + 1) 0 _ 4 (.bool true) HR2.out
              · intro m hmm
                simp only [List.mem_cons, List.not_mem_nil, or_false] at hmm
                rcases hmm with rfl | rfl
                · exact ⟨by omega, hm _ HK2.out.1⟩
                · exact ⟨by omega, hm _ HK2.out.2⟩
end Go.Proofs.Ytnagknlfboadkaa.Oct
