/-
  Layer 22 (fields): the reference's find and Parse; FieldsParses.
-/
import Derived.Test.YtlbcpbibcfolkaaDoorPcp
import Derived.Test.YtlbcpbibcfolkaaDoorBkl
import Derived.OwnWalk
namespace Go.Proofs.YtlbcpbibcfolkaaDoor.Oct
open Go.RowKit
set_option linter.unusedSimpArgs false
set_option linter.unusedVariables false

theorem tw_at {L : List UInt8} {i : Nat} {x : UInt8} (c : UInt8) (h : L[i]? = some x) : tw c (L.drop i) = if x = c then [] else x :: tw c (L.drop (i + 1)) := by
  have hi := (List.getElem?_eq_some_iff.1 h).1
  rw [List.drop_eq_getElem_cons hi, (List.getElem?_eq_some_iff.1 h).2]
  by_cases hx : x = c
  · rw [if_pos hx]; simp [tw, hx]
  · rw [if_neg hx]; simp [tw, hx]
set_option maxRecDepth 100000 in
set_option maxHeartbeats 1000000 in
theorem find_is (s : BA) (hs : s.size ≤ 20000000) (p : Nat) (hp : p ≤ s.size) (c : UInt8) (w : World) (R : Nat) (hR : p + (tw c (s.data.toList.drop p)).length = R) : Calls Tryd.prog 31 #[.string s, iv (p : Int), bv (c.toNat : Int)] w fun e w' => e = .returned (iv (R : Int)) ∧ w = w' := by
  obtain ⟨n, hn⟩ : ∃ n, s.size = n := ⟨_, rfl⟩
  have qn : (s.size : Int) = (n : Int) := by omega
  have qn2 : (n : Int) ≤ 20000000 := by omega
  obtain ⟨L, hL⟩ : ∃ L, s.data.toList = L := ⟨_, rfl⟩
  have HL : Hid (s.data.toList = L ∧ L.length = n ∧ p ≤ n) := ⟨hL, by rw [← hL, ← hn]; rfl, by omega⟩
  rw [hL] at hR
  have HR : Hid (p + (tw c (L.drop p)).length = R) := hR
  clear hs hL hn hR hp
  go_enter Tryd.func31, Tryd.ntmps31
  go_wp2_with fail
  go_loopw [7] (fun u wr => ∃ i : Nat, u = iv (i : Int) ∧ (i : Int) ≤ (n : Int) ∧ Hid (i + (tw c (L.drop i)).length = R ∧ w = wr)) (fun u _ => n - (intOf u).toNat)
  case atStart => exact ⟨p, rfl, by have := HL.out.2.2; omega, HR.out, rfl⟩
  case round =>
    obtain ⟨i, rfl, q1, HI⟩ := hrel
    obtain ⟨hI, hw⟩ := HI.out
    subst hw
    clear HI
    by_cases hi : i = n
    · subst hi
      have HF : Hid (i = R) := by
        rw [List.drop_eq_nil_iff.2 (by rw [HL.out.2.1]; exact Nat.le_refl _)] at hI
        have h2 : i = R := by simpa [tw] using hI
        exact h2
      obtain rfl := HF.out
      clear hI HF
      go_wp2
      go_ret
      exact ⟨rfl, rfl⟩
    · have q2 : (i : Int) < (n : Int) := by omega
      obtain ⟨x, hx⟩ : ∃ x, L[i]? = some x := ⟨_, List.getElem?_eq_getElem (by rw [HL.out.2.1]; omega)⟩
      have HX : Hid (s.data.toList[i]? = some x) := by rw [HL.out.1]; exact hx
      have ht := tw_at c hx
      by_cases hxc : x = c
      · subst hxc
        rw [ht, if_pos rfl] at hI
        obtain rfl : i = R := by simpa using hI
        clear hx ht hI hi
        go_wp2_with (with_reducible change wpList _ _ _ ({ dst := some 17, op := _, type := _, pos := _, after := _, guard := _ } :: _) _ _; refine Hid.out ?_)
        show wpList _ _ _ _ _ _
        refine wpList_idx rfl (.tmp 15) (.tmp 16) rfl s i x rfl rfl HX.out ?_
        go_wp2
        go_ret
        exact ⟨rfl, rfl⟩
      · have hne : ((x.toNat : Int) == (c.toNat : Int)) = false := by rw [beq_eq_false_iff_ne]; exact fun h => hxc (UInt8.toNat_inj.1 (by omega))
        rw [ht, if_neg hxc] at hI
        have HF : Hid (i + 1 + (tw c (L.drop (i + 1))).length = R ∧ i < n) := ⟨by simp only [List.length_cons] at hI; omega, by omega⟩
        clear hx ht hI hi hxc
        go_wp2_with (with_reducible change wpList _ _ _ ({ dst := some 17, op := _, type := _, pos := _, after := _, guard := _ } :: _) _ _; refine Hid.out ?_)
        show wpList _ _ _ _ _ _
        refine wpList_idx rfl (.tmp 15) (.tmp 16) rfl s i x rfl rfl HX.out ?_
        go_wp2
        go_roundw
        case rel => exact ⟨i + 1, by simp, by have := HF.out.2; omega, HF.out.1, by first | exact rfl | exact trivial⟩
        case measure => have := HF.out.2; simp only [intOf]; omega
#print axioms find_is
def RqP (w : World) (r : List LL × Nat × Int) (e : Ending) (w' : World) : Prop :=
  ((r.2.2 = 0 ∧ ∃ v, e = .returned (.tuple #[v, iv 0, iv 0]) ∧ OwP w' w.heap.size v (r.1.map mkP)) ∨ (r.2.2 ≠ 0 ∧ e = .returned (.tuple #[.slice none 0 0, iv (r.2.1 : Int), iv r.2.2]))) ∧ Below w.heap.size w w'
structure RI (w : World) (L : List UInt8) (v : Value) (p : Nat) (o : List LL) (wr : World) : Prop where
  own : OwP wr w.heap.size v (o.map mkP)
  bel : Below w.heap.size w wr
  len : o.length ≤ 64
  le : p ≤ L.length
  e1 : (refF 64 L).1 = o ++ (refF (64 - o.length) (L.drop p)).1
  e2 : (refF 64 L).2.1 = p + (refF (64 - o.length) (L.drop p)).2.1
  e3 : (refF 64 L).2.2 = (refF (64 - o.length) (L.drop p)).2.2
theorem RI.full {w wr : World} {L : List UInt8} {v : Value} {p : Nat} {o : List LL} (h : RI w L v p o wr) (ho : o.length = 64) : (refF 64 L).2.1 = p ∧ (refF 64 L).2.2 = 3 := by
  have h2 := h.e2
  have h3 := h.e3
  rw [ho] at h2 h3
  exact ⟨by rw [h2]; rfl, by rw [h3]; rfl⟩
theorem ref_bad {k : Nat} {l : List UInt8} (hp : (pairF l).2.2 ≠ 0) : refF (k + 1) l = ([], (pairF l).2.1, (pairF l).2.2) := by unfold refF; rw [if_pos hp]
theorem ref_last {k : Nat} {l : List UInt8} (hp : (pairF l).2.2 = 0) (hl : l.length ≤ (pairF l).2.1) : refF (k + 1) l = ([(pairF l).1], (pairF l).2.1, 0) := by unfold refF; rw [if_neg (by rw [hp]; simp), if_pos hl]
theorem ref_go {k : Nat} {l : List UInt8} (hp : (pairF l).2.2 = 0) (hl : ¬ l.length ≤ (pairF l).2.1) : refF (k + 1) l = ((pairF l).1 :: (refF k (l.drop ((pairF l).2.1 + 1))).1, (pairF l).2.1 + 1 + (refF k (l.drop ((pairF l).2.1 + 1))).2.1, (refF k (l.drop ((pairF l).2.1 + 1))).2.2) := by
  conv => lhs; unfold refF
  rw [if_neg (by rw [hp]; simp), if_neg hl]
theorem ref_suc {k : Nat} (h : k < 64) : 64 - k = (64 - (k + 1)) + 1 := by omega
theorem RI.bad {w wr : World} {L : List UInt8} {v : Value} {p : Nat} {o : List LL} (h : RI w L v p o wr) (ho : o.length < 64) (hp : (pairF (L.drop p)).2.2 ≠ 0) : (refF 64 L).2.1 = p + (pairF (L.drop p)).2.1 ∧ (refF 64 L).2.2 = (pairF (L.drop p)).2.2 := by
  have h2 := h.e2
  have h3 := h.e3
  rw [ref_suc ho, ref_bad hp] at h2 h3
  exact ⟨h2, h3⟩
theorem RI.last {w wr : World} {L : List UInt8} {v : Value} {p : Nat} {o : List LL} (h : RI w L v p o wr) (ho : o.length < 64) (hp : (pairF (L.drop p)).2.2 = 0) (hl : (L.drop p).length ≤ (pairF (L.drop p)).2.1) : (refF 64 L).1 = o ++ [(pairF (L.drop p)).1] ∧ (refF 64 L).2.2 = 0 := by
  have h1 := h.e1
  have h3 := h.e3
  rw [ref_suc ho, ref_last hp hl] at h1 h3
  exact ⟨h1, h3⟩
theorem RI.step {w wr wr' : World} {L : List UInt8} {v v' : Value} {p : Nat} {o : List LL} (h : RI w L v p o wr) (ho : o.length < 64) (hp : (pairF (L.drop p)).2.2 = 0) (hl : ¬ (L.drop p).length ≤ (pairF (L.drop p)).2.1) (hown : OwP wr' w.heap.size v' ((o ++ [(pairF (L.drop p)).1]).map mkP)) (hb : Below w.heap.size w wr') : RI w L v' (p + (pairF (L.drop p)).2.1 + 1) (o ++ [(pairF (L.drop p)).1]) wr' := by
  have h1 := h.e1
  have h2 := h.e2
  have h3 := h.e3
  have hle := h.le
  rw [ref_suc ho, ref_go hp hl] at h1 h2 h3
  rw [List.drop_drop] at h1 h2 h3
  rw [List.length_drop] at hl
  generalize (pairF (L.drop p)).2.1 = n at *
  generalize (pairF (L.drop p)).1 = x at *
  refine ⟨hown, hb, by simp; omega, by omega, ?_, ?_, ?_⟩
  · rw [List.length_append, List.append_assoc]; exact h1
  · rw [List.length_append]; simp only at h2; rw [show p + n + 1 = p + (n + 1) by omega, show o.length + [x].length = o.length + 1 from rfl]; omega
  · rw [List.length_append, show p + n + 1 = p + (n + 1) by omega]; exact h3
theorem ext_data (s : BA) (i j : Nat) : (s.extract i j).data.toList = (s.data.toList.take j).drop i := by
  simp only [ByteArray.data_extract, Array.toList_extract, List.extract_eq_take_drop]
  rw [List.drop_take]
end Go.Proofs.YtlbcpbibcfolkaaDoor.Oct
