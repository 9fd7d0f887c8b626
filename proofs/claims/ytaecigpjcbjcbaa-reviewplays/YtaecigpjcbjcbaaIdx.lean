/-
  Layer 20 (review): IndexFunc, ContainsFunc; the closures.
-/
import Derived.Test.YtaecigpjcbjcbaaIso
namespace Go.Proofs.Ytaecigpjcbjcbaa.Oct
open Go.RowKit
set_option linter.unusedSimpArgs false
set_option linter.unusedVariables false

/-- the first place at which P holds -/
def fstP (P : Nat → Bool) (l : List Nat) : Int := match l.findIdx? P with | some i => (i : Int) | none => -1
theorem fstP_none {P : Nat → Bool} {l : List Nat} (h : l.any P = false) : fstP P l = -1 := by
  unfold fstP
  rw [List.findIdx?_eq_none_iff.2 (fun x hx => by simpa using (List.any_eq_false.1 h) x hx)]
theorem fstP_some {P : Nat → Bool} {l : List Nat} {i x : Nat} (h : (l.take i).any P = false) (hx : l[i]? = some x) (hp : P x = true) : fstP P l = (i : Int) := by
  unfold fstP
  have hi : i < l.length := (List.getElem?_eq_some_iff.1 hx).1
  have e : l.findIdx? P = some i := by
    rw [List.findIdx?_eq_some_iff_getElem]
    refine ⟨hi, by rw [(List.getElem?_eq_some_iff.1 hx).2]; exact hp, fun j hj => ?_⟩
    have := (List.any_eq_false.1 h) l[j] (List.mem_take_iff_getElem.2 ⟨j, by omega, rfl⟩)
    simpa using this
  rw [e]
set_option maxRecDepth 100000 in
set_option maxHeartbeats 1000000 in
theorem index46_is (P : Nat → Bool) (k1 k2 k3 : Value) (l : List Nat) (a : Option Addr) (n cp : Nat) (w : World) (hl : Nums w a n l) (hn : n ≤ 140737488355328)
    (hf : ∀ k ∈ l, ∀ V, Below w.heap.size w V → Calls Try.prog 46 #[iv (k : Int), k1, k2, k3] V fun e w' => e = .returned (.bool (P k)) ∧ Below V.heap.size V w') :
    Calls Try.prog 56 #[.slice a n cp, .func (.func 46) #[] #[k1, k2, k3]] w fun e w' => e = .returned (iv (fstP P l)) ∧ Below w.heap.size w w' := by
  have HL : Hid (Nums w a n l) := hl
  have HF : Hid (∀ k ∈ l, ∀ V, Below w.heap.size w V → Calls Try.prog 46 #[iv (k : Int), k1, k2, k3] V fun e w' => e = .returned (.bool (P k)) ∧ Below V.heap.size V w') := hf
  have qn : (n : Int) ≤ 140737488355328 := by omega
  clear hl hf hn
  go_enter Try.func56, Try.ntmps56
  go_wp2
  go_loopw [8] (fun u wr => ∃ i : Nat, u = iv i ∧ Hid (i ≤ n ∧ Below w.heap.size w wr ∧ (l.take i).any P = false)) (fun u _ => n - (intOf u).toNat)
  case atStart => exact ⟨0, rfl, Nat.zero_le _, Below.refl _ _, rfl⟩
  case round =>
    obtain ⟨i, rfl, HI⟩ := hrel
    by_cases hi : i = n
    · have q1 : (n : Int) ≤ (i : Int) := by omega
      have HT : Hid (fstP P l = -1) := by
        show _ = _
        have := HI.out.2.2
        rw [hi, ← HL.out.1, List.take_length] at this
        exact fstP_none this
      have HB := HI.out.2.1
      clear HI hi
      go_wp2
      go_ret
      exact ⟨by rw [HT.out]; rfl, HB⟩
    · have q1 : (i : Int) < (n : Int) := by have := HI.out.1; omega
      have HI2 : Hid (i < n) := by show _ < _; have := HI.out.1; omega
      obtain ⟨b, off, ha, hbl, hc⟩ := HL.out.2 (by have := HI2.out; omega)
      subst ha
      obtain ⟨x, hx⟩ : ∃ x, l[i]? = some x := ⟨_, List.getElem?_eq_getElem (by rw [HL.out.1]; exact HI2.out)⟩
      have c0 : wr.cell? ⟨b, off + i, none⟩ = some (iv (x : Int)) := (HI.out.2.1.cell (p := ⟨b, off + i, none⟩) hbl).trans (hc i x hx)
      have HX : Hid (l[i]? = some x) := hx
      have HCALL := HF.out x (List.mem_of_getElem? hx) wr HI.out.2.1
      clear hi hx hc
      go_wp2_with fail
      refine HCALL.mono ?_
      rintro e w1 ⟨rfl, hb1⟩
      have HB1 : Hid (Below w.heap.size w w1) := below_tr HI.out.2.1 hb1
      clear HCALL hb1 c0
      cases hP : P x
      · have HN : Hid ((l.take (i + 1)).any P = false) := by
          show _ = _
          rw [List.take_add_one, HX.out, List.any_append, HI.out.2.2]
          simp [hP]
        clear hP
        go_wp2
        refine ⟨⟨i + 1, by simp, HI2.out, HB1.out, HN.out⟩, ?_⟩
        have := HI2.out
        simp only [intOf]
        omega
      · have HN : Hid (fstP P l = (i : Int)) := fstP_some HI.out.2.2 HX.out hP
        clear hP
        go_wp2
        go_ret
        exact ⟨by rw [HN.out]; rfl, HB1.out⟩
#print axioms index46_is
set_option maxRecDepth 100000 in
set_option maxHeartbeats 1000000 in
theorem index51_is (P : Nat → Bool) (k1 : Value) (l : List Nat) (a : Option Addr) (n cp : Nat) (w : World) (hl : Nums w a n l) (hn : n ≤ 140737488355328)
    (hf : ∀ k ∈ l, ∀ V, Below w.heap.size w V → Calls Try.prog 51 #[iv (k : Int), k1] V fun e w' => e = .returned (.bool (P k)) ∧ Below V.heap.size V w') :
    Calls Try.prog 56 #[.slice a n cp, .func (.func 51) #[] #[k1]] w fun e w' => e = .returned (iv (fstP P l)) ∧ Below w.heap.size w w' := by
  have HL : Hid (Nums w a n l) := hl
  have HF : Hid (∀ k ∈ l, ∀ V, Below w.heap.size w V → Calls Try.prog 51 #[iv (k : Int), k1] V fun e w' => e = .returned (.bool (P k)) ∧ Below V.heap.size V w') := hf
  have qn : (n : Int) ≤ 140737488355328 := by omega
  clear hl hf hn
  go_enter Try.func56, Try.ntmps56
  go_wp2
  go_loopw [8] (fun u wr => ∃ i : Nat, u = iv i ∧ Hid (i ≤ n ∧ Below w.heap.size w wr ∧ (l.take i).any P = false)) (fun u _ => n - (intOf u).toNat)
  case atStart => exact ⟨0, rfl, Nat.zero_le _, Below.refl _ _, rfl⟩
  case round =>
    obtain ⟨i, rfl, HI⟩ := hrel
    by_cases hi : i = n
    · have q1 : (n : Int) ≤ (i : Int) := by omega
      have HT : Hid (fstP P l = -1) := by
        show _ = _
        have := HI.out.2.2
        rw [hi, ← HL.out.1, List.take_length] at this
        exact fstP_none this
      have HB := HI.out.2.1
      clear HI hi
      go_wp2
      go_ret
      exact ⟨by rw [HT.out]; rfl, HB⟩
    · have q1 : (i : Int) < (n : Int) := by have := HI.out.1; omega
      have HI2 : Hid (i < n) := by show _ < _; have := HI.out.1; omega
      obtain ⟨b, off, ha, hbl, hc⟩ := HL.out.2 (by have := HI2.out; omega)
      subst ha
      obtain ⟨x, hx⟩ : ∃ x, l[i]? = some x := ⟨_, List.getElem?_eq_getElem (by rw [HL.out.1]; exact HI2.out)⟩
      have c0 : wr.cell? ⟨b, off + i, none⟩ = some (iv (x : Int)) := (HI.out.2.1.cell (p := ⟨b, off + i, none⟩) hbl).trans (hc i x hx)
      have HX : Hid (l[i]? = some x) := hx
      have HCALL := HF.out x (List.mem_of_getElem? hx) wr HI.out.2.1
      clear hi hx hc
      go_wp2_with fail
      refine HCALL.mono ?_
      rintro e w1 ⟨rfl, hb1⟩
      have HB1 : Hid (Below w.heap.size w w1) := below_tr HI.out.2.1 hb1
      clear HCALL hb1 c0
      cases hP : P x
      · have HN : Hid ((l.take (i + 1)).any P = false) := by
          show _ = _
          rw [List.take_add_one, HX.out, List.any_append, HI.out.2.2]
          simp [hP]
        clear hP
        go_wp2
        refine ⟨⟨i + 1, by simp, HI2.out, HB1.out, HN.out⟩, ?_⟩
        have := HI2.out
        simp only [intOf]
        omega
      · have HN : Hid (fstP P l = (i : Int)) := fstP_some HI.out.2.2 HX.out hP
        clear hP
        go_wp2
        go_ret
        exact ⟨by rw [HN.out]; rfl, HB1.out⟩
#print axioms index51_is
theorem fst_any (P : Nat → Bool) (l : List Nat) : decide (0 ≤ fstP P l) = l.any P := by
  cases h : l.any P
  · rw [fstP_none h]; rfl
  · unfold fstP
    cases hf : l.findIdx? P with
    | none =>
      exfalso
      rw [List.any_eq_true] at h
      obtain ⟨x, hx, hp⟩ := h
      have := List.findIdx?_eq_none_iff.1 hf x hx
      rw [hp] at this
      cases this
    | some i => simp
set_option maxRecDepth 100000 in
theorem cont46_is (P : Nat → Bool) (k1 k2 k3 : Value) (l : List Nat) (a : Option Addr) (n cp : Nat) (w : World) (hl : Nums w a n l) (hn : n ≤ 140737488355328)
    (hf : ∀ k ∈ l, ∀ V, Below w.heap.size w V → Calls Try.prog 46 #[iv (k : Int), k1, k2, k3] V fun e w' => e = .returned (.bool (P k)) ∧ Below V.heap.size V w') :
    Calls Try.prog 45 #[.slice a n cp, .func (.func 46) #[] #[k1, k2, k3]] w fun e w' => e = .returned (.bool (l.any P)) ∧ Below w.heap.size w w' := by
  have HI := index46_is P k1 k2 k3 l a n cp w hl hn hf
  have HK : Hid (decide (0 ≤ fstP P l) = l.any P) := fst_any P l
  generalize fstP P l = z at *
  clear hl hn hf
  go_enter Try.func45, Try.ntmps45
  go_wp2_with fail
  refine HI.mono ?_
  rintro e w1 ⟨rfl, hb⟩
  clear HI
  go_wp2
  go_ret
  exact ⟨by rw [← HK.out]; rfl, hb⟩
#print axioms cont46_is
/-- the proposal of an open number is of this channel and patch -/
def Br.ofN (M : Br) (ch : BA) (h : Hs) (k : Nat) : Bool := match M.props[k - 1]? with | some p => isOfB ch h p | none => false
set_option maxRecDepth 100000 in
theorem clos46_is {w : World} {b K : Nat} {M : Br} (h : BAt w b M K) {k1 k2 k3 k : Nat} (hk : 1 ≤ k ∧ k ≤ M.props.length) {ch : BA} {hs : Hs} (hl : hs.length = 32) (c1 : Blk w k1 25 [.pointer (some ⟨b, 0, none⟩)]) (c2 : Blk w k2 9 [.string ch]) (c3 : Blk w k3 32 (U hs)) :
    Calls Try.prog 46 #[iv (k : Int), .pointer (some ⟨k1, 0, none⟩), .pointer (some ⟨k2, 0, none⟩), .pointer (some ⟨k3, 0, none⟩)] w fun e w' => e = .returned (.bool (M.ofN ch hs k)) ∧ Below w.heap.size w w' := by
  obtain ⟨i, rfl⟩ : ∃ i, k = i + 1 := ⟨k - 1, by omega⟩
  obtain ⟨p, hp⟩ : ∃ p, M.props[i]? = some p := ⟨_, List.getElem?_eq_getElem (by omega)⟩
  obtain ⟨g, c, hv, hg, hnc, hpa⟩ := h.prop hp
  have hof : M.ofN ch hs (i + 1) = isOfB ch hs p := by unfold Br.ofN; simp [hp]
  rw [hof]
  have hpl := (h.each p (List.mem_of_getElem? hp)).patch
  obtain ⟨a1, a2, a3, a4, a5⟩ := hpa.cell hpl
  have HCALL : Hid (∀ V, Below w.heap.size w V → Calls Try.prog 47 #[.pointer (some ⟨g, i * 36, none⟩), .string ch, .agg (U hs).toArray] V fun e V1 => e = .returned (.bool (isOfB ch hs p)) ∧ Below V.heap.size V V1) := fun V hV =>
    isOf_is (Nat.lt_of_lt_of_le hpa.1 hV.size) ((hV.cell (p := ⟨g, i * 36 + 1, none⟩) hpa.1).trans a2) (rangeAt_same a3 (hV.block g hpa.1)) hpl ch hs hl
  have HL : Hid (k1 < w.heap.size ∧ b < w.heap.size ∧ k2 < w.heap.size ∧ k3 < w.heap.size ∧ w.rangeAt k3 0 (U hs) ∧ hs.length = 32) :=
    ⟨c1.lt, h.blk.lt, c2.lt, c3.lt, fun j v hj => by rw [Nat.zero_add]; exact c3.cell hj, hl⟩
  have d1 : w.cell? ⟨k1, 0, none⟩ = some (.pointer (some ⟨b, 0, none⟩)) := c1.cell rfl
  have d2 : w.cell? ⟨b, 1, none⟩ = some (.slice (some ⟨g, 0, none⟩) M.props.length c) := by rw [← hv]; exact h.blk.cell rfl
  have d3 : w.cell? ⟨k2, 0, none⟩ = some (.string ch) := c2.cell rfl
  have q1 : (i : Int) + 1 - 1 = i := by omega
  have q2 : (i : Int) ≤ 1000 := by have := h.nprops; have := h.few; omega
  have q4 : i < M.props.length := by omega
  have q3 : (i : Int) < M.props.length := by omega
  have q0 : ((i + 1 : Nat) : Int) = (i : Int) + 1 := by omega
  rw [q0]
  generalize isOfB ch hs p = r at *
  generalize M.props.length = m at *
  clear h hk hp hv hg hpa hof hpl a1 a2 a3 a4 a5 c1 c2 c3 hl q0
  go_enter Try.func46, Try.ntmps46
  go_wp2_with fail
  refine clos46 HL d1 d2 d3 q1 q2 q3 q4 HCALL ?_
  intro V hV
  go_wp2_with fail
  go_ret
  exact ⟨rfl, hV⟩
#print axioms clos46_is
end Go.Proofs.Ytaecigpjcbjcbaa.Oct
