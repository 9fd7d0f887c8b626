/-
  Layer 20 (review): others: who stands in a list, each once, but for one.
-/
import Derived.Test.YtaecigpjcbjcbaaBas
namespace Go.Proofs.Ytaecigpjcbjcbaa.Oct
open Go.RowKit

/-- a set as a map -/
def unit (ks : List Hs) : Kv := ks.map fun k => (k, .agg #[])
theorem kget_unit (ks : List Hs) (h : Hs) : kget (unit ks) h = if h ∈ ks then some (.agg #[]) else none := by
  unfold kget unit
  rw [List.find?_map]
  cases hf : List.find? ((fun x : Hs × Value => x.1 == h) ∘ fun k => (k, Value.agg #[])) ks with
  | none =>
    have hn : h ∉ ks := fun hm => by
      have := List.find?_eq_none.1 hf h hm
      simp at this
    rw [if_neg hn]; rfl
  | some e =>
    have h1 := List.mem_of_find?_eq_some hf
    have h2 := List.find?_some hf
    have h3 : e = h := by simpa using h2
    rw [if_pos (h3 ▸ h1)]; rfl
theorem khas_unit (ks : List Hs) (h : Hs) : khas (unit ks) h = decide (h ∈ ks) := by
  unfold khas
  rw [kget_unit]
  split <;> simp [*]
def addK (ks : List Hs) (h : Hs) : List Hs := if h ∈ ks then ks else ks ++ [h]
theorem unit_put (ks : List Hs) (h : Hs) : kput (unit ks) h (.agg #[]) = unit (addK ks h) := by
  unfold kput addK
  rw [khas_unit]
  by_cases hm : h ∈ ks
  · simp only [hm, decide_true, if_true]
    unfold unit
    rw [List.map_map]
    refine List.map_congr_left fun x _ => ?_
    simp only [Function.comp]
    split
    · rename_i e; rw [e]
    · rfl
  · simp only [hm, decide_false, Bool.false_eq_true, if_false]
    simp [unit]
/-- who stands in a list, each once, but for one -/
def oths (one : BA) : List BA → List Hs
  | [] => []
  | s :: l => if s = one then oths one l else addK (oths one l) (bk s)
/-- the same, from the left -/
def othsL (one : BA) (l : List BA) : List Hs := oths one l.reverse
theorem othsL_snoc (one s : BA) (l : List BA) : othsL one (l ++ [s]) = if s = one then othsL one l else addK (othsL one l) (bk s) := by
  unfold othsL
  rw [List.reverse_append]
  rfl
theorem run_make104 (W : World) : (Instr.makeMap 104 none).run Try.prog W = .ok (.map (some W.heap.size)) (W.alloc (.map #[] 0)) := by
  simp [Instr.makeMap]
theorem addK_len (ks : List Hs) (h : Hs) : (addK ks h).length ≤ ks.length + 1 := by unfold addK; split <;> simp
theorem oths_len (one : BA) : ∀ l, (oths one l).length ≤ l.length
  | [] => Nat.le_refl _
  | s :: l => by
    have := oths_len one l
    simp only [oths]
    split
    · simp; omega
    · have := addK_len (oths one l) (bk s); simp; omega
set_option maxRecDepth 100000 in
set_option maxHeartbeats 1000000 in
theorem others_is (one : BA) (l : List BA) (a : Option Addr) (n c : Nat) (w : World) (hl : Strs w a n l) (hn : n ≤ 140737488355328) (hsz : ∀ s ∈ l, s.size ≤ 140737488355328) :
    Calls Try.prog 44 #[.slice a n c, .string one] w fun e w' => e = .returned (iv ((othsL one l).length : Int)) ∧ Below w.heap.size w w' := by
  have HL : Hid (Strs w a n l) := hl
  have HZ : Hid (∀ s ∈ l, s.size ≤ 140737488355328) := hsz
  have qn : (n : Int) ≤ 140737488355328 := by omega
  obtain ⟨m, hm⟩ : ∃ m, w.heap.size = m := ⟨_, rfl⟩
  have HM0 : Hid (MP (w.alloc (.map #[] 0)) m (unit [])) := by rw [← hm]; exact MP.made w
  have HMm : Hid (w.heap.size = m) := hm
  clear hl hn hsz
  have hmk := run_make104
  go_enter Try.func44, Try.ntmps44
  go_wp2
  go_loopw [11] (fun u wr => ∃ i : Nat, u = iv i ∧ Hid (i ≤ n ∧ MP wr m (unit (othsL one (l.take i))) ∧ Below w.heap.size w wr)) (fun u _ => n - (intOf u).toNat)
  case atStart => exact ⟨0, rfl, Nat.zero_le _, HM0.out, below_al w _⟩
  case round =>
    obtain ⟨i, rfl, HI⟩ := hrel
    by_cases hi : i = n
    · have q1 : (n : Int) ≤ (i : Int) := by omega
      have HT : Hid (l.take i = l) := by show _ = _; rw [hi, ← HL.out.1, List.take_length]
      have hlen := HI.out.2.1.len (t := 104) (E := 105) Try.underlying104 3
      rw [show (unit (othsL one (List.take i l))).length = (othsL one l).length by rw [HT.out]; simp [unit]] at hlen
      have HB := HI.out.2.2
      clear HI hi
      go_wp2
      go_ret
      exact ⟨rfl, HB⟩
    · have q1 : (i : Int) < (n : Int) := by have := HI.out.1; omega
      have HI2 : Hid (i < n) := by show _ < _; have := HI.out.1; omega
      obtain ⟨b, off, ha, hbl, hc⟩ := HL.out.2 (by have := HI2.out; omega)
      subst ha
      obtain ⟨s, hs⟩ : ∃ s, l[i]? = some s := ⟨_, List.getElem?_eq_getElem (by rw [HL.out.1]; exact HI2.out)⟩
      have c0 : wr.cell? ⟨b, off + i, none⟩ = some (.string s) := (HI.out.2.2.cell (p := ⟨b, off + i, none⟩) hbl).trans (hc i s hs)
      have HTK : Hid (othsL one (l.take (i + 1)) = if s = one then othsL one (l.take i) else addK (othsL one (l.take i)) (bk s)) := by
        show _ = _
        rw [List.take_add_one, hs]
        exact othsL_snoc one s _
      have HSZ : Hid (s.size ≤ 140737488355328) := HZ.out s (List.mem_of_getElem? hs)
      clear hi hc hs hbl
      by_cases he : s = one
      · have q2 : (s.toList != one.toList) = false := by rw [bne, eq_iff]; simp [he]
        have q3 : (s.toList == one.toList) = true := by rw [eq_iff]; simp [he]
        have HN : Hid (othsL one (l.take (i + 1)) = othsL one (l.take i)) := by show _ = _; rw [HTK.out, if_pos he]
        clear he
        go_wp2
        refine ⟨⟨i + 1, by simp, HI2.out, by rw [HN.out]; exact HI.out.2.1, HI.out.2.2⟩, ?_⟩
        have := HI2.out
        simp only [intOf]
        omega
      · have q2 : (s.toList != one.toList) = true := by rw [bne, eq_iff]; simp [he]
        have q3 : (s.toList == one.toList) = false := by rw [eq_iff]; simp [he]
        have HN : Hid (othsL one (l.take (i + 1)) = addK (othsL one (l.take i)) (bk s)) := by show _ = _; rw [HTK.out, if_neg he]
        obtain ⟨w1, hrun, h1, h2, h3⟩ := HI.out.2.1.put (t := 104) (h := bk s) Try.underlying104 (len_max HSZ.out) (.agg #[])
        rw [unit_put] at h1
        rw [hv_bk] at hrun
        have HP : Hid (MP w1 m (unit (othsL one (l.take (i + 1)))) ∧ Below w.heap.size w w1) := ⟨by rw [HN.out]; exact h1, HI.out.2.2.grown h2 HI.out.2.2.size (fun j hj => by cases hj; rw [HMm.out]; exact Nat.le_refl _)⟩
        clear he h1 h2 h3
        go_wp2
        refine ⟨⟨i + 1, by simp, HI2.out, HP.out.1, HP.out.2⟩, ?_⟩
        have := HI2.out
        simp only [intOf]
        omega
#print axioms others_is
end Go.Proofs.Ytaecigpjcbjcbaa.Oct
