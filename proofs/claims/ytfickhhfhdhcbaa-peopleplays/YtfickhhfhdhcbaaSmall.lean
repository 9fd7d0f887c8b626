/-
  Layer 15 (people): sets; what may begin; names.
-/
import Derived.Test.YtfickhhfhdhcbaaRising
import Derived.Test.YtfickhhfhdhcbaaWord
namespace Go.Proofs.Ytfickhhfhdhcbaa.Oct
open Go.RowKit

theorem hv_list (h : Hs) : (⟨h.toArray⟩ : ByteArray).data.toList = h := rfl
theorem name_hv (h : Hs) (hl : h.length ≤ 140737488355328) (w : World) : Calls Try.prog 70 #[hv h] w fun e w' => e = .returned (.bool (isName h)) ∧ w = w' :=
  name_is ⟨h.toArray⟩ w (by show h.toArray.size ≤ _; rw [List.size_toArray]; exact hl)
theorem len_max {n : Nat} (h : n ≤ 140737488355328) : n ≤ maxLen := by unfold maxLen; omega

/-- a set as a map -/
def unit (ks : List Hs) : Kv := ks.map fun k => (k, .agg #[])
theorem kget_unit (ks : List Hs) (h : Hs) : kget (unit ks) h = if h ∈ ks then some (.agg #[]) else none := by
  unfold kget unit
  rw [List.find?_map]
  cases hf : List.find? ((fun x : Hs × Value => x.1 == h) ∘ fun k => (k, Value.agg #[])) ks with
  | none =>
    have hn : h ∉ ks := fun hm => by
      have := List.find?_eq_none.1 hf h hm
      simp at this
    rw [if_neg hn]; rfl
  | some e =>
    have h1 := List.mem_of_find?_eq_some hf
    have h2 := List.find?_some hf
    have h3 : e = h := by simpa using h2
    rw [if_pos (h3 ▸ h1)]; rfl
theorem khas_unit (ks : List Hs) (h : Hs) : khas (unit ks) h = decide (h ∈ ks) := by
  unfold khas
  rw [kget_unit]
  split <;> simp [*]
theorem getD_unit (ks : List Hs) (h : Hs) : (kget (unit ks) h).getD (.agg #[]) = .agg #[] := by
  rw [kget_unit]
  split <;> rfl
def addK (ks : List Hs) (h : Hs) : List Hs := if h ∈ ks then ks else ks ++ [h]
theorem unit_put (ks : List Hs) (h : Hs) : kput (unit ks) h (.agg #[]) = unit (addK ks h) := by
  unfold kput addK
  rw [khas_unit]
  by_cases hm : h ∈ ks
  · simp only [hm, decide_true, if_true]
    unfold unit
    rw [List.map_map]
    refine List.map_congr_left fun x _ => ?_
    simp only [Function.comp]
    split
    · rename_i e; rw [e]
    · rfl
  · simp only [hm, decide_false, Bool.false_eq_true, if_false]
    simp [unit]
theorem unit_keys (ks : List Hs) : (unit ks).map (·.1) = ks := by
  unfold unit
  rw [List.map_map]
  exact List.map_id _
theorem zero63 (W : World) : (zeroValue 63).run Try.prog W = .ok (.agg #[]) W := by kernel_rfl
theorem zero65 (W : World) : (zeroValue 65).run Try.prog W = .ok (.pointer none) W := by kernel_rfl
theorem zero48 (W : World) : (zeroValue 48).run Try.prog W = .ok (.map none) W := by kernel_rfl
theorem zero3 (W : World) : (zeroValue 3).run Try.prog W = .ok (.int .i64 0) W := by kernel_rfl

set_option maxRecDepth 100000 in
theorem has_is {w : World} {b : Nat} {ks : List Hs} (hm : MP w b (unit ks)) (h : Hs) (hl : h.length ≤ 140737488355328) :
    Calls Try.prog 51 #[.map (some b), hv h] w fun e w' => e = .returned (.bool (decide (h ∈ ks))) ∧ Below w.heap.size w w' := by
  have hlk := hm.look2 (t := 48) (h := h) Try.underlying48 (len_max hl) (zero63 w)
  rw [getD_unit, khas_unit] at hlk
  generalize decide (h ∈ ks) = c at hlk ⊢
  clear hm
  generalize hv h = x at hlk ⊢
  go_enter Try.func51, Try.ntmps51
  go_wp2
  go_ret
  exact ⟨rfl, (Below.refl _ w).alloc (Nat.le_refl _) _⟩
set_option maxRecDepth 100000 in
theorem add_is {w : World} {b : Nat} {ks : List Hs} (hm : MP w b (unit ks)) (h : Hs) (hl : h.length ≤ 140737488355328) :
    Calls Try.prog 49 #[.map (some b), hv h] w fun e w' => e = .returned (.tuple #[]) ∧ MP w' b (unit (addK ks h)) ∧ w.grownBy w' (some b) ∧ w'.heap.size = w.heap.size := by
  obtain ⟨w1, hrun, h1, h2, h3⟩ := hm.put (t := 48) (h := h) Try.underlying48 (len_max hl) (.agg #[])
  rw [unit_put] at h1
  have H : Hid (MP w1 b (unit (addK ks h)) ∧ w.grownBy w1 (some b) ∧ w1.heap.size = w.heap.size) := ⟨h1, h2, h3⟩
  clear hm h1 h2 h3
  generalize hv h = x at hrun ⊢
  go_enter Try.func49, Try.ntmps49
  go_wp2
  go_end0
  exact ⟨rfl, H.out⟩
#print axioms has_is
#print axioms add_is
/-- what speaks against a name -/
def begins (c : Bool) (h : Hs) : Int := if isName h then (if c then 110 else 0) else 150

set_option maxRecDepth 100000 in
theorem begin_U {w : World} {b : Nat} {ks : List Hs} (hm : MP w b (unit ks)) (h : Hs) (hl : h.length ≤ 140737488355328) :
    Calls Try.prog 48 #[.map (some b), hv h] w fun e w' => e = .returned (.int .i64 (begins (khas (unit ks) h) h)) ∧ Below w.heap.size w w' := by
  have hlk := hm.look2 (t := 47) (h := h) Try.underlying47 (len_max hl) (zero63 w)
  rw [getD_unit] at hlk
  have HNM : Hid (Calls Try.prog 70 #[hv h] w fun e w' => e = .returned (.bool (isName h)) ∧ w = w') := name_hv h hl w
  clear hm
  unfold begins
  generalize khas (unit ks) h = c at hlk ⊢
  generalize isName h = n at HNM ⊢
  generalize hv h = x at hlk HNM ⊢
  cases n with
  | false =>
    go_enter Try.func48, Try.ntmps48
    go_wp2_with fail
    refine HNM.out.mono ?_
    rintro e w2 ⟨rfl, rfl⟩
    go_wp2
    go_ret
    exact ⟨rfl, Below.refl _ _⟩
  | true =>
    cases c with
    | false =>
      go_enter Try.func48, Try.ntmps48
      go_wp2_with fail
      refine HNM.out.mono ?_
      rintro e w2 ⟨rfl, rfl⟩
      go_wp2
      go_ret
      first | exact ⟨rfl, Below.refl _ _⟩ | exact ⟨rfl, (Below.refl _ _).alloc (Nat.le_refl _) _⟩
    | true =>
      go_enter Try.func48, Try.ntmps48
      go_wp2_with fail
      refine HNM.out.mono ?_
      rintro e w2 ⟨rfl, rfl⟩
      go_wp2
      go_ret
      first | exact ⟨rfl, Below.refl _ _⟩ | exact ⟨rfl, (Below.refl _ _).alloc (Nat.le_refl _) _⟩
#print axioms begin_U

set_option maxRecDepth 100000 in
theorem begin_O {w : World} {b : Nat} {l : Kv} (hm : MP w b l) (h : Hs) (hl : h.length ≤ 140737488355328) :
    Calls Try.prog 50 #[.map (some b), hv h] w fun e w' => e = .returned (.int .i64 (begins (khas (l) h) h)) ∧ Below w.heap.size w w' := by
  have hlk := hm.look2 (t := 49) (h := h) Try.underlying49 (len_max hl) (zero65 w)
  generalize (kget l h).getD (.pointer none) = v at hlk
  have HNM : Hid (Calls Try.prog 70 #[hv h] w fun e w' => e = .returned (.bool (isName h)) ∧ w = w') := name_hv h hl w
  clear hm
  unfold begins
  generalize khas (l) h = c at hlk ⊢
  generalize isName h = n at HNM ⊢
  generalize hv h = x at hlk HNM ⊢
  cases n with
  | false =>
    go_enter Try.func50, Try.ntmps50
    go_wp2_with fail
    refine HNM.out.mono ?_
    rintro e w2 ⟨rfl, rfl⟩
    go_wp2
    go_ret
    exact ⟨rfl, Below.refl _ _⟩
  | true =>
    cases c with
    | false =>
      go_enter Try.func50, Try.ntmps50
      go_wp2_with fail
      refine HNM.out.mono ?_
      rintro e w2 ⟨rfl, rfl⟩
      go_wp2
      go_ret
      first | exact ⟨rfl, Below.refl _ _⟩ | exact ⟨rfl, (Below.refl _ _).alloc (Nat.le_refl _) _⟩
    | true =>
      go_enter Try.func50, Try.ntmps50
      go_wp2_with fail
      refine HNM.out.mono ?_
      rintro e w2 ⟨rfl, rfl⟩
      go_wp2
      go_ret
      first | exact ⟨rfl, Below.refl _ _⟩ | exact ⟨rfl, (Below.refl _ _).alloc (Nat.le_refl _) _⟩
#print axioms begin_O

set_option maxRecDepth 100000 in
theorem begin_S {w : World} {b : Nat} {l : Kv} (hm : MP w b l) (h : Hs) (hl : h.length ≤ 140737488355328) :
    Calls Try.prog 71 #[.map (some b), hv h] w fun e w' => e = .returned (.int .i64 (begins (khas (l) h) h)) ∧ Below w.heap.size w w' := by
  have hlk := hm.look2 (t := 69) (h := h) Try.underlying69 (len_max hl) (zero48 w)
  generalize (kget l h).getD (.map none) = v at hlk
  have HNM : Hid (Calls Try.prog 70 #[hv h] w fun e w' => e = .returned (.bool (isName h)) ∧ w = w') := name_hv h hl w
  clear hm
  unfold begins
  generalize khas (l) h = c at hlk ⊢
  generalize isName h = n at HNM ⊢
  generalize hv h = x at hlk HNM ⊢
  cases n with
  | false =>
    go_enter Try.func71, Try.ntmps71
    go_wp2_with fail
    refine HNM.out.mono ?_
    rintro e w2 ⟨rfl, rfl⟩
    go_wp2
    go_ret
    exact ⟨rfl, Below.refl _ _⟩
  | true =>
    cases c with
    | false =>
      go_enter Try.func71, Try.ntmps71
      go_wp2_with fail
      refine HNM.out.mono ?_
      rintro e w2 ⟨rfl, rfl⟩
      go_wp2
      go_ret
      first | exact ⟨rfl, Below.refl _ _⟩ | exact ⟨rfl, (Below.refl _ _).alloc (Nat.le_refl _) _⟩
    | true =>
      go_enter Try.func71, Try.ntmps71
      go_wp2_with fail
      refine HNM.out.mono ?_
      rintro e w2 ⟨rfl, rfl⟩
      go_wp2
      go_ret
      first | exact ⟨rfl, Below.refl _ _⟩ | exact ⟨rfl, (Below.refl _ _).alloc (Nat.le_refl _) _⟩
#print axioms begin_S
end Go.Proofs.Ytfickhhfhdhcbaa.Oct
