/-
  Layer 12 (deps): items that are turned, and what each needs the other way round, say the same. Plain facts.
-/
import Derived.Test.YtijkpkcopjkhkaaTurnPure
namespace Go.Proofs.Ytijkpkcopjkhkaa.Oct

/-- the i-th of items that are turned by c -/
def rotN (len c i : Nat) : Nat := (i + c) % len
def rotL (l : List It) (c n : Nat) : List It := (List.range n).filterMap fun i => l[rotN l.length c i]?
theorem rotL_succ {l : List It} {c n : Nat} {x : It} (h : l[rotN l.length c n]? = some x) : rotL l c (n + 1) = rotL l c n ++ [x] := by
  unfold rotL
  rw [List.range_succ, List.filterMap_append]
  simp [h]
theorem rotL_all (l : List It) (c : Nat) (hc : c < l.length) : rotL l c l.length = l.drop c ++ l.take c := by
  have key : ∀ n, n ≤ l.length → rotL l c n = (l.drop c ++ l.take c).take n := by
    intro n
    induction n with
    | zero => intro _; simp [rotL]
    | succ n ih =>
      intro hn
      have hlt : rotN l.length c n < l.length := Nat.mod_lt _ (by omega)
      rw [rotL_succ (List.getElem?_eq_getElem hlt), ih (by omega), List.take_add_one]
      congr 1
      have e : (l.drop c ++ l.take c)[n]? = l[rotN l.length c n]? := by
        unfold rotN
        by_cases h : n + c < l.length
        · rw [List.getElem?_append_left (by simp; omega), Nat.mod_eq_of_lt h, List.getElem?_drop, Nat.add_comm]
        · have : (n + c) % l.length = n + c - l.length := by
            rw [Nat.mod_eq_sub_mod (by omega)]
            exact Nat.mod_eq_of_lt (by omega)
          rw [List.getElem?_append_right (by simp; omega), this, List.length_drop, List.getElem?_take_of_lt (by omega)]
          congr 1
          omega
      rw [e, List.getElem?_eq_getElem hlt]
      rfl
  rw [key l.length (Nat.le_refl _), List.take_of_length_le (by simp; omega)]
def kd (x : It) : Hs × List Hs := (x.name, x.deps)
def kr (x : It) : Hs × List Hs := (x.name, x.deps.reverse)
/-- items that were turned say the same -/
theorem turned_alike {l m : List It} {c : Nat} (hc : c < l.length) (hm : m.map kd = ((rotL l c l.length).map kr).reverse) : Alike l m ∧ many m = many l := by
  rw [rotL_all l c hc] at hm
  have hp : (m.map kd).Perm (l.map kr) := by
    rw [hm]
    refine (List.reverse_perm _).trans (List.Perm.map _ ?_)
    refine List.perm_append_comm.trans ?_
    rw [List.take_append_drop]
  have hn : (m.map (·.name)).Perm (l.map (·.name)) := by
    have := hp.map Prod.fst
    simpa [Function.comp_def, kd, kr] using this
  refine ⟨⟨?_, ?_, ?_, ?_⟩, ?_⟩
  · have := hp.length_eq; simpa using this.symm
  · exact hn.nodup_iff.symm
  · exact fun h => hn.mem_iff.symm
  · intro n d
    constructor
    · rintro ⟨x, hx, e, hd⟩
      have h1 : kr x ∈ m.map kd := hp.mem_iff.2 (List.mem_map.2 ⟨x, hx, rfl⟩)
      obtain ⟨y, hy, he⟩ := List.mem_map.1 h1
      simp only [kd, kr, Prod.mk.injEq] at he
      exact ⟨y, hy, he.1.trans e, by rw [he.2]; simpa using hd⟩
    · rintro ⟨y, hy, e, hd⟩
      have h1 : kd y ∈ l.map kr := hp.mem_iff.1 (List.mem_map.2 ⟨y, hy, rfl⟩)
      obtain ⟨x, hx, he⟩ := List.mem_map.1 h1
      simp only [kd, kr, Prod.mk.injEq] at he
      refine ⟨x, hx, he.1.trans e, ?_⟩
      rw [← he.2] at hd
      simpa using hd
  · unfold many
    have := (hp.map (fun p => p.2.length)).sum_nat
    simpa [Function.comp_def, kd, kr] using this
#print axioms turned_alike
end Go.Proofs.Ytijkpkcopjkhkaa.Oct
