/-
  Layer 20 (review): small words; rows of the call's own; texts that are read.
-/
import Derived.Test.YtaecigpjcbjcbaaMem
import Derived.Maps.AppendAt
import Derived.BigQuiet
namespace Go.Proofs.Ytaecigpjcbjcbaa.Oct
open Go.RowKit

abbrev iv (n : Int) : Value := .int .i64 n
abbrev BA := ByteArray
def bk (s : BA) : Hs := s.data.toList
theorem hv_bk (s : BA) : hv (bk s) = .string s := rfl
theorem bk_inj {s t : BA} (h : bk s = bk t) : s = t := by
  have : s.data = t.data := Array.toList_inj.1 h
  cases s; cases t; simpa using this
theorem bk_len (s : BA) : (bk s).length = s.size := rfl
theorem toList_bk (s : BA) : s.toList = bk s := ByteArray.toList_eq s
theorem eq_iff (s t : BA) : (s.toList == t.toList) = decide (s = t) := by
  rw [toList_bk, toList_bk]
  by_cases h : s = t
  · subst h; simp
  · have : bk s ≠ bk t := fun e => h (bk_inj e)
    simp [h, this]
theorem len_max {n : Nat} (h : n ≤ 140737488355328) : n ≤ maxLen := by unfold maxLen; omega
theorem below_al (w : World) (o : Obj) : Below w.heap.size w (w.alloc o) := (Below.refl _ w).alloc (Nat.le_refl _) o
theorem below_tr {w w1 w2 : World} (h : Below w.heap.size w w1) (k : Below w1.heap.size w1 w2) : Below w.heap.size w w2 := h.trans (k.mono h.size)

/-- texts that are read: a slice's elements are l -/
def Strs (w : World) (a : Option Addr) (n : Nat) (l : List ByteArray) : Prop :=
  l.length = n ∧ (0 < n → ∃ b off, a = some ⟨b, off, none⟩ ∧ b < w.heap.size ∧ ∀ i x, l[i]? = some x → w.cell? ⟨b, off + i, none⟩ = some (.string x))
theorem Strs.below {w w' : World} {a : Option Addr} {n : Nat} {l : List ByteArray} (h : Strs w a n l) (hb : Below w.heap.size w w') : Strs w' a n l := by
  refine ⟨h.1, fun hp => ?_⟩
  obtain ⟨b, off, e1, e2, e3⟩ := h.2 hp
  exact ⟨b, off, e1, Nat.lt_of_lt_of_le e2 hb.size, fun i c hc => (hb.cell (p := ⟨b, off + i, none⟩) e2).trans (e3 i c hc)⟩

/-- a row of the call's own -/
abbrev Ow (w : World) (e sz : Nat) (v : Value) (n : Nat) (cs : List Value) : Prop := w.ownsRow 0 e sz v n cs
theorem Ow.same {w w' : World} {e sz n : Nat} {v : Value} {cs : List Value} (h : Ow w e sz v n cs) (hs : ∀ g, v.ownBlock = some g → w'.heap[g]? = w.heap[g]?) : Ow w' e sz v n cs := by
  refine ⟨h.1, ?_⟩
  rcases h.2 with hn | ⟨g, cap, cur, rfl, hB, hb, hr⟩
  · exact .inl hn
  · exact .inr ⟨g, cap, cur, rfl, hB, (hs g rfl).trans hb, hr⟩
theorem Ow.lt {w : World} {e sz n : Nat} {v : Value} {cs : List Value} (h : Ow w e sz v n cs) {g : Nat} (hg : v.ownBlock = some g) : g < w.heap.size := by
  rcases h.2 with ⟨rfl, _⟩ | ⟨g', cap, cur, rfl, hB, hb, hr⟩
  · cases hg
  · cases hg; exact lt_of_block hb
theorem Ow.below {w w' : World} {e sz n : Nat} {v : Value} {cs : List Value} (h : Ow w e sz v n cs) (hb : Below w.heap.size w w') : Ow w' e sz v n cs := h.same fun g hg => hb.block g (h.lt hg)
theorem Ow.nil (w : World) (e sz : Nat) : Ow w e sz (.slice none 0 0) 0 [] := ⟨by simp, .inl ⟨rfl, rfl⟩⟩
/-- its parts -/
theorem Ow.read {w : World} {e sz n : Nat} {v : Value} {cs : List Value} (h : Ow w e sz v n cs) :
    ∃ a cap, v = .slice a n cap ∧ n ≤ cap ∧ cap ≤ maxLen ∧ cs.length = n * sz ∧ (0 < n → ∃ g, a = some ⟨g, 0, none⟩ ∧ v.ownBlock = some g ∧ g < w.heap.size ∧ w.rangeAt g 0 cs) := by
  rcases h.2 with ⟨rfl, rfl⟩ | ⟨g, cap, cur, rfl, hB, hb, hn, hc, hsz, ht⟩
  · exact ⟨none, 0, rfl, Nat.le_refl _, by unfold maxLen; omega, h.1, fun h => absurd h (by omega)⟩
  · refine ⟨_, cap, rfl, hn, hc, h.1, fun _ => ⟨g, rfl, rfl, lt_of_block hb, fun j u hu => ?_⟩⟩
    rw [Nat.zero_add, cell_of_row w g j _ e (0, 0) hb]
    rw [← ht, List.getElem?_take] at hu
    split at hu
    · simpa using hu
    · cases hu
/-- something appended: where the new row lies -/
theorem run_append_ow {P : Program} (w : World) (t ty e : TypeId) (i : TypeInfo) (z : Value) (sz : Nat) (ht : P.underlying t = some (.slice e)) (hi : P.info? e = some i) (hz : i.zero = some z) (hs : i.size = sz) (hzs : z.cells.size = sz) (hsz : 0 < sz)
    (v : Value) (n : Nat) (cs : List Value) (h : Ow w e sz v n cs) (g off m c : Nat) (qs : List Value) (hl : qs.length = m * sz) (hq : w.rangeAt g off qs) (h1 : ∀ u ∈ qs, u.oneCell' = true) (hn : n + m ≤ 1000000) (hm : 0 < m) (hby : i.bytes ≤ 1000) :
    ∃ v' w', (Builtin.append_ #[t, t] ty #[v, .slice (some ⟨g, off, none⟩) m c]).run P w = .ok v' w' ∧ Ow w' e sz v' (n + m) (cs ++ qs) ∧ w.grownBy w' v.ownBlock ∧ ∃ g', v'.ownBlock = some g' ∧ (v.ownBlock = some g' ∨ g' = w.heap.size) := by
  have hb2 : (n + m) * i.bytes ≤ 140737488355328 := by
    refine Nat.le_trans (Nat.mul_le_mul hn hby) (by omega)
  obtain ⟨v', w', hr, h2, h3, h4, h5⟩ := run_append_own_at (P := P) w 0 t ty e i z sz i.bytes ht hi hz hs rfl hzs hsz v n cs h ⟨g, off, none⟩ m c qs hl (fun j u hu => by rw [Addr.add_lit]; exact hq j u hu) h1 (by unfold maxLen; omega) hb2 (Nat.zero_le _)
  refine ⟨v', w', hr, h2, h3, ?_⟩
  rcases h2.2 with ⟨_, h0⟩ | ⟨g', cap, cur, rfl, _⟩
  · omega
  · refine ⟨g', rfl, ?_⟩
    rcases h5 with h5 | h5
    · exact .inl h5.symm
    · right; simpa [Value.ownBlock] using h5
#print axioms run_append_ow
end Go.Proofs.Ytaecigpjcbjcbaa.Oct
