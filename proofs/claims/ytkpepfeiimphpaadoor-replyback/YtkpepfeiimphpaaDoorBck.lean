/-
  Layer 24 (reply): the laws ReplyBack and ReplyCut.
-/
import Derived.Test.YtkpepfeiimphpaaDoorRlw
namespace Go.Proofs.YtkpepfeiimphpaaDoor.Oct
open Go.RowKit
set_option linter.unusedSimpArgs false
set_option linter.unusedVariables false

/-- replies that lie in memory, above what was there -/
def KB (w W : World) (L : List (Nat × List Value)) : Prop := Below w.heap.size w W ∧ ∀ p ∈ L, Blk W p.1 23 p.2 ∧ w.heap.size ≤ p.1
theorem KB.below {w W W' : World} {L : List (Nat × List Value)} (h : KB w W L) (hb : Below W.heap.size W W') : KB w W' L := ⟨below_tr h.1 hb, fun p hp => ⟨(h.2 p hp).1.below hb (h.2 p hp).1.lt, (h.2 p hp).2⟩⟩
theorem KB.push {w W W' : World} {L : List (Nat × List Value)} {Z X : List Value} (h : KB w W L) (hx : Hid (Blk W' W.heap.size 23 (Z.take 0 ++ X ++ Z.drop (0 + X.length)))) (hg : Hid ((W.alloc (.cells Z.toArray 23)).grownBy W' (some W.heap.size))) (hl : Z.length = X.length := by rfl) : KB w W' ((W.heap.size, X) :: L) := by
  have e1 := below_al W (Obj.cells Z.toArray 23)
  have e := below_tr h.1 e1
  refine ⟨?_, ?_⟩
  · obtain ⟨a1, a2, a3, a4, a5⟩ := hg.out
    obtain ⟨b1, c2, b3, b4, b5⟩ := e
    exact ⟨a1.trans b1, a2.trans c2, a3.trans b3, Nat.le_trans b4 a4, fun k hk => (a5 k (Nat.lt_of_lt_of_le hk b4) (by have := h.1.size; simp; omega)).trans (b5 k hk)⟩
  · intro p hp
    rcases List.mem_cons.1 hp with rfl | hp
    · refine ⟨?_, h.1.size⟩
      have k := hx.out
      rw [List.take_zero, List.nil_append, List.drop_of_length_le (by omega), List.append_nil] at k
      exact k
    · have l1 := (h.2 p hp).1.lt
      exact ⟨((h.2 p hp).1.below e1 l1).kept hg.out (by simp; omega), (h.2 p hp).2⟩
theorem rd_is {l : List UInt8} {e : Ending} {st : Int} {ty bo : BA} {cl : Bool} (h : RdP l e) (h0 : (prL st ty bo cl).2 = 0) (h1 : aftB l (prL st ty bo cl).1 = true) : e = .returned (.tuple #[.agg (rpc st ty bo cl).toArray, iv ((prL st ty bo cl).1.length : Int), iv 0]) :=
  rd_one h (.inl ⟨st, ty, bo, cl, rfl, h0, h1⟩)
theorem aftB_app (p l : List UInt8) : aftB (p ++ l) p = true := (aft_app p l).2
theorem prL_bad (st : Int) (ty bo : BA) (cl : Bool) : (prL st ty bo cl).2 = 0 ∨ ((prL st ty bo cl).1 = [] ∧ ((prL st ty bo cl).2 = 2 ∨ (prL st ty bo cl).2 = 3)) := by
  unfold prL
  split
  · exact .inr ⟨rfl, .inl rfl⟩
  · split
    · exact .inr ⟨rfl, .inr rfl⟩
    · exact .inl rfl
theorem headL_len {st n : Nat} {ty : List UInt8} {cl : Bool} (h1 : st ≤ 999) (h2 : ty.length ≤ 64) (h3 : n ≤ 65536) : (headL st ty n cl).length ≤ 4000 ∧ 0 < (headL st ty n cl).length := by
  have a1 : (Lib.decDigits st).length ≤ 1000 := dec_sz (n := st) (by omega)
  have a2 : (Lib.decDigits n).length ≤ 1000 := dec_sz (n := n) (by omega)
  have a3 : (reasonS (st : Int)).data.toList.length ≤ 1000 := reason_sz _
  have a4 : (if ty = [] then [] else ctL ++ (ty ++ crL)).length ≤ 80 := by
    split
    · simp
    · rw [List.length_append, List.length_append]
      have : ctL.length = 14 := rfl
      have : crL.length = 2 := rfl
      omega
  have a5 : (if cl then ccL else []).length ≤ 19 := by cases cl <;> decide
  have e : (headL st ty n cl).length = 9 + ((Lib.decDigits st).length + (1 + ((reasonS (st : Int)).data.toList.length + (2 + ((if ty = [] then [] else ctL ++ (ty ++ crL)).length + (16 + ((Lib.decDigits n).length + (2 + ((if cl then ccL else []).length + 2))))))))) := by
    unfold headL
    simp only [List.length_append]
    rfl
  rw [e]
  omega
theorem prL_sz {st : Int} {ty bo : BA} {cl : Bool} (h : (prL st ty bo cl).2 = 0) : (prL st ty bo cl).1.length ≤ bo.size + 4000 ∧ 0 < (prL st ty bo cl).1.length ∧ bo.size ≤ 65536 := by
  unfold prL at h ⊢
  by_cases c1 : st < 100 ∨ 999 < st ∨ typB ty.data.toList = false
  · rw [if_pos c1] at h; exact absurd h (by decide)
  rw [if_neg c1] at h ⊢
  by_cases c2 : 65536 < bo.size
  · rw [if_pos c2] at h; exact absurd h (by decide)
  rw [if_neg c2]
  have hT : ty.data.toList.length ≤ 64 := by
    cases h : typB ty.data.toList with
    | false => exact absurd (.inr (.inr h)) c1
    | true => unfold typB at h; simp only [Bool.and_eq_true, decide_eq_true_eq] at h; exact h.1.1.1
  obtain ⟨a, b⟩ := headL_len (st := st.toNat) (n := bo.size) (ty := ty.data.toList) (cl := cl) (by omega) hT (by omega)
  dsimp only
  rw [List.length_append]
  have : bo.data.toList.length = bo.size := rfl
  omega
/-- no beginning of a printed text is read -/
theorem rd_cut {l : List UInt8} {e : Ending} {st : Int} {ty bo : BA} {cl : Bool} {k : Nat} (h0 : (prL st ty bo cl).2 = 0) (hl : (prL st ty bo cl).1 = l) (hk : k < l.length) (h : RdP (l.take k) e) : e = .returned (.tuple #[.agg (rpc 0 e0 e0 false).toArray, iv 0, iv 240]) := by
  rcases h with ⟨st', ty', bo', cl', rfl, a1, a2⟩ | ⟨rfl, _⟩
  · exfalso
    unfold aftB at a2
    rw [List.isPrefixOf_iff_prefix] at a2
    have p1 : (prL st' ty' bo' cl').1 <+: l := a2.trans (List.take_prefix _ _)
    have e1 := rd_one (l := l) (.inl ⟨st, ty, bo, cl, rfl, h0, by unfold aftB; rw [List.isPrefixOf_iff_prefix, hl]; exact List.prefix_refl _⟩) (.inl ⟨st', ty', bo', cl', rfl, a1, by unfold aftB; rw [List.isPrefixOf_iff_prefix]; exact p1⟩)
    have e2 := a2.length_le
    rw [List.length_take] at e2
    have e3 : ((prL st ty bo cl).1.length : Int) = ((prL st' ty' bo' cl').1.length : Int) := by
      injection e1 with e1
      injection e1 with e1
      have := congrArg (fun a : Array Value => a[1]?) e1
      simpa using this
    rw [hl] at e3
    omega
  · rfl
#print axioms rd_cut
end Go.Proofs.YtkpepfeiimphpaaDoor.Oct
