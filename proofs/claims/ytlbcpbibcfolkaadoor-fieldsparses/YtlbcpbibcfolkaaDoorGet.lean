/-
  Layer 22 (fields): Get, of the program and of the reference; FieldsGets.
-/
import Derived.Test.YtlbcpbibcfolkaaDoorPrl
namespace Go.Proofs.YtlbcpbibcfolkaaDoor.Oct
open Go.RowKit
set_option linter.unusedSimpArgs false
set_option linter.unusedVariables false

/-- the value of a key's first pair -/
def getA (key : BA) : List Pr → BA × Bool
  | [] => (e0, false)
  | p :: r => if (p.k.toList == key.toList) = true then (p.v, true) else getA key r
theorem getA_drop {key : BA} {l : List Pr} {i : Nat} {p : Pr} (hp : l[i]? = some p) : getA key (l.drop i) = if (p.k.toList == key.toList) = true then (p.v, true) else getA key (l.drop (i + 1)) := by
  have hi := (List.getElem?_eq_some_iff.1 hp).1
  rw [List.drop_eq_getElem_cons hi, (List.getElem?_eq_some_iff.1 hp).2]
  rfl
theorem getA_snoc (key v : BA) : ∀ l : List Pr, getA key (l ++ [⟨key, v⟩]) = if (getA key l).2 = true then getA key l else (v, true)
  | [] => by simp [getA]
  | p :: r => by
    have ih := getA_snoc key v r
    show (if _ then _ else _) = _
    by_cases h : (p.k.toList == key.toList) = true
    · rw [if_pos h]; unfold getA; rw [if_pos h]; rfl
    · rw [if_neg h]
      show getA key (r ++ [⟨key, v⟩]) = _
      rw [ih]
      conv => rhs; unfold getA
      rw [if_neg h]
theorem getA_ok {key : BA} : ∀ {l : List Pr}, (∀ p ∈ l, p.ok) → (getA key l).1.size ≤ 140737488355328
  | [], _ => by show e0.size ≤ _; decide
  | p :: r, h => by
    unfold getA
    split
    · exact (h p (by simp)).2
    · exact getA_ok (fun q hq => h q (by simp [hq]))
set_option maxRecDepth 100000 in
theorem cl37_is (k v key : BA) (g : Nat) (w : World) (hc : w.cell? ⟨g, 0, none⟩ = some (.string key)) (hg : g < w.heap.size) (E : Bool) (hE : (k.toList == key.toList) = E) : Calls Tryd.prog 37 #[.agg #[.string k, .string v], .pointer (some ⟨g, 0, none⟩)] w fun e w' => e = .returned (.bool E) ∧ Below w.heap.size w w' := by
  obtain ⟨A, hA⟩ : ∃ A, w.alloc (.cells #[.string k, .string v] 49) = A := ⟨_, rfl⟩
  have hb : Below w.heap.size w A := by rw [← hA]; exact below_al _ _
  have HB : Hid (Below w.heap.size w A) := hb
  have hk : Blk A w.heap.size 49 [.string k, .string v] := by rw [← hA]; exact Blk.new w _ _
  have c0 : A.cell? ⟨w.heap.size, 0, none⟩ = some (.string k) := hk.cell rfl
  have c1 : A.cell? ⟨g, 0, none⟩ = some (.string key) := (hb.cell (p := ⟨g, 0, none⟩) hg).trans hc
  clear hb hk hc hg
  go_enter Tryd.func37, Tryd.ntmps37
  go_wp2
  go_ret
  exact ⟨rfl, HB.out⟩
#print axioms cl37_is
set_option maxRecDepth 100000 in
set_option maxHeartbeats 1000000 in
theorem index36_is {w : World} {a : Option Addr} {n cap : Nat} {l : List Pr} (h : PsR w (.slice a l.length cap) l) (hn : l.length = n) (key : BA) (g : Nat) (hc : w.cell? ⟨g, 0, none⟩ = some (.string key)) (hg : g < w.heap.size) :
    Calls Tryd.prog 36 #[.slice a n cap, .func (.func 37) #[] #[.pointer (some ⟨g, 0, none⟩)]] w fun e w' => ∃ j : Int, e = .returned (iv j) ∧ Hid ((j = -1 ∧ getA key l = (e0, false)) ∨ ∃ i p, j = (i : Nat) ∧ l[i]? = some p ∧ getA key l = (p.v, true)) ∧ Below w.heap.size w w' := by
  obtain ⟨hok, a', cap', heq, hle, hcap, hr⟩ := h
  have HE : Hid (n ≤ cap' ∧ l.length = n) := ⟨by omega, hn⟩
  cases heq
  have qn : (n : Int) ≤ 9223372036854775807 := by unfold maxLen at hcap; omega
  rw [hn] at hr
  have HRA : Hid (0 < n → ∃ b off, a = some ⟨b, off, none⟩ ∧ b < w.heap.size ∧ ∀ i e, l[i]? = some e → w.rangeAt b (off + i * 2) e.cells) := hr
  have HC : Hid (w.cell? ⟨g, 0, none⟩ = some (.string key) ∧ g < w.heap.size) := ⟨hc, hg⟩
  clear hok hle hcap hr hn hc hg
  go_enter Tryd.func36, Tryd.ntmps36
  go_wp2
  go_loopw [8] (fun u wr => ∃ i : Nat, u = iv i ∧ Hid (i ≤ n ∧ Below w.heap.size w wr ∧ getA key l = getA key (l.drop i))) (fun u _ => n - (intOf u).toNat)
  case atStart => exact ⟨0, rfl, Nat.zero_le _, Below.refl _ _, rfl⟩
  case round =>
    obtain ⟨i, rfl, HI⟩ := hrel
    by_cases hi : i = n
    · have q1 : (n : Int) ≤ (i : Int) := by omega
      have HT : Hid (getA key l = (e0, false)) := by
        show _ = _
        rw [HI.out.2.2, List.drop_eq_nil_iff.2 (by have := HE.out.2; omega)]
        rfl
      have HB : Hid (Below w.heap.size w wr) := HI.out.2.1
      clear HI hi
      go_wp2
      go_ret
      exact ⟨_, rfl, .inl ⟨rfl, HT.out⟩, HB.out⟩
    · have q1 : (i : Int) < (n : Int) := by have := HI.out.1; omega
      have HI2 : Hid (i < n) := by show _ < _; have := HI.out.1; omega
      obtain ⟨b, off, ha, hbl, hc⟩ := HRA.out (by have := HI2.out; omega)
      subst ha
      obtain ⟨x, hx⟩ : ∃ x, l[i]? = some x := ⟨_, List.getElem?_eq_getElem (by have := HE.out.2; have := HI2.out; omega)⟩
      have hra := rangeAt_same (hc i x hx) (HI.out.2.1.block b hbl)
      have hgd := getA_drop (key := key) hx
      obtain ⟨k, v⟩ := x
      obtain ⟨E, hE⟩ : ∃ E, (k.toList == key.toList) = E := ⟨_, rfl⟩
      rw [show (Pr.mk k v).k = k from rfl, hE] at hgd
      have HX : Hid (l[i]? = some ⟨k, v⟩ ∧ wr.rangeAt b (off + i * 2) (Pr.mk k v).cells ∧ getA key l = (if E = true then (v, true) else getA key (l.drop (i + 1)))) := ⟨hx, hra, by rw [HI.out.2.2, hgd]⟩
      have HCALL : Hid (Calls Tryd.prog 37 #[.agg (Pr.mk k v).cells.toArray, .pointer (some ⟨g, 0, none⟩)] wr fun e w' => e = .returned (.bool E) ∧ Below wr.heap.size wr w') := cl37_is k v key g wr ((HI.out.2.1.cell (p := ⟨g, 0, none⟩) HC.out.2).trans HC.out.1) (Nat.lt_of_lt_of_le HC.out.2 HI.out.2.1.size) E hE
      clear hi hx hc hra hgd hE hbl
      go_wp2_with (with_reducible change wpList _ _ _ ({ dst := some 15, op := _, type := _, pos := _, after := _, guard := _ } :: _) _ _; refine Hid.out ?_)
      show wpList _ _ _ _ _ _
      refine wpList_load_mid rfl 49 (.tmp 14) rfl b (off + i * 2) rfl (Pr.mk k v).cells _ HX.out.2.1 Tryd.underlying49 rfl (size49 _) ?_
      go_wp2_with fail
      refine HCALL.out.mono ?_
      rintro e w1 ⟨rfl, hb1⟩
      have HB1 : Hid (Below w.heap.size w w1) := below_tr HI.out.2.1 hb1
      clear HCALL hb1
      cases E
      · have HN : Hid (getA key l = getA key (l.drop (i + 1))) := by have := HX.out.2.2; rw [if_neg (by simp)] at this; exact this
        go_wp2
        refine ⟨⟨i + 1, by simp, HI2.out, HB1.out, HN.out⟩, ?_⟩
        have := HI2.out
        simp only [intOf]
        omega
      · have HN : Hid (getA key l = (v, true)) := by have := HX.out.2.2; rw [if_pos rfl] at this; exact this
        go_wp2
        go_ret
        exact ⟨_, rfl, .inr ⟨i, _, rfl, HX.out.1, HN.out⟩, HB1.out⟩
#print axioms index36_is
set_option maxRecDepth 100000 in
set_option maxHeartbeats 1000000 in
theorem get_is {w : World} {a : Option Addr} {n cap : Nat} {l : List Pr} (h : PsR w (.slice a l.length cap) l) (hn : l.length = n) (key : BA) (T : BA) (B : Bool) (hT : getA key l = (T, B)) :
    Calls Tryd.prog 23 #[.slice a n cap, .string key] w fun e w' => e = .returned (.tuple #[.string T, .bool B]) ∧ Below w.heap.size w w' := by
  obtain ⟨A, hA⟩ : ∃ A, w.alloc (.cells #[.string key] 9) = A := ⟨_, rfl⟩
  have hb : Below w.heap.size w A := by rw [← hA]; exact below_al _ _
  have hk : Blk A w.heap.size 9 [.string key] := by rw [← hA]; exact Blk.new w _ _
  have HA : Hid (Below w.heap.size w A ∧ PsR A (.slice a l.length cap) l ∧ A.cell? ⟨w.heap.size, 0, none⟩ = some (.string key) ∧ w.heap.size < A.heap.size ∧ l.length = n) := ⟨hb, h.below hb, hk.cell rfl, hk.lt, hn⟩
  have HT : Hid (getA key l = (T, B)) := hT
  clear hb hk h hT hn
  go_enter Tryd.func23, Tryd.ntmps23
  go_wp2_with fail
  refine (index36_is HA.out.2.1 HA.out.2.2.2.2 key _ HA.out.2.2.1 HA.out.2.2.2.1).mono ?_
  rintro e W1 ⟨j, rfl, hj, hb1⟩
  have H1 : Hid (Below w.heap.size w W1 ∧ PsR W1 (.slice a l.length cap) l) := ⟨below_tr HA.out.1 hb1, HA.out.2.1.below hb1⟩
  clear hb1
  rcases hj.out with ⟨rfl, hg⟩ | ⟨i, p, rfl, hp, hg⟩
  · rw [HT.out] at hg
    cases hg
    clear hj
    go_wp2
    go_ret2
    exact ⟨rfl, H1.out.1⟩
  · rw [HT.out] at hg
    cases hg
    obtain ⟨hok, a', cap', heq, hle, hcap, hr⟩ := H1.out.2
    have hi := (List.getElem?_eq_some_iff.1 hp).1
    cases heq
    have hln := HA.out.2.2.2.2
    have qi : (i : Int) < (n : Int) := by omega
    have q0 : ¬ ((i : Int) < 0) := by omega
    obtain ⟨b, off, rfl, hbl, hc⟩ := hr (by omega)
    have c1 : W1.cell? ⟨b, off + i * 2 + 1, none⟩ = some (.string p.v) := hc i p hp 1 _ rfl
    clear hj hok hle hcap hr hi hln hc hbl hp
    go_wp2
    go_ret2
    exact ⟨rfl, H1.out.1⟩
#print axioms get_is
set_option maxRecDepth 100000 in
set_option maxHeartbeats 1000000 in
theorem rget_is {w : World} {a : Option Addr} {n cap : Nat} {l : List Pr} (h : PsR w (.slice a l.length cap) l) (hn : l.length = n) (key : BA) (T : BA) (B : Bool) (hT : getA key l = (T, B)) :
    Calls Tryd.prog 24 #[.slice a n cap, .string key] w fun e w' => e = .returned (.tuple #[.string T, .bool B]) ∧ Below w.heap.size w w' := by
  obtain ⟨hok, a', cap', heq, hle, hcap, hr⟩ := h
  have HE : Hid (n ≤ cap' ∧ l.length = n) := ⟨by omega, hn⟩
  cases heq
  have qn : (n : Int) ≤ 9223372036854775807 := by unfold maxLen at hcap; omega
  rw [hn] at hr
  have HRA : Hid (0 < n → ∃ b off, a = some ⟨b, off, none⟩ ∧ b < w.heap.size ∧ ∀ i e, l[i]? = some e → w.rangeAt b (off + i * 2) e.cells) := hr
  have HT : Hid (getA key l = (T, B)) := hT
  clear hok hle hcap hr hn hT
  go_enter Tryd.func24, Tryd.ntmps24
  go_wp2
  go_loopw [6] (fun u wr => ∃ i : Nat, u = iv i ∧ Hid (i ≤ n ∧ w = wr ∧ getA key l = getA key (l.drop i))) (fun u _ => n - (intOf u).toNat)
  case atStart => exact ⟨0, rfl, Nat.zero_le _, rfl, rfl⟩
  case round =>
    obtain ⟨i, rfl, HI⟩ := hrel
    obtain rfl := HI.out.2.1
    by_cases hi : i = n
    · have q1 : (n : Int) ≤ (i : Int) := by omega
      have HT2 : Hid (T = e0 ∧ B = false) := by
        have e : getA key l = (e0, false) := by
          rw [HI.out.2.2, List.drop_eq_nil_iff.2 (by have := HE.out.2; omega)]
          rfl
        rw [HT.out] at e
        cases e
        exact ⟨rfl, rfl⟩
      obtain ⟨rfl, rfl⟩ := HT2.out
      clear HI hi HT2
      go_wp2
      go_ret2
      exact ⟨rfl, Below.refl _ _⟩
    · have q1 : (i : Int) < (n : Int) := by have := HI.out.1; omega
      have HI2 : Hid (i < n) := by show _ < _; have := HI.out.1; omega
      obtain ⟨b, off, ha, hbl, hc⟩ := HRA.out (by have := HI2.out; omega)
      subst ha
      obtain ⟨x, hx⟩ : ∃ x, l[i]? = some x := ⟨_, List.getElem?_eq_getElem (by have := HE.out.2; have := HI2.out; omega)⟩
      have hgd := getA_drop (key := key) hx
      have c0 : w.cell? ⟨b, off + i * 2, none⟩ = some (.string x.k) := hc i x hx 0 _ rfl
      have c1 : w.cell? ⟨b, off + i * 2 + 1, none⟩ = some (.string x.v) := hc i x hx 1 _ rfl
      obtain ⟨k, v⟩ := x
      dsimp only at hgd c0 c1
      cases hE : (k.toList == key.toList) with
      | true =>
        have HN : Hid (T = v ∧ B = true) := by
          have e := HI.out.2.2
          rw [hgd, if_pos hE, HT.out] at e
          cases e
          exact ⟨rfl, rfl⟩
        obtain ⟨rfl, rfl⟩ := HN.out
        clear hi hx hc hgd hbl HN HI
        go_wp2
        go_ret2
        exact ⟨rfl, Below.refl _ _⟩
      | false =>
        have HN : Hid (getA key l = getA key (l.drop (i + 1))) := by
          show _ = _
          rw [HI.out.2.2, hgd, if_neg (by rw [hE]; simp)]
        clear hi hx hc hgd hbl HI
        go_wp2
        refine ⟨⟨i + 1, by simp, HI2.out, by first | exact rfl | exact trivial, HN.out⟩, ?_⟩
        have := HI2.out
        simp only [intOf]
        omega
#print axioms rget_is
end Go.Proofs.YtlbcpbibcfolkaaDoor.Oct
