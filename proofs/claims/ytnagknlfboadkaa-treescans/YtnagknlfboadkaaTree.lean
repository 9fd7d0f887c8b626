/-
  Trees of pairs, all of whose leaves are equally deep: what they hold, as one list; pairs put in and taken out. Of no program.
-/
import Derived.Test.YtnagknlfboadkaaPairs
namespace Go.Proofs.Ytnagknlfboadkaa.Oct
open Go.RowKit

def Lt (a b : ByteArray) : Bool := Op.bytesLess a.toList b.toList
theorem geS_eq (a b : ByteArray) : geS a b = !(Lt a b) := rfl
theorem bl_irrefl : ∀ l : List UInt8, Op.bytesLess l l = false
  | [] => rfl
  | a :: r => by simp [Op.bytesLess, bl_irrefl r]
theorem bl_trans : ∀ {a b c : List UInt8}, Op.bytesLess a b = true → Op.bytesLess b c = true → Op.bytesLess a c = true
  | _, [], _, h, _ => by cases ‹List UInt8› <;> simp [Op.bytesLess] at h
  | _, _ :: _, [], _, h => by simp [Op.bytesLess] at h
  | [], _ :: _, _ :: _, _, _ => rfl
  | x :: a, y :: b, z :: c, h1, h2 => by
    simp only [Op.bytesLess, Bool.or_eq_true, decide_eq_true_eq, Bool.and_eq_true, beq_iff_eq] at h1 h2 ⊢
    rcases h1 with h1 | ⟨rfl, h1⟩
    · rcases h2 with h2 | ⟨rfl, h2⟩
      · exact .inl (UInt8.lt_trans h1 h2)
      · exact .inl h1
    · rcases h2 with h2 | ⟨rfl, h2⟩
      · exact .inl h2
      · exact .inr ⟨rfl, bl_trans h1 h2⟩
theorem bl_total : ∀ {a b : List UInt8}, Op.bytesLess a b = false → Op.bytesLess b a = false → a = b
  | [], [], _, _ => rfl
  | [], _ :: _, h, _ => by simp [Op.bytesLess] at h
  | _ :: _, [], _, h => by simp [Op.bytesLess] at h
  | x :: a, y :: b, h1, h2 => by
    simp only [Op.bytesLess, Bool.or_eq_false_iff, decide_eq_false_iff_not, Bool.and_eq_false_iff, beq_eq_false_iff_ne] at h1 h2
    have hxy : x = y := UInt8.le_antisymm (UInt8.not_lt.1 h2.1) (UInt8.not_lt.1 h1.1)
    subst hxy
    have e1 : Op.bytesLess a b = false := by
      rcases h1.2 with h | h
      · exact absurd rfl h
      · exact h
    have e2 : Op.bytesLess b a = false := by
      rcases h2.2 with h | h
      · exact absurd rfl h
      · exact h
    rw [bl_total e1 e2]
theorem lt_irrefl (a : ByteArray) : Lt a a = false := bl_irrefl _
theorem lt_trans {a b c : ByteArray} (h : Lt a b = true) (k : Lt b c = true) : Lt a c = true := bl_trans h k
theorem list_inj {a b : ByteArray} (h : a.toList = b.toList) : a = b := by
  rw [ByteArray.toList_eq, ByteArray.toList_eq] at h
  cases a; cases b
  simp only [ByteArray.mk.injEq]
  exact Array.toList_inj.1 h
theorem lt_total {a b : ByteArray} (h : Lt a b = false) (k : Lt b a = false) : a = b := list_inj (bl_total h k)
theorem lt_asymm {a b : ByteArray} (h : Lt a b = true) : Lt b a = false := by
  cases k : Lt b a with
  | false => rfl
  | true => have := lt_trans h k; rw [lt_irrefl] at this; cases this
theorem lt_ge {a b c : ByteArray} (h : Lt a b = false) (k : Lt a c = true) : Lt b c = true := by
  cases hb : Lt b c with
  | true => rfl
  | false =>
    cases hba : Lt b a with
    | true => have := lt_trans hba k; rw [hb] at this; cases this
    | false => have := lt_total h hba; subst this; rw [k] at hb; cases hb
theorem eqb_iff {a b : ByteArray} : (a.toList == b.toList) = true ↔ a = b := ⟨fun h => list_inj (by simpa using h), fun h => by subst h; simp⟩

/-- keys that rise -/
def Ris (l : List Pr) : Prop := l.Pairwise (fun x y => Lt x.1 y.1 = true)
/-- what is less, what is greater -/
def lo (k : ByteArray) (l : List Pr) : List Pr := l.filter (fun x => Lt x.1 k)
def hi (k : ByteArray) (l : List Pr) : List Pr := l.filter (fun x => Lt k x.1)
def eqs (k : ByteArray) (l : List Pr) : List Pr := l.filter (fun x => x.1.toList == k.toList)
/-- a pair put into a list, a key taken out -/
def insP (l : List Pr) (x : Pr) : List Pr := lo x.1 l ++ [x] ++ hi x.1 l
def remP (l : List Pr) (k : ByteArray) : List Pr := lo k l ++ hi k l
def AllL (k : ByteArray) (l : List Pr) : Prop := ∀ x ∈ l, Lt x.1 k = true
def AllG (k : ByteArray) (l : List Pr) : Prop := ∀ x ∈ l, Lt k x.1 = true
theorem lo_L {k : ByteArray} {l : List Pr} (h : AllL k l) : lo k l = l := List.filter_eq_self.2 h
theorem hi_L {k : ByteArray} {l : List Pr} (h : AllL k l) : hi k l = [] := List.filter_eq_nil_iff.2 fun x hx => by rw [lt_asymm (h x hx)]; simp
theorem lo_G {k : ByteArray} {l : List Pr} (h : AllG k l) : lo k l = [] := List.filter_eq_nil_iff.2 fun x hx => by rw [lt_asymm (h x hx)]; simp
theorem hi_G {k : ByteArray} {l : List Pr} (h : AllG k l) : hi k l = l := List.filter_eq_self.2 h
theorem eqs_L {k : ByteArray} {l : List Pr} (h : AllL k l) : eqs k l = [] := List.filter_eq_nil_iff.2 fun x hx e => by
  have := h x hx
  rw [eqb_iff.1 e, lt_irrefl] at this; cases this
theorem eqs_G {k : ByteArray} {l : List Pr} (h : AllG k l) : eqs k l = [] := List.filter_eq_nil_iff.2 fun x hx e => by
  have := h x hx
  rw [eqb_iff.1 e, lt_irrefl] at this; cases this
theorem insP_mid {A M B : List Pr} {x : Pr} (hA : AllL x.1 A) (hB : AllG x.1 B) : insP (A ++ M ++ B) x = A ++ insP M x ++ B := by
  unfold insP
  have e1 : lo x.1 (A ++ M ++ B) = A ++ lo x.1 M := by
    have : lo x.1 (A ++ M ++ B) = lo x.1 A ++ lo x.1 M ++ lo x.1 B := by simp [lo]
    rw [this, lo_L hA, lo_G hB, List.append_nil]
  have e2 : hi x.1 (A ++ M ++ B) = hi x.1 M ++ B := by
    have : hi x.1 (A ++ M ++ B) = hi x.1 A ++ hi x.1 M ++ hi x.1 B := by simp [hi]
    rw [this, hi_L hA, hi_G hB, List.nil_append]
  rw [e1, e2]
  simp
theorem remP_mid {A M B : List Pr} {k : ByteArray} (hA : AllL k A) (hB : AllG k B) : remP (A ++ M ++ B) k = A ++ remP M k ++ B := by
  unfold remP
  have e1 : lo k (A ++ M ++ B) = A ++ lo k M := by
    have : lo k (A ++ M ++ B) = lo k A ++ lo k M ++ lo k B := by simp [lo]
    rw [this, lo_L hA, lo_G hB, List.append_nil]
  have e2 : hi k (A ++ M ++ B) = hi k M ++ B := by
    have : hi k (A ++ M ++ B) = hi k A ++ hi k M ++ hi k B := by simp [hi]
    rw [this, hi_L hA, hi_G hB, List.nil_append]
  rw [e1, e2]
  simp
theorem eqs_mid {A M B : List Pr} {k : ByteArray} (hA : AllL k A) (hB : AllG k B) : eqs k (A ++ M ++ B) = eqs k M := by
  have : eqs k (A ++ M ++ B) = eqs k A ++ eqs k M ++ eqs k B := by simp [eqs]
  rw [this, eqs_L hA, eqs_G hB]; simp
theorem remP_one {A B : List Pr} {x : Pr} (hA : AllL x.1 A) (hB : AllG x.1 B) : remP (A ++ x :: B) x.1 = A ++ B := by
  have := remP_mid (M := [x]) hA hB
  rw [List.append_assoc] at this
  rw [show A ++ x :: B = A ++ ([x] ++ B) from rfl, this]
  simp [remP, lo, hi, lt_irrefl]
theorem insP_one {A B : List Pr} {x y : Pr} (hy : y.1 = x.1) (hA : AllL x.1 A) (hB : AllG x.1 B) : insP (A ++ y :: B) x = A ++ x :: B := by
  have := insP_mid (M := [y]) (x := x) hA hB
  rw [List.append_assoc] at this
  rw [show A ++ y :: B = A ++ ([y] ++ B) from rfl, this]
  simp [insP, lo, hi, hy, lt_irrefl]
theorem eqs_one {A B : List Pr} {x : Pr} (hA : AllL x.1 A) (hB : AllG x.1 B) : eqs x.1 (A ++ x :: B) = [x] := by
  have := eqs_mid (M := [x]) hA hB
  rw [List.append_assoc] at this
  rw [show A ++ x :: B = A ++ ([x] ++ B) from rfl, this]
  simp [eqs]
/-- in keys that rise, what is ahead of a key is less, what is behind it greater -/
theorem Ris.split {A B : List Pr} {x : Pr} (h : Ris (A ++ x :: B)) : AllL x.1 A ∧ AllG x.1 B := by
  unfold Ris at h
  rw [List.pairwise_append] at h
  refine ⟨fun y hy => h.2.2 y hy x (by simp), fun y hy => ?_⟩
  exact (List.pairwise_cons.1 h.2.1).1 y hy
theorem Ris.left {A B : List Pr} (h : Ris (A ++ B)) : Ris A := (List.pairwise_append.1 h).1
theorem Ris.right {A B : List Pr} (h : Ris (A ++ B)) : Ris B := (List.pairwise_append.1 h).2.1
theorem AllL.of {k : ByteArray} {l m : List Pr} (h : AllL k l) (hs : ∀ x ∈ m, x ∈ l) : AllL k m := fun x hx => h x (hs x hx)
theorem AllG.of {k : ByteArray} {l m : List Pr} (h : AllG k l) (hs : ∀ x ∈ m, x ∈ l) : AllG k m := fun x hx => h x (hs x hx)
/-- the same pairs rise -/
theorem ris_ins {l : List Pr} (h : Ris l) (x : Pr) : Ris (insP l x) := by
  unfold insP Ris
  rw [List.append_assoc, List.pairwise_append]
  refine ⟨h.filter _, ?_, ?_⟩
  · rw [List.singleton_append, List.pairwise_cons]
    exact ⟨fun y hy => by simpa [hi] using (List.mem_filter.1 hy).2, h.filter _⟩
  · intro a ha b hb
    have h1 : Lt a.1 x.1 = true := (List.mem_filter.1 ha).2
    rw [List.singleton_append, List.mem_cons] at hb
    rcases hb with rfl | hb
    · exact h1
    · exact lt_trans h1 (List.mem_filter.1 hb).2
theorem ris_rem {l : List Pr} (h : Ris l) (k : ByteArray) : Ris (remP l k) := by
  unfold remP Ris
  rw [List.pairwise_append]
  exact ⟨h.filter _, h.filter _, fun a ha b hb => lt_trans (List.mem_filter.1 ha).2 (List.mem_filter.1 hb).2⟩
#print axioms ris_rem

/-- where a key stands in pairs that rise -/
theorem ris_at {ps : List Pr} {key : ByteArray} {k : Nat} (h : Ris ps) (ha : AtP ps key k) : AllL key (ps.take k) ∧
    (isP ps key k = true → ∃ x, ps[k]? = some x ∧ x.1 = key ∧ ps = ps.take k ++ x :: ps.drop (k + 1) ∧ AllG key (ps.drop (k + 1))) ∧ (isP ps key k = false → AllG key (ps.drop k)) := by
  have hL : AllL key (ps.take k) := by
    intro x hx
    obtain ⟨i, hi, rfl⟩ := List.mem_iff_getElem.1 hx
    have hik : i < k := by rw [List.length_take] at hi; omega
    have hip : i < ps.length := by rw [List.length_take] at hi; omega
    have := ha.2.1 i _ hik (List.getElem?_eq_getElem hip)
    rw [List.getElem_take]
    simpa [geS_eq] using this
  refine ⟨hL, fun hi => ?_, fun hi => ?_⟩
  · cases hx : ps[k]? with
    | none => simp only [isP, hx] at hi; cases hi
    | some x =>
      simp only [isP, hx] at hi
      have hk := eqb_iff.1 hi
      obtain ⟨hlt, e⟩ := List.getElem?_eq_some_iff.1 hx
      have es : ps = ps.take k ++ x :: ps.drop (k + 1) := by
        rw [← e, ← List.drop_eq_getElem_cons hlt, List.take_append_drop]
      refine ⟨x, rfl, hk, es, ?_⟩
      have h2 := h
      rw [es] at h2
      rw [← hk]
      exact h2.split.2
  · intro y hy
    obtain ⟨i, hi', rfl⟩ := List.mem_iff_getElem.1 hy
    have hip : k + i < ps.length := by rw [List.length_drop] at hi'; omega
    have hge : ∀ j (hj : j < ps.length), k ≤ j → Lt (ps[j]).1 key = false := fun j hj hkj => by
      have := ha.2.2 j _ hkj (List.getElem?_eq_getElem hj)
      simpa [geS_eq] using this
    have hk : k < ps.length := by omega
    have h0 := hge k hk (Nat.le_refl _)
    have hne : ps[k].1 ≠ key := by
      intro e
      have : isP ps key k = true := by simp only [isP, List.getElem?_eq_getElem hk]; exact eqb_iff.2 e
      rw [hi] at this; cases this
    have hlt : Lt key ps[k].1 = true := by
      cases hc : Lt key ps[k].1 with
      | true => rfl
      | false => exact absurd (lt_total h0 hc) hne
    rw [List.getElem_drop]
    cases i with
    | zero => exact hlt
    | succ j =>
      have := List.pairwise_iff_getElem.1 h k (k + (j + 1)) hk hip (by omega)
      exact lt_trans hlt this
theorem ris_mono {ps : List Pr} (h : Ris ps) (key : ByteArray) : Mono ps key := by
  intro i j x y hij hx hy hg
  by_cases e : i = j
  · subst e; rw [hx] at hy; cases hy; exact hg
  · obtain ⟨h1, rfl⟩ := List.getElem?_eq_some_iff.1 hx
    obtain ⟨h2, rfl⟩ := List.getElem?_eq_some_iff.1 hy
    have hlt := List.pairwise_iff_getElem.1 h i j h1 h2 (by omega)
    rw [geS_eq] at hg ⊢
    cases hc : Lt ps[j].1 key with
    | false => rfl
    | true => have := lt_trans hlt hc; rw [this] at hg; cases hg
#print axioms ris_mono
end Go.Proofs.Ytnagknlfboadkaa.Oct
