/-
  Layer 12 (deps): what the numbers of a web say of the items.
-/
import Derived.Test.YtijkpkcopjkhkaaOrderOf
namespace Go.Proofs.Ytijkpkcopjkhkaa.Oct
open Go.RowKit

theorem getD_set2 (xs : List (List Nat)) (n k : Nat) (y : List Nat) : (xs.set n y).getD k [] = if k = n ∧ n < xs.length then y else xs.getD k [] := by
  rw [List.getD_eq_getElem?_getD, List.getD_eq_getElem?_getD]
  by_cases hn : n < xs.length
  · by_cases hk : k = n
    · subst hk
      rw [List.getElem?_set_self hn, if_pos ⟨rfl, hn⟩]; rfl
    · rw [List.getElem?_set_ne (by omega), if_neg (fun e => hk e.1)]
  · rw [if_neg (fun e => hn e.2), List.set_eq_of_length_le (by omega)]
theorem aboveI_count (ns : List Hs) (m n k : Nat) : ∀ (ds : List Hs) (xs : List (List Nat)), k < xs.length →
    ((aboveI ns m xs ds).getD k []).count n = (xs.getD k []).count n + (if m = n then ds.countP (fun d => decide (numOf ns d = k)) else 0)
  | [], xs, _ => by simp [aboveI]
  | d :: ds, xs, hk => by
    have ih := aboveI_count ns m n k ds (xs.set (numOf ns d) (xs.getD (numOf ns d) [] ++ [m])) (by simpa using hk)
    show ((aboveI ns m (xs.set (numOf ns d) (xs.getD (numOf ns d) [] ++ [m])) ds).getD k []).count n = _
    rw [ih, getD_set2]
    by_cases hd : numOf ns d = k
    · rw [if_pos ⟨hd.symm, by rw [hd]; exact hk⟩, List.countP_cons_of_pos (by simpa using hd), hd, List.count_append]
      by_cases hm : m = n
      · subst hm; simp; omega
      · rw [if_neg hm, if_neg hm, List.count_singleton]
        simp [hm]
    · rw [if_neg (fun e => hd e.1.symm), List.countP_cons_of_neg (by simpa using hd)]
def numbered (ns : List Hs) (n : Nat) (l : List It) : List It := l.filter (fun x => decide (numOf ns x.name = n))
theorem webA_count (ns : List Hs) (n k : Nat) (hk : k < ns.length) (l : List It) : ((webA ns l).getD k []).count n = ((numbered ns n l).map (fun x => x.deps.countP (fun d => decide (numOf ns d = k)))).sum := by
  have key : ∀ (l : List It) (xs : List (List Nat)), k < xs.length → ((l.foldl (fun xs x => aboveI ns (numOf ns x.name) xs x.deps) xs).getD k []).count n = (xs.getD k []).count n + ((numbered ns n l).map (fun x => x.deps.countP (fun d => decide (numOf ns d = k)))).sum := by
    intro l
    induction l with
    | nil => intro xs _; simp [numbered]
    | cons x l ih =>
      intro xs hk
      rw [List.foldl_cons, ih _ (by rw [aboveI_length]; exact hk), aboveI_count ns _ n k x.deps xs hk]
      unfold numbered
      by_cases hx : numOf ns x.name = n
      · rw [if_pos hx, List.filter_cons_of_pos (by simpa using hx)]
        simp only [List.map_cons, List.sum_cons]; omega
      · rw [if_neg hx, List.filter_cons_of_neg (by simpa using hx)]; omega
  unfold webA
  rw [key l _ (by simpa using hk)]
  have : ((List.replicate ns.length ([] : List Nat)).getD k []).count n = 0 := by
    rw [List.getD_eq_getElem?_getD, List.getElem?_replicate]
    split <;> simp
  omega
theorem numOf_inj {ns : List Hs} {a b : Hs} (ha : a ∈ ns) (hb : b ∈ ns) (h : numOf ns a = numOf ns b) : a = b := by
  have h1 := numOf_at ha
  have h2 := numOf_at hb
  rw [h, h2] at h1
  simpa using h1.symm
theorem numOf_lt {ns : List Hs} {a : Hs} (ha : a ∈ ns) : numOf ns a < ns.length := List.idxOf_lt_length_of_mem ha
/-- one item of each number -/
theorem numbered_one {ns : List Hs} {n : Nat} : ∀ (l : List It) (x : It), (l.map (·.name)).Nodup → (∀ y ∈ l, y.name ∈ ns) → x ∈ l → numOf ns x.name = n → numbered ns n l = [x]
  | [], x, _, _, hx, _ => by simp at hx
  | y :: l, x, hnd, hns, hx, hn => by
    simp only [List.map_cons, List.nodup_cons] at hnd
    have hno : ∀ z ∈ l, z.name ≠ y.name := fun z hz e => hnd.1 (List.mem_map.2 ⟨z, hz, e⟩)
    unfold numbered
    by_cases hy : numOf ns y.name = n
    · have exy : x = y := by
        rcases List.mem_cons.1 hx with rfl | hx
        · rfl
        · exact absurd (numOf_inj (hns x (by simp [hx])) (hns y (by simp)) (hn.trans hy.symm)) (hno x hx)
      subst exy
      rw [List.filter_cons_of_pos (by simpa using hy)]
      congr 1
      rw [List.filter_eq_nil_iff]
      intro z hz e
      have e' : numOf ns z.name = n := by simpa using e
      exact hno z hz (numOf_inj (hns z (by simp [hz])) (hns x (by simp)) (e'.trans hy.symm))
    · rw [List.filter_cons_of_neg (by simpa using hy)]
      have hx' : x ∈ l := by
        rcases List.mem_cons.1 hx with rfl | hx
        · exact absurd hn hy
        · exact hx
      exact numbered_one l x hnd.2 (fun z hz => hns z (by simp [hz])) hx' hn
theorem webW_at {ns : List Hs} {n : Nat} (hlt : n < ns.length) (l : List It) (x : It) (h : numbered ns n l = [x]) : (webW ns l).getD n 0 = x.deps.length := by
  have key : ∀ (l : List It) (wt : List Nat), n < wt.length → (l.foldl (fun wt x => wt.set (numOf ns x.name) x.deps.length) wt).getD n 0 = (((numbered ns n l).getLast?).map (·.deps.length)).getD (wt.getD n 0) := by
    intro l
    induction l with
    | nil => intro wt _; simp [numbered]
    | cons y l ih =>
      intro wt hw
      rw [List.foldl_cons, ih _ (by simpa using hw)]
      unfold numbered
      by_cases hy : numOf ns y.name = n
      · rw [List.filter_cons_of_pos (by simpa using hy), hy, getD_set wt n _ n hw, if_pos rfl, List.getLast?_cons]
        cases (List.filter (fun x => decide (numOf ns x.name = n)) l).getLast? <;> simp
      · rw [List.filter_cons_of_neg (by simpa using hy)]
        congr 1
        rw [List.getD_eq_getElem?_getD, List.getD_eq_getElem?_getD, List.getElem?_set_ne (by omega)]
  unfold webW
  rw [key l _ (by simpa using hlt), h]; rfl
/-- of each hash its own number, once -/
theorem cover (ns : List Hs) : ∀ (told : List Nat) (ds : List Hs), told.Nodup → (told.map (fun k => ds.countP (fun d => decide (numOf ns d = k)))).sum = ds.countP (fun d => decide (numOf ns d ∈ told))
  | told, [], _ => by
    have h0 : ∀ t : List Nat, (t.map (fun _ => 0)).sum = 0 := by
      intro t
      induction t with
      | nil => rfl
      | cons a t ih => simpa using ih
    simp only [List.countP_nil]
    exact h0 told
  | told, d :: ds, hn => by
    have ih := cover ns told ds hn
    have e : (told.map (fun k => (d :: ds).countP (fun d => decide (numOf ns d = k)))).sum = (told.map (fun k => ds.countP (fun d => decide (numOf ns d = k)))).sum + told.count (numOf ns d) := by
      clear ih hn
      induction told with
      | nil => rfl
      | cons a t iht =>
        simp only [List.map_cons, List.sum_cons]
        rw [iht]
        by_cases ha : numOf ns d = a
        · rw [List.countP_cons_of_pos (by simpa using ha), ha, List.count_cons_self]; omega
        · rw [List.countP_cons_of_neg (by simpa using ha), List.count_cons_of_ne (fun e => ha e.symm)]; omega
    rw [e, ih]
    by_cases hd : numOf ns d ∈ told
    · rw [List.countP_cons_of_pos (by simpa using hd)]
      have : told.count (numOf ns d) = 1 := by
        have h1 := List.nodup_iff_count.1 hn (numOf ns d)
        have h2 := List.count_pos_iff.2 hd
        omega
      omega
    · rw [List.countP_cons_of_neg (by simpa using hd), List.count_eq_zero.2 hd]; omega
/-- what the sum says -/
theorem sum_is {ns : List Hs} {l : List It} {n : Nat} {x : It} (h : numbered ns n l = [x]) (told : List Nat) (hn : told.Nodup) (hb : ∀ k ∈ told, k < ns.length) : sumOf (webA ns l) told n = x.deps.countP (fun d => decide (numOf ns d ∈ told)) := by
  rw [← cover ns told x.deps hn]
  unfold sumOf
  congr 1
  apply List.map_congr_left
  intro k hk
  unfold cnt
  rw [webA_count ns n k (hb k hk) l, h]
  simp
theorem item_of {ns : List Hs} {l : List It} (hnd : (l.map (·.name)).Nodup) (hns : ∀ x, x ∈ ns ↔ x ∈ l.map (·.name)) (hr : ns.Nodup) {n : Nat} (hn : n < ns.length) : ∃ x, x ∈ l ∧ ns[n]? = some x.name ∧ numbered ns n l = [x] := by
  have hm : ns[n] ∈ l.map (·.name) := (hns _).1 (List.getElem_mem hn)
  obtain ⟨x, hx, hxn⟩ := List.mem_map.1 hm
  have hnum : numOf ns x.name = n := by
    rw [hxn]
    unfold numOf
    exact hr.idxOf_getElem n hn
  refine ⟨x, hx, by rw [List.getElem?_eq_getElem hn, hxn], numbered_one l x hnd (fun y hy => (hns _).2 (List.mem_map.2 ⟨y, hy, rfl⟩)) hx hnum⟩
/-- free: all that it needs is told -/
theorem free_iff {ns : List Hs} {l : List It} {n : Nat} {x : It} (hlt : n < ns.length) (h : numbered ns n l = [x]) (told : List Nat) (hn : told.Nodup) (hb : ∀ k ∈ told, k < ns.length) : Free (webA ns l) (webW ns l) told n ↔ ∀ d ∈ x.deps, numOf ns d ∈ told := by
  unfold Free
  rw [sum_is h told hn hb, webW_at hlt l x h, List.countP_eq_length]
  simp
#print axioms free_iff
theorem names_nodup {l : List It} (h : (namesK l).length = l.length) : (l.map (·.name)).Nodup := by
  have key : ∀ (l : List It) (ks : List Hs), (l.foldl (fun ks x => addK ks x.name) ks).length ≤ ks.length + l.length ∧ ((l.foldl (fun ks x => addK ks x.name) ks).length = ks.length + l.length → (l.map (·.name)).Nodup ∧ ∀ x ∈ l, x.name ∉ ks) := by
    intro l
    induction l with
    | nil => intro ks; simp
    | cons x l ih =>
      intro ks
      rw [List.foldl_cons]
      obtain ⟨h1, h2⟩ := ih (addK ks x.name)
      by_cases hx : x.name ∈ ks
      · have e : addK ks x.name = ks := by simp [addK, hx]
        rw [e] at h1 h2 ⊢
        simp only [List.length_cons]
        exact ⟨by omega, fun h => by omega⟩
      · have e : (addK ks x.name).length = ks.length + 1 := by simp [addK, hx]
        rw [e] at h1 h2
        simp only [List.length_cons]
        refine ⟨by omega, fun h => ?_⟩
        obtain ⟨h3, h4⟩ := h2 (by omega)
        refine ⟨?_, fun y hy => ?_⟩
        · simp only [List.map_cons, List.nodup_cons]
          refine ⟨fun hm => ?_, h3⟩
          obtain ⟨y, hy, he⟩ := List.mem_map.1 hm
          exact h4 y hy (mem_addK.2 (.inr he))
        · rcases List.mem_cons.1 hy with rfl | hy
          · exact hx
          · exact fun e => h4 y hy (mem_addK.2 (.inl e))
  exact ((key l []).2 (by simpa [namesK] using h)).1
theorem webA_lt {ns : List Hs} {l : List It} (hns : ∀ y ∈ l, y.name ∈ ns) : ∀ x ∈ webA ns l, ∀ n ∈ x, n < ns.length := by
  intro x hx n hn
  obtain ⟨k, hk⟩ := List.getElem?_of_mem hx
  have hkl : k < ns.length := by have := (List.getElem?_eq_some_iff.1 hk).1; rw [webA_length] at this; exact this
  have hc := webA_count ns n k hkl l
  rw [getD_at hk] at hc
  have hp : 0 < x.count n := List.count_pos_iff.2 hn
  rw [hc] at hp
  cases hf : numbered ns n l with
  | nil => rw [hf] at hp; simp at hp
  | cons y t =>
    have hy : y ∈ numbered ns n l := by rw [hf]; simp
    obtain ⟨h1, h2⟩ := List.mem_filter.1 hy
    have : numOf ns y.name = n := by simpa using h2
    rw [← this]
    exact numOf_lt (hns y h1)
/-- what orderOf asks of a web -/
theorem web_cap {l : List It} {len : Nat} (hll : l.length = len) (hnm : (namesK l).length = len) (hm : many l ≤ 90000) (ns : List Hs) (hr : ns.Pairwise LtH) (hns : ∀ x, x ∈ ns ↔ x ∈ namesK l) :
    (∀ told, told.Nodup → (∀ n ∈ told, n < len) → ∀ n, n < len → sumOf (webA ns l) told n ≤ (webW ns l).getD n 0) ∧ (∀ x ∈ webA ns l, ∀ n ∈ x, n < len) ∧ ∀ n ∈ webW ns l, n ≤ 100000 := by
  have hnd := names_nodup (hnm.trans hll.symm)
  have hns' : ∀ x, x ∈ ns ↔ x ∈ l.map (·.name) := fun x => (hns x).trans (mem_namesK l)
  have hrn := rise_nodup hr
  have hlen : ns.length = len := by rw [same_len hrn (namesK_nodup l) hns]; exact hnm
  subst hlen
  refine ⟨fun told h1 h2 n hn => ?_, webA_lt (fun y hy => (hns' _).2 (List.mem_map.2 ⟨y, hy, rfl⟩)), fun m hmm => ?_⟩
  · obtain ⟨x, hx, _, h3⟩ := item_of hnd hns' hrn hn
    rw [sum_is h3 told h1 h2, webW_at hn l x h3]
    exact List.countP_le_length
  · obtain ⟨n, hn⟩ := List.getElem?_of_mem hmm
    have hnl : n < ns.length := by have := (List.getElem?_eq_some_iff.1 hn).1; rw [webW_length] at this; exact this
    obtain ⟨x, hx, _, h3⟩ := item_of hnd hns' hrn hnl
    have h4 := webW_at hnl l x h3
    rw [List.getD_eq_getElem?_getD, hn] at h4
    simp at h4
    obtain ⟨i, hi⟩ := List.getElem?_of_mem hx
    have := dep_le l i x hi
    omega
#print axioms web_cap
end Go.Proofs.Ytijkpkcopjkhkaa.Oct
