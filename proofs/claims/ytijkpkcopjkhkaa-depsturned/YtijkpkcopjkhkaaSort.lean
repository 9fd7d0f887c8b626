/-
  Layer 12 (deps): hashes put in order.
-/
import Derived.Test.YtijkpkcopjkhkaaOrd
namespace Go.Proofs.Ytijkpkcopjkhkaa.Oct
open Go.RowKit Go.Shelf Go.Lib Go.Sort

def toH (hs : List Hs) (hl : ∀ h ∈ hs, h.length = 32) : List H32 := hs.attach.map fun x => ⟨x.1, hl x.1 x.2⟩
theorem toH_val (hs : List Hs) (hl : ∀ h ∈ hs, h.length = 32) : (toH hs hl).map (·.1) = hs := by
  unfold toH
  rw [List.map_map]
  show hs.attach.map (fun x => x.1) = hs
  simp
theorem toH_length (hs : List Hs) (hl : ∀ h ∈ hs, h.length = 32) : (toH hs hl).length = hs.length := by simp [toH]
theorem rise_eq : ∀ {a b : List Hs}, a.Pairwise LtH → b.Pairwise LtH → (∀ x, x ∈ a ↔ x ∈ b) → a = b
  | [], [], _, _, _ => rfl
  | [], y :: b, _, _, h => absurd ((h y).2 (by simp)) (by simp)
  | x :: a, [], _, _, h => absurd ((h x).1 (by simp)) (by simp)
  | x :: a, y :: b, ha, hb, h => by
    have ha' := List.pairwise_cons.1 ha
    have hb' := List.pairwise_cons.1 hb
    have hxy : x = y := by
      rcases LtH.tri x y with h1 | h1 | h1
      · have := (h x).1 (by simp)
        rcases List.mem_cons.1 this with h2 | h2
        · exact h2
        · exact absurd (h1.tr (hb'.1 x h2)) (LtH.irr x)
      · exact h1
      · have := (h y).2 (by simp)
        rcases List.mem_cons.1 this with h2 | h2
        · exact h2.symm
        · exact absurd (h1.tr (ha'.1 y h2)) (LtH.irr y)
    subst hxy
    congr 1
    refine rise_eq ha'.2 hb'.2 fun z => ?_
    have hz := h z
    simp only [List.mem_cons] at hz
    constructor
    · intro hm
      rcases hz.1 (.inr hm) with h1 | h1
      · subst h1; exact absurd (ha'.1 z hm) (LtH.irr z)
      · exact h1
    · intro hm
      rcases hz.2 (.inr hm) with h1 | h1
      · subst h1; exact absurd (hb'.1 z hm) (LtH.irr z)
      · exact h1
theorem holds_of {w : World} {g : Nat} {hs : List Hs} (hl : ∀ h ∈ hs, h.length = 32) {cur : Array Value} (hg : w.heap[g]? = some (.cells cur 34 (0, 0))) (hr : ∀ i h, hs[i]? = some h → w.rangeAt g (0 + i * 32) (U h)) : HoldsK enc32 32 w g 0 (toH hs hl).toArray := by
  intro j hj
  have hj' : j < hs.length * 32 := by simpa [toH_length] using hj
  refine ⟨?_, frozen_of_row w g _ _ 34 hg⟩
  have hi : j / 32 < hs.length := by omega
  have hd : ((toH hs hl).toArray[j / 32]!).1 = hs[j / 32] := by
    have e : ((toH hs hl)[j / 32]?).map (·.1) = some hs[j / 32] := by
      rw [← List.getElem?_map, toH_val, List.getElem?_eq_getElem hi]
    have hlt : j / 32 < (toH hs hl).length := by rw [toH_length]; exact hi
    rw [List.getElem?_eq_getElem hlt] at e
    simp only [Option.map_some, Option.some.injEq] at e
    rw [getElem!_pos _ _ (by simpa using hlt)]
    simpa using e
  have hc := hr (j / 32) hs[j / 32] (List.getElem?_eq_getElem hi) (j % 32)
  have hlen : (U hs[j / 32]).length = 32 := by rw [U_length, hl _ (List.getElem_mem hi)]
  have hc2 := hc (U hs[j / 32])[j % 32] (List.getElem?_eq_getElem (by omega))
  rw [show 0 + j / 32 * 32 + j % 32 = 0 + j by omega] at hc2
  rw [hc2, get_flatK _ _ _ _ (by simpa [toH_length] using hj')]
  simp only [id]
  unfold enc32
  rw [hd, getElem!_pos _ _ (by omega)]
theorem of_holds {w : World} {g : Nat} {d : List H32} (h : HoldsK enc32 32 w g 0 d.toArray) (hg : g < w.heap.size) : HsR w (some ⟨g, 0, none⟩) d.length (d.map (·.1)) := by
  refine ⟨by simp, fun x hx => ?_, fun _ => ⟨g, 0, rfl, hg, fun i x hi => ?_⟩⟩
  · obtain ⟨y, _, rfl⟩ := List.mem_map.1 hx
    exact y.2
  · rw [List.getElem?_map] at hi
    obtain ⟨y, hy, rfl⟩ := Option.map_eq_some_iff.1 hi
    obtain ⟨hlt, hy2⟩ := List.getElem?_eq_some_iff.1 hy
    intro c v hv
    have hc : c < 32 := by have := (List.getElem?_eq_some_iff.1 hv).1; rw [U_length, y.2] at this; exact this
    have h1 := (h (i * 32 + c) (by simp; omega)).1
    rw [get_flatK _ _ _ _ (by simp; omega), show (i * 32 + c) / 32 = i by omega, show (i * 32 + c) % 32 = c by omega] at h1
    simp only [id] at h1
    rw [show 0 + i * 32 + c = 0 + (i * 32 + c) by omega, h1]
    have e : d.toArray[i]! = y := by rw [getElem!_pos _ _ (by simpa using hlt)]; simpa using hy2
    rw [e]
    unfold enc32
    rw [getElem!_pos _ _ (by rw [U_length, y.2]; exact hc)]
    have := (List.getElem?_eq_some_iff.1 hv).2
    rw [this]
theorem grown_sort (w : World) (g m : Nat) (d : Array H32) (os : Array Obj) : w.grownBy (sortWorldK enc32 32 w g 0 m d os) (some g) := by
  refine ⟨rfl, rfl, rfl, ?_, fun k hk hne => ?_⟩
  · simp [sortWorldK, grow, putRowK, putRow, mapBlock]
  · unfold sortWorldK
    rw [heap_grow_old _ _ (by simpa [putRowK, putRow, mapBlock, ahead] using hk)]
    have hkg : g ≠ k := fun e => hne (by rw [e])
    simp [putRowK, putRow, mapBlock, Array.getElem?_modify, hkg]
theorem sort46 (w : World) (B g n cap : Nat) (hs : List Hs) (hl : ∀ h ∈ hs, h.length = 32) (hnd : hs.Nodup) (ho : w.ownsRow B 34 32 (.slice (some ⟨g, 0, none⟩) n cap) n (UU hs)) (hn : n ≤ 1000000) :
    Calls Try.prog 46 #[.slice (some ⟨g, 0, none⟩) n cap, .func (.func 40) #[] #[]] w fun e w' => e = .returned (.tuple #[]) ∧ ∃ hs', Hid (hs'.Perm hs ∧ hs'.Pairwise LtH ∧ HsR w' (some ⟨g, 0, none⟩) n hs') ∧ Hid (w.grownBy w' (some g)) := by
  have hlen : hs.length = n := by have := ho.1; rw [UU_length hl] at this; omega
  rcases ho.2 with ⟨h1, _⟩ | ⟨g', cap', cur, h1, h2, h3, h4, h5, h6, h7⟩
  · cases h1
  obtain ⟨rfl, rfl⟩ : g = g' ∧ cap = cap' := by
    simp only [Value.slice.injEq, Option.some.injEq, Addr.mk.injEq] at h1
    exact ⟨h1.1.1, h1.2.2⟩
  have hr : ∀ i h, hs[i]? = some h → w.rangeAt g (0 + i * 32) (U h) := (rangeAt_UU hs 0 hl).2 (by
    intro j u hj
    have := ho.cells (g := g) rfl j u hj
    rw [Addr.add_lit] at this
    exact this)
  have hH := holds_of hl h3 hr
  have eg : ∀ args w, (callFunc 40 args).run Try.prog w = .ok (.enter 40 args) w := enters_of Try.func40 (by kernel_rfl) rfl
  have hg := (Array.getElem?_eq_some_iff.1 h3).1
  have hcon := AnyQ.slices_SortFunc_total laysSF 32 Try.isAgg34 Try.sizeOf34 enc32 (fun x => by unfold enc32; rw [U_length, x.2]) (fun x v hv => U_one x.1 v hv) cf32 swo32 40 #[] g 0 cap (toH hs hl).toArray w eg (cmpLays40 g 0 _ w) hH hg (by simp [toH_length]; omega) total32
  change Calls Try.prog 46 _ _ _ at hcon
  have hsz : (toH hs hl).toArray.size = n := by simp [toH_length, hlen]
  rw [hsz] at hcon
  refine hcon.mono ?_
  rintro e w' ⟨rfl, m, os, rfl⟩
  refine ⟨rfl, (((toH hs hl).toArray.toList.mergeSort fun x y => !ltOf cf32 y x)).map (·.1), ⟨?_, ?_, ?_⟩, grown_sort w g m _ os⟩
  · have := (List.mergeSort_perm (toH hs hl) fun x y => !ltOf cf32 y x).map (·.1)
    rw [toH_val] at this
    simpa using this
  · have hs1 : ((toH hs hl).toArray.toList.mergeSort fun x y => !ltOf cf32 y x).Pairwise (fun x y => (!ltOf cf32 y x) = true) := by
      refine List.pairwise_mergeSort ?_ ?_ _
      · intro a b c h1 h2
        simp only [Bool.not_eq_true'] at *
        exact swo32.ntrans c b a h2 h1
      · intro a b
        rw [Bool.or_eq_true]
        simp only [Bool.not_eq_true']
        by_cases hab : ltOf cf32 b a = false
        · exact .inl hab
        · refine .inr ?_
          cases hba : ltOf cf32 a b with
          | false => rfl
          | true =>
            have := swo32.trans a b a hba (by simpa using hab)
            rw [swo32.irrefl] at this
            cases this
    have hp := (List.mergeSort_perm (toH hs hl) fun x y => !ltOf cf32 y x).map (·.1)
    rw [toH_val] at hp
    have hnd2 : (((toH hs hl).toArray.toList.mergeSort fun x y => !ltOf cf32 y x).map (·.1)).Nodup := by
      have := hp.nodup_iff.2 hnd
      simpa using this
    rw [List.pairwise_map]
    have hne := List.pairwise_map.1 hnd2
    refine List.Pairwise.imp ?_ (hs1.and hne)
    rintro x y ⟨h1, h2⟩
    rw [lt32] at h1
    simp only [Bool.not_eq_true', decide_eq_false_iff_not] at h1
    rcases LtH.tri x.1 y.1 with h3 | h3 | h3
    · exact h3
    · exact absurd h3 h2
    · exact absurd h3 h1
  · have hk : HoldsK enc32 32 (sortWorldK enc32 32 w g 0 m ((toH hs hl).toArray.toList.mergeSort fun x y => !ltOf cf32 y x).toArray os) g 0 ((toH hs hl).toArray.toList.mergeSort fun x y => !ltOf cf32 y x).toArray := by
      unfold sortWorldK
      apply holdsK_grow
      · simpa [putRowK, putRow, mapBlock, ahead] using hg
      · apply holdsK_putRowK (d0 := (toH hs hl).toArray)
        · exact hH
        · simp
    have := of_holds hk (Nat.lt_of_lt_of_le hg (grown_sort w g m _ os).size)
    rw [List.length_mergeSort] at this
    simpa [toH_length, hlen] using this
#print axioms sort46
end Go.Proofs.Ytijkpkcopjkhkaa.Oct
