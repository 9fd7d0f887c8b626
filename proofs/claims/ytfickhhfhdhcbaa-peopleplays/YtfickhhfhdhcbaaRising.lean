/-
  Layer 15 (people): rising: a map's names in their order.
-/
import Derived.Test.YtfickhhfhdhcbaaShelf
import Derived.Test.YtfickhhfhdhcbaaMem
namespace Go.Proofs.Ytfickhhfhdhcbaa.Oct
open Go.RowKit Go.Maps Go.Sort Go.Shelf Go.MapKept Go.WideElems

/-- the names, in their order -/
def sortK (l : List Hs) : List Hs := l.mergeSort (fun x y => decide (x ≤ y))
theorem encStr_hv (x : Hs) : encStr x = hv x := rfl
def anyE (_ : Value) : Option (DataW Unit × List MemPlace) := some (.nil, [])
theorem rg_any (e : Ent) (hl : e.k.length ≤ maxLen) : WideElems.rd Try.prog 9 anyE e.me = some (.string e.k, .nil) := by
  have hs : (⟨e.k.toArray⟩ : ByteArray).size ≤ maxLen := by show e.k.toArray.size ≤ maxLen; rw [List.size_toArray]; exact hl
  simp [WideElems.rd, Ent.me, anyE, keyOf, hv, Try.underlying9, mapKey, hs]
/-- a map as the library's contracts take it -/
theorem MP.owns {w : World} {b : Nat} {l : Kv} (hm : MP w b l) (hlen : l.length ≤ 1000000) : ∃ D : DataW Unit, w.ownsMap Try.prog 9 anyE b l.length D ∧ Maps.size D = l.length ∧ (strKeys D).Perm (l.map (·.1)) := by
  obtain ⟨es, ⟨clock, hb, h2, h3, h4, h5⟩, rfl⟩ := hm
  rw [List.length_map] at hlen
  have hml : (1000000 : Nat) ≤ maxLen := by unfold maxLen; omega
  have hp := WideShapes.sorted_perm (H := Unit) ((es.map Ent.me).toArray.toList.map (WideElems.rg Try.prog 9 anyE))
  refine ⟨_, ⟨_, clock, hb, ⟨by simpa using Nat.le_trans hlen hml, ⟨?_, ?_, ?_⟩, ?_⟩, by simp, rfl⟩, ?_, ?_⟩
  · intro x hx
    obtain ⟨e, he, rfl⟩ := List.mem_map.1 (by simpa using hx : x ∈ es.map Ent.me)
    exact h2 e he
  · have : (es.map Ent.me).map (·.born) = es.map (·.b) := by rw [List.map_map]; rfl
    show ((es.map Ent.me).map (·.born)).Nodup
    rw [this]; exact h3
  · have : (es.map Ent.me).map (·.key) = (es.map (·.k)).map hv := by rw [List.map_map, List.map_map]; rfl
    show ((es.map Ent.me).map (·.key)).Nodup
    rw [this]
    exact List.pairwise_map.2 (List.Pairwise.imp (fun h e => h (hv_inj e)) h4)
  · intro x hx
    obtain ⟨e, he, rfl⟩ := List.mem_map.1 (by simpa using hx : x ∈ es.map Ent.me)
    exact ⟨_, rg_any e (h5 e he)⟩
  · rw [Maps.size_eq, hp.length_eq]; simp
  · show (List.map _ _).Perm _
    refine (hp.map _).trans ?_
    have : ((es.map Ent.me).toArray.toList.map (WideElems.rg Try.prog 9 anyE)).map (fun p => Go.strOf p.1) = (es.map (fun e => (e.k, e.v))).map (·.1) := by
      show ((es.map Ent.me).map (WideElems.rg Try.prog 9 anyE)).map _ = _
      rw [List.map_map, List.map_map, List.map_map]
      refine List.map_congr_left fun e he => ?_
      simp only [Function.comp, WideElems.rg, rg_any e (h5 e he), Option.getD_some]
      rfl
    rw [this]
#print axioms MP.owns
/-- slices.Sort's two contracts at this program -/
theorem sortsA (m : Nat) : AnyZ.SortsIn Try.prog laysSorted_ren Fence.wide m :=
  ⟨fun blk off cap ss W hH hblk hsz => callsIn_wide.2 (AnyM.slices_Sort_string laysSort blk off cap ss W hH hblk hsz),
   fun p cap W => callsIn_wide.2 (AnyM.slices_Sort_string_none laysSort p cap W)⟩

set_option maxHeartbeats 1000000 in
theorem rising_U {w : World} {b : Nat} {l : Kv} (hm : MP w b l) (hlen : l.length ≤ 1000000) :
    Calls Try.prog 39 #[.map (some b)] w fun e w' => ∃ v : Value, e = .returned v ∧ w'.ownsRow w.heap.size 9 1 v l.length ((sortK (l.map (·.1))).map hv) ∧ (v = .slice none 0 0 ↔ l = []) ∧ Below w.heap.size w w' := by
  obtain ⟨D0, hown, hsz, hperm⟩ := hm.owns hlen
  refine (callsIn_wide (n := 6)).1 ?_
  have hbl := hown.lt
  have hseq : SeqGives Fence.wide 2 Try.prog 77 #[.pointer (some ⟨w.heap.size, 0, none⟩)] encStr (fun ss => ss.Perm (strKeys D0)) (Maps.size D0) (w.alloc (.cells #[.map (some b)] 47)) :=
    AnyZ.keys_gives (ρ := keysU_ren) { keysU with } Fence.wide _ trivial rfl (by omega) w.heap.size b l.length D0 _ (by simp) (by simp) (by
      obtain ⟨es, clock, hb, Ft, hs, hD⟩ := hown
      exact ⟨es, clock, (Below.heap_alloc _ _ b hbl).trans hb, Ft, hs, hD⟩)
  have cK : ∀ mb W, CallsIn Fence.wide 5 Try.prog 66 #[.map mb] W fun e w' => e = .returned (.func (.func 77) #[] #[.pointer (some ⟨W.heap.size, 0, none⟩)]) ∧ w' = W.alloc (.cells #[.map mb] 47) := fun mb W => AnyZ.keys_in keysU Fence.wide 5 trivial rfl mb W
  have cS := AnyZ.sorted_in laysSorted Fence.wide 5 trivial trivial trivial trivial rfl (by omega) (sortsA _) (enters_of Try.func76 (by kernel_rfl) rfl) 77 #[.pointer (some ⟨w.heap.size, 0, none⟩)] trivial (enters_of Try.func77 (by kernel_rfl) rfl) _ _ (by rw [hsz]; unfold maxLen; omega) (by rw [hsz]; omega) _ hseq
  change CallsIn _ _ Try.prog 65 _ _ _ at cS
  have hfK : Fence.wide.fn 66 := trivial
  have hfS : Fence.wide.fn 65 := trivial
  refine callsIn_of_wp Try.func39 rfl trivial ?_ rfl
  simp only [Try.ntmps39, List.size_toArray, List.length_cons, List.length_nil, Nat.reduceAdd, Nat.reduceSub, Array.replicate_succ, Array.replicate_zero, List.push_toArray, List.append_toArray, List.nil_append, List.cons_append]
  gi_wp2_with (first
    | (gi_at_call 66; refine (cK _ _).mono ?_; rintro e w' ⟨rfl, rfl⟩)
    | (gi_at_call 65; refine cS.mono ?_; rintro e w' ⟨v, ss, rfl, hS, hrow, hnil, hb⟩))
  go_ret
  have hp := hS.trans hperm
  have hl : ss.length = l.length := by rw [hp.length_eq, List.length_map]
  refine ⟨v, rfl, ?_, hnil.trans ?_, ((Below.refl _ w).alloc (Nat.le_refl _) _).trans (hb.mono (by simp))⟩
  · have h1 := ownsRow_base_a hrow (base' := w.heap.size) (by simp)
    rw [mergeSort_of_perm hp, hl] at h1
    exact h1
  · rw [← List.length_eq_zero_iff, hl, List.length_eq_zero_iff]
#print axioms rising_U

set_option maxHeartbeats 1000000 in
theorem rising_O {w : World} {b : Nat} {l : Kv} (hm : MP w b l) (hlen : l.length ≤ 1000000) :
    Calls Try.prog 40 #[.map (some b)] w fun e w' => ∃ v : Value, e = .returned v ∧ w'.ownsRow w.heap.size 9 1 v l.length ((sortK (l.map (·.1))).map hv) ∧ (v = .slice none 0 0 ↔ l = []) ∧ Below w.heap.size w w' := by
  obtain ⟨D0, hown, hsz, hperm⟩ := hm.owns hlen
  refine (callsIn_wide (n := 6)).1 ?_
  have hbl := hown.lt
  have hseq : SeqGives Fence.wide 2 Try.prog 78 #[.pointer (some ⟨w.heap.size, 0, none⟩)] encStr (fun ss => ss.Perm (strKeys D0)) (Maps.size D0) (w.alloc (.cells #[.map (some b)] 49)) :=
    AnyZ.keys_gives (ρ := keysO_ren) { keysO with } Fence.wide _ trivial rfl (by omega) w.heap.size b l.length D0 _ (by simp) (by simp) (by
      obtain ⟨es, clock, hb, Ft, hs, hD⟩ := hown
      exact ⟨es, clock, (Below.heap_alloc _ _ b hbl).trans hb, Ft, hs, hD⟩)
  have cK : ∀ mb W, CallsIn Fence.wide 5 Try.prog 67 #[.map mb] W fun e w' => e = .returned (.func (.func 78) #[] #[.pointer (some ⟨W.heap.size, 0, none⟩)]) ∧ w' = W.alloc (.cells #[.map mb] 49) := fun mb W => AnyZ.keys_in keysO Fence.wide 5 trivial rfl mb W
  have cS := AnyZ.sorted_in laysSorted Fence.wide 5 trivial trivial trivial trivial rfl (by omega) (sortsA _) (enters_of Try.func76 (by kernel_rfl) rfl) 78 #[.pointer (some ⟨w.heap.size, 0, none⟩)] trivial (enters_of Try.func78 (by kernel_rfl) rfl) _ _ (by rw [hsz]; unfold maxLen; omega) (by rw [hsz]; omega) _ hseq
  change CallsIn _ _ Try.prog 65 _ _ _ at cS
  have hfK : Fence.wide.fn 67 := trivial
  have hfS : Fence.wide.fn 65 := trivial
  refine callsIn_of_wp Try.func40 rfl trivial ?_ rfl
  simp only [Try.ntmps40, List.size_toArray, List.length_cons, List.length_nil, Nat.reduceAdd, Nat.reduceSub, Array.replicate_succ, Array.replicate_zero, List.push_toArray, List.append_toArray, List.nil_append, List.cons_append]
  gi_wp2_with (first
    | (gi_at_call 67; refine (cK _ _).mono ?_; rintro e w' ⟨rfl, rfl⟩)
    | (gi_at_call 65; refine cS.mono ?_; rintro e w' ⟨v, ss, rfl, hS, hrow, hnil, hb⟩))
  go_ret
  have hp := hS.trans hperm
  have hl : ss.length = l.length := by rw [hp.length_eq, List.length_map]
  refine ⟨v, rfl, ?_, hnil.trans ?_, ((Below.refl _ w).alloc (Nat.le_refl _) _).trans (hb.mono (by simp))⟩
  · have h1 := ownsRow_base_a hrow (base' := w.heap.size) (by simp)
    rw [mergeSort_of_perm hp, hl] at h1
    exact h1
  · rw [← List.length_eq_zero_iff, hl, List.length_eq_zero_iff]
#print axioms rising_O

set_option maxHeartbeats 1000000 in
theorem rising_I {w : World} {b : Nat} {l : Kv} (hm : MP w b l) (hlen : l.length ≤ 1000000) :
    Calls Try.prog 42 #[.map (some b)] w fun e w' => ∃ v : Value, e = .returned v ∧ w'.ownsRow w.heap.size 9 1 v l.length ((sortK (l.map (·.1))).map hv) ∧ (v = .slice none 0 0 ↔ l = []) ∧ Below w.heap.size w w' := by
  obtain ⟨D0, hown, hsz, hperm⟩ := hm.owns hlen
  refine (callsIn_wide (n := 6)).1 ?_
  have hbl := hown.lt
  have hseq : SeqGives Fence.wide 2 Try.prog 79 #[.pointer (some ⟨w.heap.size, 0, none⟩)] encStr (fun ss => ss.Perm (strKeys D0)) (Maps.size D0) (w.alloc (.cells #[.map (some b)] 71)) :=
    AnyZ.keys_gives (ρ := keysI_ren) { keysI with } Fence.wide _ trivial rfl (by omega) w.heap.size b l.length D0 _ (by simp) (by simp) (by
      obtain ⟨es, clock, hb, Ft, hs, hD⟩ := hown
      exact ⟨es, clock, (Below.heap_alloc _ _ b hbl).trans hb, Ft, hs, hD⟩)
  have cK : ∀ mb W, CallsIn Fence.wide 5 Try.prog 68 #[.map mb] W fun e w' => e = .returned (.func (.func 79) #[] #[.pointer (some ⟨W.heap.size, 0, none⟩)]) ∧ w' = W.alloc (.cells #[.map mb] 71) := fun mb W => AnyZ.keys_in keysI Fence.wide 5 trivial rfl mb W
  have cS := AnyZ.sorted_in laysSorted Fence.wide 5 trivial trivial trivial trivial rfl (by omega) (sortsA _) (enters_of Try.func76 (by kernel_rfl) rfl) 79 #[.pointer (some ⟨w.heap.size, 0, none⟩)] trivial (enters_of Try.func79 (by kernel_rfl) rfl) _ _ (by rw [hsz]; unfold maxLen; omega) (by rw [hsz]; omega) _ hseq
  change CallsIn _ _ Try.prog 65 _ _ _ at cS
  have hfK : Fence.wide.fn 68 := trivial
  have hfS : Fence.wide.fn 65 := trivial
  refine callsIn_of_wp Try.func42 rfl trivial ?_ rfl
  simp only [Try.ntmps42, List.size_toArray, List.length_cons, List.length_nil, Nat.reduceAdd, Nat.reduceSub, Array.replicate_succ, Array.replicate_zero, List.push_toArray, List.append_toArray, List.nil_append, List.cons_append]
  gi_wp2_with (first
    | (gi_at_call 68; refine (cK _ _).mono ?_; rintro e w' ⟨rfl, rfl⟩)
    | (gi_at_call 65; refine cS.mono ?_; rintro e w' ⟨v, ss, rfl, hS, hrow, hnil, hb⟩))
  go_ret
  have hp := hS.trans hperm
  have hl : ss.length = l.length := by rw [hp.length_eq, List.length_map]
  refine ⟨v, rfl, ?_, hnil.trans ?_, ((Below.refl _ w).alloc (Nat.le_refl _) _).trans (hb.mono (by simp))⟩
  · have h1 := ownsRow_base_a hrow (base' := w.heap.size) (by simp)
    rw [mergeSort_of_perm hp, hl] at h1
    exact h1
  · rw [← List.length_eq_zero_iff, hl, List.length_eq_zero_iff]
#print axioms rising_I

set_option maxHeartbeats 1000000 in
theorem rising_S {w : World} {b : Nat} {l : Kv} (hm : MP w b l) (hlen : l.length ≤ 1000000) :
    Calls Try.prog 69 #[.map (some b)] w fun e w' => ∃ v : Value, e = .returned v ∧ w'.ownsRow w.heap.size 9 1 v l.length ((sortK (l.map (·.1))).map hv) ∧ (v = .slice none 0 0 ↔ l = []) ∧ Below w.heap.size w w' := by
  obtain ⟨D0, hown, hsz, hperm⟩ := hm.owns hlen
  refine (callsIn_wide (n := 6)).1 ?_
  have hbl := hown.lt
  have hseq : SeqGives Fence.wide 2 Try.prog 86 #[.pointer (some ⟨w.heap.size, 0, none⟩)] encStr (fun ss => ss.Perm (strKeys D0)) (Maps.size D0) (w.alloc (.cells #[.map (some b)] 69)) :=
    AnyZ.keys_gives (ρ := keysS_ren) { keysS with } Fence.wide _ trivial rfl (by omega) w.heap.size b l.length D0 _ (by simp) (by simp) (by
      obtain ⟨es, clock, hb, Ft, hs, hD⟩ := hown
      exact ⟨es, clock, (Below.heap_alloc _ _ b hbl).trans hb, Ft, hs, hD⟩)
  have cK : ∀ mb W, CallsIn Fence.wide 5 Try.prog 80 #[.map mb] W fun e w' => e = .returned (.func (.func 86) #[] #[.pointer (some ⟨W.heap.size, 0, none⟩)]) ∧ w' = W.alloc (.cells #[.map mb] 69) := fun mb W => AnyZ.keys_in keysS Fence.wide 5 trivial rfl mb W
  have cS := AnyZ.sorted_in laysSorted Fence.wide 5 trivial trivial trivial trivial rfl (by omega) (sortsA _) (enters_of Try.func76 (by kernel_rfl) rfl) 86 #[.pointer (some ⟨w.heap.size, 0, none⟩)] trivial (enters_of Try.func86 (by kernel_rfl) rfl) _ _ (by rw [hsz]; unfold maxLen; omega) (by rw [hsz]; omega) _ hseq
  change CallsIn _ _ Try.prog 65 _ _ _ at cS
  have hfK : Fence.wide.fn 80 := trivial
  have hfS : Fence.wide.fn 65 := trivial
  refine callsIn_of_wp Try.func69 rfl trivial ?_ rfl
  simp only [Try.ntmps69, List.size_toArray, List.length_cons, List.length_nil, Nat.reduceAdd, Nat.reduceSub, Array.replicate_succ, Array.replicate_zero, List.push_toArray, List.append_toArray, List.nil_append, List.cons_append]
  gi_wp2_with (first
    | (gi_at_call 80; refine (cK _ _).mono ?_; rintro e w' ⟨rfl, rfl⟩)
    | (gi_at_call 65; refine cS.mono ?_; rintro e w' ⟨v, ss, rfl, hS, hrow, hnil, hb⟩))
  go_ret
  have hp := hS.trans hperm
  have hl : ss.length = l.length := by rw [hp.length_eq, List.length_map]
  refine ⟨v, rfl, ?_, hnil.trans ?_, ((Below.refl _ w).alloc (Nat.le_refl _) _).trans (hb.mono (by simp))⟩
  · have h1 := ownsRow_base_a hrow (base' := w.heap.size) (by simp)
    rw [mergeSort_of_perm hp, hl] at h1
    exact h1
  · rw [← List.length_eq_zero_iff, hl, List.length_eq_zero_iff]
#print axioms rising_S
end Go.Proofs.Ytfickhhfhdhcbaa.Oct
