/-
  Layer 19 (audit): few calls.
-/
import Derived.Test.YtmmpafaegmejlaaDoorNob
namespace Go.Proofs.YtmmpafaegmejlaaDoor.Oct
open Go.RowKit Sha
set_option linter.unusedSimpArgs false
set_option linter.unusedVariables false

theorem zero29 : ∃ Z : List Value, (∀ W, (zeroValue 29).run Tryd.prog W = .ok (.agg Z.toArray) W) ∧ Hid (Z.length = 4) := ⟨ActV.cells ⟨0, e0, e0, false⟩, fun W => by kernel_rfl, rfl⟩
theorem size29 (x : ActV) : (Tryd.prog.info? 29).map (·.size) = some x.cells.length := by show _ = some 4; kernel_rfl
theorem ActV.one (x : ActV) : ∀ v ∈ x.cells, v.oneCell' = true := by
  intro v hv
  simp only [ActV.cells, List.mem_cons, List.not_mem_nil, or_false] at hv
  rcases hv with rfl | rfl | rfl | rfl <;> rfl
set_option maxRecDepth 100000 in
set_option maxHeartbeats 2000000 in
theorem few_is {w : World} {a : Option Addr} {n cap : Nat} {l : List ActV} (h : ArgA w a n cap l) : Calls Tryd.prog 9 #[.slice a n cap] w fun e w' => ∃ b : Bool, e = .returned (.bool b) ∧ Hid (b = true → n ≤ 60) ∧ Below w.heap.size w w' := by
  have HA : Hid (ArgA w a n cap l) := h
  have qn : (n : Int) ≤ 140737488355328 := by have := h.2.1; omega
  obtain ⟨Z, hZ, HZ⟩ := zero29
  clear h
  go_enter Tryd.func9, Tryd.ntmps9
  go_wp2
  go_loopw [8, 3] (fun u t wr => ∃ (i : Nat) (m : Nat), u = iv (i : Int) ∧ t = iv (m : Int) ∧ m ≤ 60 ∧ Hid (i ≤ n ∧ i ≤ m ∧ Below w.heap.size w wr)) (fun u _ _ => n - (intOf u).toNat)
  case atStart => exact ⟨0, 0, rfl, rfl, by omega, Nat.zero_le _, Nat.zero_le _, Below.refl _ _⟩
  case round =>
    obtain ⟨i, m, rfl, rfl, hm, HI⟩ := hrel
    by_cases hi : i = n
    · have q1 : (n : Int) ≤ (i : Int) := by omega
      have HF : Hid (n ≤ 60 ∧ Below w.heap.size w wr) := ⟨by have := HI.out.2.1; omega, HI.out.2.2⟩
      clear hi HI
      go_wp2
      go_ret
      exact ⟨true, rfl, fun _ => HF.out.1, HF.out.2⟩
    · have hlt : i < n := by have := HI.out.1; omega
      have q1 : (i : Int) < (n : Int) := by omega
      obtain ⟨x, hx⟩ : ∃ x, l[i]? = some x := ⟨_, List.getElem?_eq_getElem (by rw [HA.out.1]; exact hlt)⟩
      obtain ⟨b, off, rfl, hb, hel⟩ := HA.out.2.2.2 (by omega)
      have hok := HA.out.2.2.1 x (List.mem_of_getElem? hx)
      have HX : Hid (wr.rangeAt b (off + i * 4) x.cells ∧ i < n) := ⟨rangeAt_same (hel i x hx) (HI.out.2.2.block b hb), hlt⟩
      obtain ⟨g5, hg5⟩ : ∃ g, wr.heap.size = g := ⟨_, rfl⟩
      have HG5 : Hid (wr.heap.size = g5 ∧ w.heap.size ≤ g5) := ⟨hg5, by have := HI.out.2.2.size; omega⟩
      have qw : (x.who.size : Int) ≤ 140737488355328 := by have := hok.2.1; omega
      have qt : (x.what.size : Int) ≤ 140737488355328 := by have := hok.2.2; omega
      obtain ⟨k, hk⟩ : ∃ k : Nat, ((x.who.size : Int) + x.what.size).tdiv 600 = (k : Int) := ⟨(x.who.size + x.what.size) / 600, by rw [← Int.natCast_add]; rfl⟩
      have qk : (k : Int) ≤ 281474976710656 := by
        rw [← hk, Int.tdiv_eq_ediv_of_nonneg (by omega)]
        omega
      have hok2 := hok
      clear hi hlt hx hel hb hok hok2
      go_wp2_with (with_reducible change wpList _ _ _ ({ dst := some 11, op := _, type := _, pos := _, after := _, guard := _ } :: _) _ _; refine Hid.out ?_)
      show wpList _ _ _ _ _ _
      refine wpList_load_mid rfl 29 (.tmp 10) rfl b (off + i * 4) rfl x.cells _ HX.out.1 Tryd.underlying29 rfl (size29 x) ?_
      go_wp2_with (with_reducible change wpList _ _ _ ({ dst := none, op := Op.store 29 _ _, type := _, pos := _, after := _, guard := _ } :: _) _ _; refine Hid.out ?_)
      show wpList _ _ _ _ _ _
      refine wpList_store_blk rfl 29 (.tmp 5) (.tmp 11) rfl g5 0 29 Z x.cells rfl rfl (by rw [← HG5.out.1]; exact Blk.new wr _ _) (by rw [HZ.out]; exact Nat.le_refl _) (size29 x) x.one ?_
      intro W1 hx1 hg1
      have H1 : Hid (Below w.heap.size w W1 ∧ Blk W1 g5 29 x.cells) := ⟨below_gr (below_tr HI.out.2.2 (below_al _ _)) hg1.out HG5.out.2, blk_all hx1.out (by rw [HZ.out]; rfl)⟩
      have c1 : W1.cell? ⟨g5, 1, none⟩ = some (.string x.who) := H1.out.2.cell rfl
      have c2 : W1.cell? ⟨g5, 2, none⟩ = some (.string x.what) := H1.out.2.cell rfl
      clear hx1 hg1 hg5
      by_cases hm2 : m + (1 + k) ≤ 60
      · have q3 : (m : Int) + (1 + (k : Int)) ≤ 60 := by omega
        have HF : Hid (i + 1 ≤ n ∧ i + 1 ≤ m + (1 + k) ∧ Below w.heap.size w W1) := ⟨HX.out.2, by have := HI.out.2.1; omega, H1.out.1⟩
        go_wp2
        go_roundw
        case rel => exact ⟨i + 1, m + (1 + k), rfl, rfl, hm2, HF.out⟩
        case measure => show n - (i + 1) < n - i; have := HX.out.2; omega
      · have q3 : 60 < (m : Int) + (1 + (k : Int)) := by omega
        clear hm2
        go_wp2
        go_ret
        exact ⟨false, rfl, (fun h => nomatch h), H1.out.1⟩
#print axioms few_is
end Go.Proofs.YtmmpafaegmejlaaDoor.Oct
