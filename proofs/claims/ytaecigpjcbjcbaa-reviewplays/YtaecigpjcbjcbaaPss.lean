/-
  Layer 20 (review): Passes.
-/
import Derived.Test.YtaecigpjcbjcbaaPas
namespace Go.Proofs.Ytaecigpjcbjcbaa.Oct
open Go.RowKit
set_option linter.unusedSimpArgs false

theorem Pp.cell {w : World} {g : Nat} {p : Pp} (hl : p.patch.length = 32) (h : w.rangeAt g 0 p.cells) :
    w.cell? ⟨g, 0, none⟩ = some (iv p.id) ∧ w.cell? ⟨g, 1, none⟩ = some (.string p.author) ∧ w.cell? ⟨g, 2, none⟩ = some (.string p.channel) ∧ w.rangeAt g 3 (U p.patch) ∧ w.cell? ⟨g, 35, none⟩ = some (.bool p.opn) ∧ w.cell? ⟨g, 36, none⟩ = some (.slice p.y.a p.y.n p.y.c) ∧ w.cell? ⟨g, 37, none⟩ = some (.slice p.n.a p.n.n p.n.c) ∧ w.cell? ⟨g, 38, none⟩ = some (.slice p.t.a p.t.n p.t.c) := by
  have e : ∀ k v, p.cells[k]? = some v → w.cell? ⟨g, k, none⟩ = some v := fun k v hv => by have := h k v hv; rwa [Nat.zero_add] at this
  refine ⟨e 0 _ rfl, e 1 _ rfl, e 2 _ rfl, fun j v hj => ?_, e 35 _ (Pp.tail hl 0), e 36 _ (Pp.tail hl 1), e 37 _ (Pp.tail hl 2), e 38 _ (Pp.tail hl 3)⟩
  rw [Nat.add_comm]
  refine e (j + 3) v ?_
  simp only [Pp.cells]
  rw [List.getElem?_cons_succ, List.getElem?_cons_succ, List.getElem?_cons_succ, List.getElem?_append_left (List.getElem?_eq_some_iff.1 hj).1]
  exact hj
theorem range_new (w : World) (cs : List Value) (t : TypeId) : (w.alloc (.cells cs.toArray t)).rangeAt w.heap.size 0 cs := by
  have hb : Blk (w.alloc (.cells cs.toArray t)) w.heap.size t cs := by simpa using Blk.new w cs.toArray t
  intro j v hj
  rw [Nat.zero_add]
  exact hb.cell hj
set_option maxRecDepth 100000 in
set_option maxHeartbeats 1000000 in
theorem passes_is (p : Pp) (q : Po) (yes no : List BA) (w : World) (hl : p.patch.length = 32) (hy : Txt w p.y yes) (hn : Txt w p.n no) :
    Calls Try.prog 20 #[.agg p.cells.toArray, .agg q.cells.toArray] w fun e w' => e = .returned (.bool (passB yes no p.author p.opn q)) ∧ Below w.heap.size w w' := by
  obtain ⟨b, hb⟩ : ∃ b, passB yes no p.author p.opn q = b := ⟨_, rfl⟩
  rw [hb]
  obtain ⟨ap, veto⟩ := q
  obtain ⟨cp, hcp⟩ : ∃ cp, p.cells = cp := ⟨_, rfl⟩
  obtain ⟨W1, hW1⟩ : ∃ W1, w.alloc (.cells cp.toArray 43) = W1 := ⟨_, rfl⟩
  obtain ⟨W2, hW2⟩ : ∃ W2, W1.alloc (.cells #[iv ap, .bool veto] 52) = W2 := ⟨_, rfl⟩
  have hB1 : Below w.heap.size w W1 := by rw [← hW1]; exact below_al _ _
  have hB2 : Below W1.heap.size W1 W2 := by rw [← hW2]; exact below_al _ _
  have HB : Hid (Below w.heap.size w W2) := below_tr hB1 hB2
  obtain ⟨g, hg⟩ : ∃ g, w.heap.size = g := ⟨_, rfl⟩
  obtain ⟨q, hq⟩ : ∃ q, W1.heap.size = q := ⟨_, rfl⟩
  have hr1 : W1.rangeAt g 0 p.cells := by rw [← hg, ← hW1, hcp]; exact range_new _ _ _
  have hgl : g < W1.heap.size := by rw [← hg, ← hW1]; simp
  have hr2 : W2.rangeAt g 0 p.cells := fun j v hj => (hB2.cell (p := ⟨g, 0 + j, none⟩) hgl).trans (hr1 j v hj)
  have hbq : Blk W2 q 52 [iv ap, .bool veto] := by rw [← hq, ← hW2]; exact Blk.new _ _ _
  obtain ⟨_, g1, _, _, g35, g36, g37, _⟩ := Pp.cell hl hr2
  have q0 : W2.cell? ⟨q, 0, none⟩ = some (iv ap) := hbq.cell rfl
  have q1 : W2.cell? ⟨q, 1, none⟩ = some (.bool veto) := hbq.cell rfl
  have HL : Hid (g < W2.heap.size ∧ q < W2.heap.size) := ⟨Nat.lt_of_lt_of_le hgl hB2.size, hbq.lt⟩
  have HY : Hid (Txt W2 p.y yes) := hy.below HB.out
  have HN : Hid (Txt W2 p.n no) := hn.below HB.out
  obtain ⟨k, hk⟩ : ∃ k, (othsL p.author yes).length = k := ⟨_, rfl⟩
  obtain ⟨m, hm⟩ : ∃ m, (othsL p.author no).length = m := ⟨_, rfl⟩
  have HKk : Hid ((othsL p.author yes).length = k) := hk
  have HMm : Hid ((othsL p.author no).length = m) := hm
  have HBB : Hid (passB yes no p.author p.opn ⟨ap, veto⟩ = b) := hb
  have hpb : (p.opn && decide (ap ≤ (k : Int)) && (!veto || (m == 0))) = b := by rw [← hb, ← hk, ← hm]; rfl
  rw [show Po.cells ⟨ap, veto⟩ = [iv ap, .bool veto] from rfl]
  have hx : ∀ {A : World}, Below W2.heap.size W2 A → Below w.heap.size w A := fun h => below_tr HB.out h
  have HX : Hid (∀ {A : World}, Below W2.heap.size W2 A → Below w.heap.size w A) := hx
  rw [hcp]
  clear hl hy hn hB1 hB2 hr1 hr2 hgl hbq hb hcp hk hm hx
  cases ho : p.opn with
  | false =>
    rw [ho] at g35
    have HR : Hid (b = false) := by show _ = _; rw [← hpb, ho]; rfl
    clear hpb ho
    go_enter Try.func20, Try.ntmps20
    go_wp2_with fail
    refine pass0 (z := ((m : Int) == 0)) (p := p) HL g1 g35 g36 g37 q0 q1 HY HN HKk HMm rfl ?_
    intro V hV
    go_wp2_with fail
    go_ret
    exact ⟨by rw [HR.out]; rfl, HX.out hV⟩
  | true =>
    rw [ho] at g35
    by_cases hen : ap ≤ (k : Int)
    · cases veto with
      | false =>
        have HR : Hid (b = true) := by show _ = _; rw [← hpb, ho]; simp [hen]
        clear hpb ho
        go_enter Try.func20, Try.ntmps20
        go_wp2_with fail
        refine pass2 (z := ((m : Int) == 0)) (p := p) HL g1 g35 g36 g37 q0 q1 HY HN HKk HMm hen rfl ?_
        intro V hV
        go_wp2_with fail
        go_ret
        exact ⟨by rw [HR.out]; rfl, HX.out hV⟩
      | true =>
        have HR : Hid (b = (m == 0)) := by show _ = _; rw [← hpb, ho]; simp [hen]
        have hz : ((m : Int) == 0) = (m == 0) := by
          by_cases h0 : m = 0
          · subst h0; rfl
          · have a1 : ((m : Int) == 0) = false := by simp; omega
            have a2 : (m == 0) = false := by simpa using h0
            rw [a1, a2]
        rw [← HR.out] at hz
        clear hpb ho
        go_enter Try.func20, Try.ntmps20
        go_wp2_with fail
        refine pass3 (z := b) (p := p) HL g1 g35 g36 g37 q0 q1 HY HN HKk HMm hen hz ?_
        intro V hV
        go_wp2_with fail
        go_ret
        exact ⟨rfl, HX.out hV⟩
    · have hlt : (k : Int) < ap := by omega
      have HR : Hid (b = false) := by show _ = _; rw [← hpb, ho]; simp [hen]
      clear hpb ho hen
      go_enter Try.func20, Try.ntmps20
      go_wp2_with fail
      refine pass1 (z := ((m : Int) == 0)) (p := p) HL g1 g35 g36 g37 q0 q1 HY HN HKk HMm hlt rfl ?_
      intro V hV
      go_wp2_with fail
      go_ret
      exact ⟨by rw [HR.out]; rfl, HX.out hV⟩
#print axioms passes_is
end Go.Proofs.Ytaecigpjcbjcbaa.Oct
