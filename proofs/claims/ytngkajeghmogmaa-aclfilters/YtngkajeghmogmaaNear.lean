/-
  Layer 17 (acl): the closures, nearest, ContainsFunc.
-/
import Derived.Test.YtngkajeghmogmaaPick
namespace Go.Proofs.Ytngkajeghmogmaa.Oct
open Go.RowKit Go.Shelf

set_option maxRecDepth 100000 in
theorem clos48_is (r : Ru) (hr : r.short) (s : Sj) (ch path : BA) (right : Int) (gs gc gp gr : Nat) (w : World) (hs : s.at w) (hp : path.size ≤ 140737488355328)
    (h1 : Blk w gs 25 [.string s.user, .slice s.ta s.tn s.tc, iv s.role]) (h2 : Blk w gc 9 [.string ch]) (h3 : Blk w gp 9 [.string path]) (h4 : Blk w gr 3 [iv right]) :
    Calls Try.prog 48 #[ruv r, .pointer (some ⟨gs, 0, none⟩), .pointer (some ⟨gc, 0, none⟩), .pointer (some ⟨gp, 0, none⟩), .pointer (some ⟨gr, 0, none⟩)] w fun e w' => e = .returned (.bool (matB r s ch path right)) ∧ Below w.heap.size w w' := by
  have hb := below_al w (.cells #[.string r.who, .string r.ch, .string r.pre, iv r.right, .bool r.deny] 31)
  have HM := matches_is r hr s ch path right _ (hs.below hb) hp
  have HBB : Hid (Below w.heap.size w (w.alloc (.cells #[.string r.who, .string r.ch, .string r.pre, iv r.right, .bool r.deny] 31))) := hb
  obtain ⟨W1, hW1⟩ : ∃ W1, w.alloc (.cells #[.string r.who, .string r.ch, .string r.pre, iv r.right, .bool r.deny] 31) = W1 := ⟨_, rfl⟩
  rw [hW1] at hb HM HBB
  have H0 : Hid (Blk W1 w.heap.size 31 r.cells) := by rw [← hW1]; exact Blk.new w _ 31
  obtain ⟨g, hg⟩ : ∃ g, w.heap.size = g := ⟨_, rfl⟩
  rw [hg] at H0
  have k1 := h1.below hb h1.lt
  have c0 : W1.cell? ⟨gs, 0, none⟩ = some (.string s.user) := k1.cell rfl
  have c1 : W1.cell? ⟨gs, 1, none⟩ = some (.slice s.ta s.tn s.tc) := k1.cell rfl
  have c2 : W1.cell? ⟨gs, 2, none⟩ = some (iv s.role) := k1.cell rfl
  have c3 : W1.cell? ⟨gc, 0, none⟩ = some (.string ch) := (h2.below hb h2.lt).cell rfl
  have c4 : W1.cell? ⟨gp, 0, none⟩ = some (.string path) := (h3.below hb h3.lt).cell rfl
  have c5 : W1.cell? ⟨gr, 0, none⟩ = some (iv right) := (h4.below hb h4.lt).cell rfl
  have d0 : W1.cell? ⟨g, 0, none⟩ = some (.string r.who) := H0.out.cell rfl
  have d1 : W1.cell? ⟨g, 1, none⟩ = some (.string r.ch) := H0.out.cell rfl
  have d2 : W1.cell? ⟨g, 2, none⟩ = some (.string r.pre) := H0.out.cell rfl
  have d3 : W1.cell? ⟨g, 3, none⟩ = some (iv r.right) := H0.out.cell rfl
  have d4 : W1.cell? ⟨g, 4, none⟩ = some (.bool r.deny) := H0.out.cell rfl
  generalize matB r s ch path right = m at HM ⊢
  clear h1 h2 h3 h4 k1 hs hp hr hb
  go_enter Try.func48, Try.ntmps48
  go_wp2_with fail
  refine HM.mono ?_
  rintro e w1 ⟨rfl, hb1⟩
  have HB1 : Hid (Below w.heap.size w w1) := HBB.out.trans (hb1.mono HBB.out.size)
  clear HM hb1
  go_wp2
  go_ret
  exact ⟨rfl, HB1.out⟩
#print axioms clos48_is
set_option maxRecDepth 100000 in
theorem clos57_is (r : Ru) (m : Nat) (g : Nat) (w : World) (h : w.cell? ⟨g, 0, none⟩ = some (iv m)) (hl : g < w.heap.size) : Calls Try.prog 57 #[ruv r, .pointer (some ⟨g, 0, none⟩)] w fun e w' => e = .returned (.bool (r.pre.size == m)) ∧ Below w.heap.size w w' := by
  have c : ∀ o, (w.alloc o).cell? ⟨g, 0, none⟩ = some (iv m) := fun o => ((below_al w o).cell (p := ⟨g, 0, none⟩) hl).trans h
  have e : ((r.pre.size : Int) == (m : Int)) = (r.pre.size == m) := by
    by_cases h : r.pre.size = m
    · rw [h]; simp
    · have h' : ¬ ((r.pre.size : Int) = (m : Int)) := by omega
      rw [beq_eq_false_iff_ne.2 h, beq_eq_false_iff_ne.2 h']
  have HE : Hid (((r.pre.size : Int) == (m : Int)) = (r.pre.size == m)) := e
  clear e
  go_enter Try.func57, Try.ntmps57
  go_wp2
  go_ret
  first | exact ⟨by rw [← HE.out]; rfl, below_al _ _⟩ | exact ⟨by simp [HE.out], below_al _ _⟩
#print axioms clos57_is
theorem clos50_is (r : Ru) (w : World) : Calls Try.prog 50 #[ruv r] w fun e w' => e = .returned (.bool r.deny) ∧ Below w.heap.size w w' := by
  go_enter Try.func50, Try.ntmps50
  go_wp2
  go_ret
  exact ⟨rfl, below_al _ _⟩
set_option maxRecDepth 100000 in
set_option maxHeartbeats 1000000 in
theorem idx_is (l : List Ru) (a : Option Addr) (n cp : Nat) (w : World) (hl : RuS w a n l) (hn : n ≤ 2199023255551) :
    Calls Try.prog 58 #[.slice a n cp, .func (.func 50) #[] #[]] w fun e w' => ∃ k : Int, e = .returned (iv k) ∧ decide (0 ≤ k) = l.any (·.deny) ∧ Below w.heap.size w w' := by
  have HL : Hid (RuS w a n l) := hl
  have qn : (n : Int) ≤ 2199023255551 := by omega
  clear hl hn
  go_enter Try.func58, Try.ntmps58
  go_wp2
  go_loopw [8] (fun u wr => ∃ i : Nat, u = iv i ∧ Hid (i ≤ n ∧ (l.take i).any (·.deny) = false ∧ Below w.heap.size w wr)) (fun u _ => n - (intOf u).toNat)
  case atStart => exact ⟨0, rfl, Nat.zero_le _, rfl, Below.refl _ _⟩
  case round =>
    obtain ⟨i, rfl, HI⟩ := hrel
    by_cases hi : i = n
    · have q1 : (n : Int) ≤ (i : Int) := by omega
      have HF : Hid (l.any (·.deny) = false) := by
        show _ = _
        have := HI.out.2.1
        rw [hi, ← HL.out.1, List.take_length] at this
        exact this
      clear hi
      go_wp2
      go_ret
      exact ⟨-1, rfl, by rw [HF.out]; rfl, HI.out.2.2⟩
    · have q1 : (i : Int) < (n : Int) := by have := HI.out.1; omega
      have HI2 : Hid (i < n) := by show _ < _; have := HI.out.1; omega
      obtain ⟨b, off, ha, hbl, hc⟩ := HL.out.2.2 (by have := HI2.out; omega)
      subst ha
      obtain ⟨r, hr⟩ : ∃ r, l[i]? = some r := ⟨_, List.getElem?_eq_getElem (by rw [HL.out.1]; exact HI2.out)⟩
      have hcr : wr.rangeAt b (off + i * 5) r.cells := fun j v hj => (HI.out.2.2.cell (p := ⟨b, off + i * 5 + j, none⟩) hbl).trans (hc i r hr j v hj)
      obtain ⟨c0, c1, c2, c3, c4⟩ := ru_at hcr
      have HR : Hid (l[i]? = some r) := hr
      have HC := clos50_is r wr
      clear hi hc hr hcr
      go_wp2_with fail
      refine HC.mono ?_
      rintro e w1 ⟨rfl, hb1⟩
      have HB1 : Hid (Below w.heap.size w w1) := HI.out.2.2.trans (hb1.mono HI.out.2.2.size)
      clear HC hb1 c0 c1 c2 c3 c4
      cases hd : r.deny
      · have HN : Hid ((l.take (i + 1)).any (·.deny) = false) := by
          show _ = _
          rw [List.take_add_one, HR.out, List.any_append, HI.out.2.1]
          simp [hd]
        clear hd
        go_wp2
        refine ⟨⟨i + 1, by simp, HI2.out, HN.out, HB1.out⟩, ?_⟩
        have := HI2.out
        simp only [intOf]
        omega
      · have HY : Hid (l.any (·.deny) = true) := by
          show _ = _
          rw [List.any_eq_true]
          exact ⟨r, List.mem_of_getElem? HR.out, hd⟩
        clear hd
        go_wp2
        go_ret
        exact ⟨(i : Int), rfl, by rw [HY.out]; simp, HB1.out⟩
theorem any_is (l : List Ru) (a : Option Addr) (n cp : Nat) (w : World) (hl : RuS w a n l) (hn : n ≤ 2199023255551) :
    Calls Try.prog 49 #[.slice a n cp, .func (.func 50) #[] #[]] w fun e w' => e = .returned (.bool (l.any (·.deny))) ∧ Below w.heap.size w w' := by
  have HI := idx_is l a n cp w hl hn
  generalize l.any (·.deny) = m at HI ⊢
  clear hl hn
  go_enter Try.func49, Try.ntmps49
  go_wp2_with fail
  refine HI.mono ?_
  rintro e w1 ⟨k, rfl, hk, hb⟩
  have HK : Hid (decide (0 ≤ k) = m) := hk
  clear HI hk
  go_wp2
  go_ret
  exact ⟨by rw [← HK.out]; rfl, hb⟩
#print axioms any_is
/-- the most bytes of a prefix -/
def mx (l : List Ru) : Nat := l.foldl (fun m r => max m r.pre.size) 0
theorem mx_snoc (l : List Ru) (r : Ru) : mx (l ++ [r]) = max (mx l) r.pre.size := by simp [mx]
theorem below_grown {B : Nat} {w a b : World} {row : Option Nat} (h : Below B w a) (hg : a.grownBy b row) (hr : ∀ g, row = some g → B ≤ g) (hB : B ≤ w.heap.size) : Below B w b :=
  ⟨hg.os.trans h.os, hg.tape.trans h.tape, hg.output.trans h.output, Nat.le_trans h.size hg.size, fun k hk => (hg.block k (by have := h.size; omega) (fun e => by have := hr k e.symm; omega)).trans (h.block k hk)⟩
set_option maxRecDepth 100000 in
set_option maxHeartbeats 1000000 in
theorem nearest_is (l : List Ru) (a : Option Addr) (n cp : Nat) (w : World) (hl : RuS w a n l) (hn : n ≤ 2199023255551) :
    Calls Try.prog 46 #[.slice a n cp] w (PickP w l (fun r => r.pre.size == mx l)) := by
  have HL : Hid (RuS w a n l) := hl
  have HNN : Hid (n ≤ 2199023255551) := hn
  have qn : (n : Int) ≤ 2199023255551 := by omega
  obtain ⟨g, hg⟩ : ∃ g, w.heap.size = g := ⟨_, rfl⟩
  have K1 : Hid (Kp w g 3 [iv 0] (w.alloc (.cells #[iv 0] 3))) := by rw [← hg]; exact Kp.new w #[iv 0] 3
  have HGW : Hid (w.heap.size = g) := hg
  clear hl hn
  go_enter Try.func46, Try.ntmps46
  go_wp2
  go_loopw [8] (fun u wr => ∃ i : Nat, u = iv i ∧ Hid (i ≤ n ∧ Kp w g 3 [iv (mx (l.take i) : Nat)] wr)) (fun u _ => n - (intOf u).toNat)
  case atStart => exact ⟨0, rfl, Nat.zero_le _, K1.out⟩
  case round =>
    obtain ⟨i, rfl, HI⟩ := hrel
    clear K1 hg
    by_cases hi : i = n
    · have q1 : (n : Int) ≤ (i : Int) := by omega
      have HT : Hid (l.take i = l) := by show _ = _; rw [hi, ← HL.out.1, List.take_length]
      have HK : Hid (Kp w g 3 [iv (mx l : Nat)] wr) := by have := HI.out.2; rw [HT.out] at this; exact this
      have HP := pick57_is (fun r => r.pre.size == mx l) (.pointer (some ⟨g, 0, none⟩)) l a n cp wr (HL.out.below HK.out.1) HNN.out (fun r _ V hV => clos57_is r (mx l) g V ((hV.cell (p := ⟨g, 0, none⟩) HK.out.2.lt).trans (HK.out.2.cell rfl)) (Nat.lt_of_lt_of_le HK.out.2.lt hV.size))
      clear hi HI
      go_wp2_with fail
      refine HP.mono ?_
      rintro e w1 ⟨a', n', c', rfl, h1, h2, h3⟩
      have HR : Hid (RuS w1 a' n' (l.filter fun r => r.pre.size == mx l) ∧ n' ≤ 2199023255551 ∧ Below w.heap.size w w1) := ⟨h1, h2, HK.out.1.trans (h3.mono HK.out.1.size)⟩
      clear HP h1 h2 h3
      go_wp2
      go_ret
      exact ⟨a', n', c', rfl, HR.out⟩
    · have q1 : (i : Int) < (n : Int) := by have := HI.out.1; omega
      have HI2 : Hid (i < n) := by show _ < _; have := HI.out.1; omega
      obtain ⟨b, off, ha, hbl, hc⟩ := HL.out.2.2 (by have := HI2.out; omega)
      subst ha
      obtain ⟨r, hr⟩ : ∃ r, l[i]? = some r := ⟨_, List.getElem?_eq_getElem (by rw [HL.out.1]; exact HI2.out)⟩
      have hcr : wr.rangeAt b (off + i * 5) r.cells := fun j v hj => (HI.out.2.1.cell (p := ⟨b, off + i * 5 + j, none⟩) hbl).trans (hc i r hr j v hj)
      obtain ⟨c0, c1, c2, c3, c4⟩ := ru_at hcr
      have HMX : Hid (mx (l.take (i + 1)) = max (mx (l.take i)) r.pre.size) := by
        show _ = _
        rw [List.take_add_one, hr]
        exact mx_snoc _ _
      obtain ⟨W2, hW2⟩ : ∃ W2, wr.alloc (.cells #[.string r.who, .string r.ch, .string r.pre, iv r.right, .bool r.deny] 31) = W2 := ⟨_, rfl⟩
      obtain ⟨ag, hag⟩ : ∃ ag, wr.heap.size = ag := ⟨_, rfl⟩
      have K2 : Hid (Kp w g 3 [iv (mx (l.take i) : Nat)] W2 ∧ Blk W2 ag 31 r.cells) := by rw [← hW2, ← hag]; exact ⟨HI.out.2.step (below_al wr _), Blk.new wr _ 31⟩
      have cm : W2.cell? ⟨g, 0, none⟩ = some (iv (mx (l.take i) : Nat)) := K2.out.1.2.cell rfl
      have fm := K2.out.1.2.free 0
      have d2 : W2.cell? ⟨ag, 2, none⟩ = some (.string r.pre) := K2.out.2.cell rfl
      have HGL : Hid (w.heap.size ≤ g) := by rw [HGW.out]; exact Nat.le_refl _
      clear hi hc hr hcr
      go_wp2
      refine ⟨⟨i + 1, by simp, HI2.out, ?_⟩, ?_⟩
      · rw [HMX.out]
        refine ⟨below_grown K2.out.1.1 (grown_setCell _ _ _ _) (fun j hj => by cases hj; exact HGL.out) (Nat.le_refl _), ?_⟩
        have := K2.out.1.2.set 0 (iv ((max (mx (l.take i)) r.pre.size : Nat) : Int))
        have e : (if mx (l.take i) < r.pre.size then (r.pre.size : Int) else ((mx (l.take i) : Nat) : Int)) = ((max (mx (l.take i)) r.pre.size : Nat) : Int) := by split <;> omega
        rw [e]
        exact this
      · have := HI2.out
        simp only [intOf]
        omega
#print axioms nearest_is
end Go.Proofs.Ytngkajeghmogmaa.Oct
