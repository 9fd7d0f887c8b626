/-
  Layer 17 (acl): rows of rules; pick.
-/
import Derived.Test.YtngkajeghmogmaaMat
namespace Go.Proofs.Ytngkajeghmogmaa.Oct
open Go.RowKit Go.Shelf

/-- rules that are read -/
def RuS (w : World) (a : Option Addr) (n : Nat) (l : List Ru) : Prop :=
  l.length = n ∧ (∀ r ∈ l, r.short) ∧ (0 < n → ∃ b off, a = some ⟨b, off, none⟩ ∧ b < w.heap.size ∧ ∀ i r, l[i]? = some r → w.rangeAt b (off + i * 5) r.cells)
theorem RuS.below {w w' : World} {a : Option Addr} {n : Nat} {l : List Ru} (h : RuS w a n l) (hb : Below w.heap.size w w') : RuS w' a n l := by
  refine ⟨h.1, h.2.1, fun hp => ?_⟩
  obtain ⟨b, off, e1, e2, e3⟩ := h.2.2 hp
  exact ⟨b, off, e1, Nat.lt_of_lt_of_le e2 hb.size, fun i r hr j v hj => (hb.cell (p := ⟨b, off + i * 5 + j, none⟩) e2).trans (e3 i r hr j v hj)⟩
def flat (l : List Ru) : List Value := l.flatMap Ru.cells
theorem cells_len (r : Ru) : r.cells.length = 5 := rfl
theorem flat_len (l : List Ru) : (flat l).length = l.length * 5 := by
  induction l with
  | nil => rfl
  | cons r l ih => simp only [flat, List.flatMap_cons, List.length_append, cells_len, List.length_cons] at *; omega
theorem flat_app (l k : List Ru) : flat (l ++ k) = flat l ++ flat k := by simp [flat]
theorem flat_at : ∀ (l : List Ru) (i j : Nat) (r : Ru), l[i]? = some r → j < 5 → (flat l)[i * 5 + j]? = r.cells[j]?
  | [], i, j, r, h, _ => by simp at h
  | x :: l, 0, j, r, h, hj => by
    simp at h
    subst h
    simp only [flat, List.flatMap_cons, Nat.zero_mul, Nat.zero_add]
    rw [List.getElem?_append_left (by rw [cells_len]; exact hj)]
  | x :: l, i + 1, j, r, h, hj => by
    have h' : l[i]? = some r := by simpa using h
    have ih := flat_at l i j r h' hj
    simp only [flat, List.flatMap_cons] at *
    rw [List.getElem?_append_right (by rw [cells_len]; omega), cells_len, show (i + 1) * 5 + j - 5 = i * 5 + j by omega]
    exact ih
theorem flat_one (l : List Ru) : ∀ u ∈ flat l, u.oneCell' = true := by
  intro u hu
  obtain ⟨r, _, hr⟩ := List.mem_flatMap.1 hu
  simp only [Ru.cells, List.mem_cons, List.not_mem_nil, or_false] at hr
  rcases hr with rfl | rfl | rfl | rfl | rfl <;> rfl
theorem RuS.rd {w : World} {a : Option Addr} {n : Nat} {l : List Ru} (h : RuS w a n l) : Rd w 31 5 a n (flat l) := by
  refine ⟨by rw [flat_len, h.1], flat_one l, fun hp => ?_⟩
  obtain ⟨b, off, e1, e2, e3⟩ := h.2.2 hp
  refine ⟨b, off, e1, e2, fun j u hu => ?_⟩
  have hj : j < l.length * 5 := by rw [← flat_len]; exact (List.getElem?_eq_some_iff.1 hu).1
  obtain ⟨r, hr⟩ : ∃ r, l[j / 5]? = some r := ⟨_, List.getElem?_eq_getElem (by omega)⟩
  have hf := flat_at l (j / 5) (j % 5) r hr (by omega)
  rw [show j / 5 * 5 + j % 5 = j by omega, hu] at hf
  have := e3 (j / 5) r hr (j % 5) u hf.symm
  rw [show off + j / 5 * 5 + j % 5 = off + j by omega] at this
  exact this
theorem RuS.of {w : World} {a : Option Addr} {n : Nat} {l : List Ru} (h : Rd w 31 5 a n (flat l)) (hs : ∀ r ∈ l, r.short) : RuS w a n l := by
  have hl : l.length = n := by have := h.1; rw [flat_len] at this; omega
  refine ⟨hl, hs, fun hp => ?_⟩
  obtain ⟨b, off, e1, e2, e3⟩ := h.2.2 hp
  refine ⟨b, off, e1, e2, fun i r hr j v hj => ?_⟩
  have hj5 : j < 5 := (List.getElem?_eq_some_iff.1 hj).1
  have := e3 (i * 5 + j) v (by rw [flat_at l i j r hr hj5]; exact hj)
  rw [Nat.add_assoc]
  exact this
theorem info31 : ∃ i, Try.prog.info? 31 = some i ∧ i.zero = some (.agg #[.string ⟨#[]⟩, .string ⟨#[]⟩, .string ⟨#[]⟩, .int .i64 0, .bool false]) ∧ i.size = 5 ∧ i.bytes ≤ 64 := by
  have h : (Try.prog.info? 31).map (fun i => (i.zero, i.size, decide (i.bytes ≤ 64))) = some (some (.agg #[.string ⟨#[]⟩, .string ⟨#[]⟩, .string ⟨#[]⟩, .int .i64 0, .bool false]), 5, true) := by kernel_rfl
  obtain ⟨i, hi, he⟩ := Option.map_eq_some_iff.1 h
  simp only [Prod.mk.injEq, decide_eq_true_eq] at he
  exact ⟨i, hi, he⟩
/-- five cells of a rule -/
theorem ru_at {w : World} {b o : Nat} {r : Ru} (h : w.rangeAt b o r.cells) : w.cell? ⟨b, o, none⟩ = some (.string r.who) ∧ w.cell? ⟨b, o + 1, none⟩ = some (.string r.ch) ∧ w.cell? ⟨b, o + 2, none⟩ = some (.string r.pre) ∧ w.cell? ⟨b, o + 3, none⟩ = some (iv r.right) ∧ w.cell? ⟨b, o + 4, none⟩ = some (.bool r.deny) :=
  ⟨h 0 _ rfl, h 1 _ rfl, h 2 _ rfl, h 3 _ rfl, h 4 _ rfl⟩
theorem bs_below {e sz B : Nat} {w w' : World} {v : Value} {n : Nat} {cs : List Value} (h : Bs e sz B w v n cs) (hb : Below w.heap.size w w') : Bs e sz B w' v n cs := by
  rcases h with ⟨a, rfl, h, h0⟩ | ⟨h1, h⟩
  · exact .inl ⟨a, rfl, h.below hb (Nat.le_refl _), h0⟩
  · refine .inr ⟨h1, h.1, ?_⟩
    rcases h.2 with hn | ⟨g, cap, cur, rfl, hB, hbk, hr⟩
    · exact .inl hn
    · exact .inr ⟨g, cap, cur, rfl, hB, (hb.block g (lt_of_block hbk)).trans hbk, hr⟩
theorem rd_one (W : World) (r : Ru) : Rd (W.alloc (.cells #[.string r.who, .string r.ch, .string r.pre, iv r.right, .bool r.deny] 31)) 31 5 (some ⟨W.heap.size, 0, none⟩) 1 (flat [r]) := by
  have hb : Blk (W.alloc (.cells #[.string r.who, .string r.ch, .string r.pre, iv r.right, .bool r.deny] 31)) W.heap.size 31 r.cells := Blk.new W _ 31
  have hf : flat [r] = r.cells := by simp [flat]
  rw [hf]
  refine ⟨rfl, ?_, fun _ => ⟨W.heap.size, 0, rfl, hb.lt, fun j u hj => ?_⟩⟩
  · rw [← hf]; exact flat_one [r]
  · rw [Nat.zero_add]; exact hb.cell hj
/-- what pick answers -/
def PickP (w : World) (l : List Ru) (P : Ru → Bool) (e : Ending) (w' : World) : Prop :=
  ∃ a' n' c', e = .returned (.slice a' n' c') ∧ RuS w' a' n' (l.filter P) ∧ n' ≤ 2199023255551 ∧ Below w.heap.size w w'
set_option maxRecDepth 100000 in
set_option maxHeartbeats 1000000 in
theorem pick48_is (P : Ru → Bool) (k1 k2 k3 k4 : Value) (l : List Ru) (a : Option Addr) (n cp : Nat) (w : World) (hl : RuS w a n l) (hn : n ≤ 2199023255551)
    (hf : ∀ r ∈ l, ∀ V, Below w.heap.size w V → Calls Try.prog 48 #[ruv r, k1, k2, k3, k4] V fun e w' => e = .returned (.bool (P r)) ∧ Below V.heap.size V w') :
    Calls Try.prog 47 #[.slice a n cp, .func (.func 48) #[] #[k1, k2, k3, k4]] w (PickP w l P) := by
  have HL : Hid (RuS w a n l) := hl
  have HF : Hid (∀ r ∈ l, ∀ V, Below w.heap.size w V → Calls Try.prog 48 #[ruv r, k1, k2, k3, k4] V fun e w' => e = .returned (.bool (P r)) ∧ Below V.heap.size V w') := hf
  have qn : (n : Int) ≤ 2199023255551 := by omega
  clear hl hf hn
  go_enter Try.func47, Try.ntmps47
  go_wp2
  go_loopw [10, 5] (fun u v wr => ∃ i : Nat, u = iv i ∧ Hid (i ≤ n ∧ Below w.heap.size w wr ∧ Bs 31 5 w.heap.size wr v ((l.take i).filter P).length (flat ((l.take i).filter P)))) (fun u _ _ => n - (intOf u).toNat)
  case atStart => exact ⟨0, rfl, Nat.zero_le _, Below.refl _ _, .inr ⟨by simp [flat], rfl, .inl ⟨rfl, rfl⟩⟩⟩
  case round =>
    obtain ⟨i, rfl, HI⟩ := hrel
    by_cases hi : i = n
    · have q1 : (n : Int) ≤ (i : Int) := by omega
      obtain ⟨a', c', hv, _, hrd, _⟩ := HI.out.2.2.read
      have HT : Hid (l.take i = l) := by show _ = _; rw [hi, ← HL.out.1, List.take_length]
      rw [HT.out] at hv hrd
      have HRD : Hid (RuS wr a' (l.filter P).length (l.filter P)) := RuS.of hrd (fun r hr => HL.out.2.1 r (List.mem_filter.1 hr).1)
      have HLN : Hid ((l.filter P).length ≤ 2199023255551) := by show _ ≤ _; have := List.length_filter_le P l; have := HL.out.1; omega
      subst hv
      have HB := HI.out.2.1
      clear hrd HI hi
      go_wp2
      go_ret
      exact ⟨a', _, c', rfl, HRD.out, HLN.out, HB⟩
    · have q1 : (i : Int) < (n : Int) := by have := HI.out.1; omega
      have HI2 : Hid (i < n) := by show _ < _; have := HI.out.1; omega
      obtain ⟨b, off, ha, hbl, hc⟩ := HL.out.2.2 (by have := HI2.out; omega)
      subst ha
      obtain ⟨r, hr⟩ : ∃ r, l[i]? = some r := ⟨_, List.getElem?_eq_getElem (by rw [HL.out.1]; exact HI2.out)⟩
      have hcr : wr.rangeAt b (off + i * 5) r.cells := fun j v hj => (HI.out.2.1.cell (p := ⟨b, off + i * 5 + j, none⟩) hbl).trans (hc i r hr j v hj)
      obtain ⟨c0, c1, c2, c3, c4⟩ := ru_at hcr
      have HTK : Hid (((l.take (i + 1)).filter P) = (l.take i).filter P ++ if P r then [r] else []) := by
        show _ = _
        rw [List.take_add_one, hr, List.filter_append]
        simp only [Option.toList_some, List.filter_cons, List.filter_nil]
      have HRM : Hid (r ∈ l) := List.mem_of_getElem? hr
      have HLN : Hid (((l.take i).filter P).length + 1 ≤ 2199023255552) := by
        show _ ≤ _
        have h1 := List.length_filter_le P (l.take i)
        have h2 : (l.take i).length ≤ l.length := by simp; omega
        have := HL.out.1
        omega
      have HCALL := HF.out r HRM.out (wr.alloc (.cells #[.string r.who, .string r.ch, .string r.pre, iv r.right, .bool r.deny] 31)) (HI.out.2.1.trans ((below_al wr _).mono HI.out.2.1.size))
      have HAB : Hid (Blk (wr.alloc (.cells #[.string r.who, .string r.ch, .string r.pre, iv r.right, .bool r.deny] 31)) wr.heap.size 31 r.cells) := Blk.new wr _ 31
      clear hi hc hr hcr
      go_wp2_with fail
      refine HCALL.mono ?_
      rintro e w1 ⟨rfl, hb1⟩
      have HB1 : Hid (Below w.heap.size w w1) := (HI.out.2.1.trans ((below_al wr _).mono HI.out.2.1.size)).trans (hb1.mono (HI.out.2.1.trans ((below_al wr _).mono HI.out.2.1.size)).size)
      have HBS : Hid (Bs 31 5 w.heap.size w1 u5 ((l.take i).filter P).length (flat ((l.take i).filter P))) := bs_below (bs_below HI.out.2.2 (below_al wr _)) hb1
      have HA1 : Hid (Blk w1 wr.heap.size 31 r.cells) := HAB.out.below hb1 HAB.out.lt
      have d0 : w1.cell? ⟨wr.heap.size, 0, none⟩ = some (.string r.who) := HA1.out.cell rfl
      have d1 : w1.cell? ⟨wr.heap.size, 1, none⟩ = some (.string r.ch) := HA1.out.cell rfl
      have d2 : w1.cell? ⟨wr.heap.size, 2, none⟩ = some (.string r.pre) := HA1.out.cell rfl
      have d3 : w1.cell? ⟨wr.heap.size, 3, none⟩ = some (iv r.right) := HA1.out.cell rfl
      have d4 : w1.cell? ⟨wr.heap.size, 4, none⟩ = some (.bool r.deny) := HA1.out.cell rfl
      clear HCALL hb1 c0 c1 c2 c3 c4
      cases hP : P r
      · have HN : Hid ((l.take (i + 1)).filter P = (l.take i).filter P) := by show _ = _; rw [HTK.out, hP]; simp
        clear hP
        go_wp2
        refine ⟨⟨i + 1, by simp, HI2.out, HB1.out, by rw [HN.out]; exact HBS.out⟩, ?_⟩
        have := HI2.out
        simp only [intOf]
        omega
      · have HN : Hid ((l.take (i + 1)).filter P = (l.take i).filter P ++ [r]) := by show _ = _; rw [HTK.out, hP]; rfl
        obtain ⟨i0, hi0, hz0, hz1, hz2⟩ := info31
        have HI0 : Hid (Try.prog.info? 31 = some i0 ∧ i0.zero = some (.agg #[.string ⟨#[]⟩, .string ⟨#[]⟩, .string ⟨#[]⟩, .int .i64 0, .bool false]) ∧ i0.size = 5 ∧ i0.bytes ≤ 64) := ⟨hi0, hz0, hz1, hz2⟩
        clear hP hi0 hz0 hz1 hz2
        go_wp2_with (with_reducible change wpList _ _ _ ({ dst := some 20, op := _, type := _, pos := _, after := _, guard := _ } :: _) _ _; refine Hid.out ?_)
        show wpList _ _ _ _ _ _
        refine wpList_append_bs rfl (.tmp 17) (.tmp 19) 22 rfl _ 31 i0 _ 5 w.heap.size Try.underlying22 HI0.out.1 HI0.out.2.1 HI0.out.2.2.1 HI0.out.2.2.2 rfl (by omega) u5 _ (flat ((l.take i).filter P)) (bs_below HBS.out (below_al w1 _)) (some ⟨w1.heap.size, 0, none⟩) 1 1 (flat [r]) rfl rfl (rd_one w1 r) (by have := HB1.out.size; simp; omega) HLN.out ?_
        intro v5 w5 hb5 hw5
        go_wp2
        refine ⟨⟨i + 1, by simp, HI2.out, (HB1.out.trans ((below_al w1 _).mono HB1.out.size)).trans hw5.out, ?_⟩, ?_⟩
        · rw [HN.out, flat_app, List.length_append]
          exact hb5.out
        · have := HI2.out
          simp only [intOf]
          omega
#print axioms pick48_is
set_option maxRecDepth 100000 in
set_option maxHeartbeats 1000000 in
theorem pick57_is (P : Ru → Bool) (k1 : Value) (l : List Ru) (a : Option Addr) (n cp : Nat) (w : World) (hl : RuS w a n l) (hn : n ≤ 2199023255551)
    (hf : ∀ r ∈ l, ∀ V, Below w.heap.size w V → Calls Try.prog 57 #[ruv r, k1] V fun e w' => e = .returned (.bool (P r)) ∧ Below V.heap.size V w') :
    Calls Try.prog 47 #[.slice a n cp, .func (.func 57) #[] #[k1]] w (PickP w l P) := by
  have HL : Hid (RuS w a n l) := hl
  have HF : Hid (∀ r ∈ l, ∀ V, Below w.heap.size w V → Calls Try.prog 57 #[ruv r, k1] V fun e w' => e = .returned (.bool (P r)) ∧ Below V.heap.size V w') := hf
  have qn : (n : Int) ≤ 2199023255551 := by omega
  clear hl hf hn
  go_enter Try.func47, Try.ntmps47
  go_wp2
  go_loopw [10, 5] (fun u v wr => ∃ i : Nat, u = iv i ∧ Hid (i ≤ n ∧ Below w.heap.size w wr ∧ Bs 31 5 w.heap.size wr v ((l.take i).filter P).length (flat ((l.take i).filter P)))) (fun u _ _ => n - (intOf u).toNat)
  case atStart => exact ⟨0, rfl, Nat.zero_le _, Below.refl _ _, .inr ⟨by simp [flat], rfl, .inl ⟨rfl, rfl⟩⟩⟩
  case round =>
    obtain ⟨i, rfl, HI⟩ := hrel
    by_cases hi : i = n
    · have q1 : (n : Int) ≤ (i : Int) := by omega
      obtain ⟨a', c', hv, _, hrd, _⟩ := HI.out.2.2.read
      have HT : Hid (l.take i = l) := by show _ = _; rw [hi, ← HL.out.1, List.take_length]
      rw [HT.out] at hv hrd
      have HRD : Hid (RuS wr a' (l.filter P).length (l.filter P)) := RuS.of hrd (fun r hr => HL.out.2.1 r (List.mem_filter.1 hr).1)
      have HLN : Hid ((l.filter P).length ≤ 2199023255551) := by show _ ≤ _; have := List.length_filter_le P l; have := HL.out.1; omega
      subst hv
      have HB := HI.out.2.1
      clear hrd HI hi
      go_wp2
      go_ret
      exact ⟨a', _, c', rfl, HRD.out, HLN.out, HB⟩
    · have q1 : (i : Int) < (n : Int) := by have := HI.out.1; omega
      have HI2 : Hid (i < n) := by show _ < _; have := HI.out.1; omega
      obtain ⟨b, off, ha, hbl, hc⟩ := HL.out.2.2 (by have := HI2.out; omega)
      subst ha
      obtain ⟨r, hr⟩ : ∃ r, l[i]? = some r := ⟨_, List.getElem?_eq_getElem (by rw [HL.out.1]; exact HI2.out)⟩
      have hcr : wr.rangeAt b (off + i * 5) r.cells := fun j v hj => (HI.out.2.1.cell (p := ⟨b, off + i * 5 + j, none⟩) hbl).trans (hc i r hr j v hj)
      obtain ⟨c0, c1, c2, c3, c4⟩ := ru_at hcr
      have HTK : Hid (((l.take (i + 1)).filter P) = (l.take i).filter P ++ if P r then [r] else []) := by
        show _ = _
        rw [List.take_add_one, hr, List.filter_append]
        simp only [Option.toList_some, List.filter_cons, List.filter_nil]
      have HRM : Hid (r ∈ l) := List.mem_of_getElem? hr
      have HLN : Hid (((l.take i).filter P).length + 1 ≤ 2199023255552) := by
        show _ ≤ _
        have h1 := List.length_filter_le P (l.take i)
        have h2 : (l.take i).length ≤ l.length := by simp; omega
        have := HL.out.1
        omega
      have HCALL := HF.out r HRM.out (wr.alloc (.cells #[.string r.who, .string r.ch, .string r.pre, iv r.right, .bool r.deny] 31)) (HI.out.2.1.trans ((below_al wr _).mono HI.out.2.1.size))
      have HAB : Hid (Blk (wr.alloc (.cells #[.string r.who, .string r.ch, .string r.pre, iv r.right, .bool r.deny] 31)) wr.heap.size 31 r.cells) := Blk.new wr _ 31
      clear hi hc hr hcr
      go_wp2_with fail
      refine HCALL.mono ?_
      rintro e w1 ⟨rfl, hb1⟩
      have HB1 : Hid (Below w.heap.size w w1) := (HI.out.2.1.trans ((below_al wr _).mono HI.out.2.1.size)).trans (hb1.mono (HI.out.2.1.trans ((below_al wr _).mono HI.out.2.1.size)).size)
      have HBS : Hid (Bs 31 5 w.heap.size w1 u5 ((l.take i).filter P).length (flat ((l.take i).filter P))) := bs_below (bs_below HI.out.2.2 (below_al wr _)) hb1
      have HA1 : Hid (Blk w1 wr.heap.size 31 r.cells) := HAB.out.below hb1 HAB.out.lt
      have d0 : w1.cell? ⟨wr.heap.size, 0, none⟩ = some (.string r.who) := HA1.out.cell rfl
      have d1 : w1.cell? ⟨wr.heap.size, 1, none⟩ = some (.string r.ch) := HA1.out.cell rfl
      have d2 : w1.cell? ⟨wr.heap.size, 2, none⟩ = some (.string r.pre) := HA1.out.cell rfl
      have d3 : w1.cell? ⟨wr.heap.size, 3, none⟩ = some (iv r.right) := HA1.out.cell rfl
      have d4 : w1.cell? ⟨wr.heap.size, 4, none⟩ = some (.bool r.deny) := HA1.out.cell rfl
      clear HCALL hb1 c0 c1 c2 c3 c4
      cases hP : P r
      · have HN : Hid ((l.take (i + 1)).filter P = (l.take i).filter P) := by show _ = _; rw [HTK.out, hP]; simp
        clear hP
        go_wp2
        refine ⟨⟨i + 1, by simp, HI2.out, HB1.out, by rw [HN.out]; exact HBS.out⟩, ?_⟩
        have := HI2.out
        simp only [intOf]
        omega
      · have HN : Hid ((l.take (i + 1)).filter P = (l.take i).filter P ++ [r]) := by show _ = _; rw [HTK.out, hP]; rfl
        obtain ⟨i0, hi0, hz0, hz1, hz2⟩ := info31
        have HI0 : Hid (Try.prog.info? 31 = some i0 ∧ i0.zero = some (.agg #[.string ⟨#[]⟩, .string ⟨#[]⟩, .string ⟨#[]⟩, .int .i64 0, .bool false]) ∧ i0.size = 5 ∧ i0.bytes ≤ 64) := ⟨hi0, hz0, hz1, hz2⟩
        clear hP hi0 hz0 hz1 hz2
        go_wp2_with (with_reducible change wpList _ _ _ ({ dst := some 20, op := _, type := _, pos := _, after := _, guard := _ } :: _) _ _; refine Hid.out ?_)
        show wpList _ _ _ _ _ _
        refine wpList_append_bs rfl (.tmp 17) (.tmp 19) 22 rfl _ 31 i0 _ 5 w.heap.size Try.underlying22 HI0.out.1 HI0.out.2.1 HI0.out.2.2.1 HI0.out.2.2.2 rfl (by omega) u5 _ (flat ((l.take i).filter P)) (bs_below HBS.out (below_al w1 _)) (some ⟨w1.heap.size, 0, none⟩) 1 1 (flat [r]) rfl rfl (rd_one w1 r) (by have := HB1.out.size; simp; omega) HLN.out ?_
        intro v5 w5 hb5 hw5
        go_wp2
        refine ⟨⟨i + 1, by simp, HI2.out, (HB1.out.trans ((below_al w1 _).mono HB1.out.size)).trans hw5.out, ?_⟩, ?_⟩
        · rw [HN.out, flat_app, List.length_append]
          exact hb5.out
        · have := HI2.out
          simp only [intOf]
          omega
#print axioms pick57_is
end Go.Proofs.Ytngkajeghmogmaa.Oct
