/-
  Layer 22 (fields): pairs that are the same; what is written is read as it was; FieldsBack.
-/
import Derived.Test.YtlbcpbibcfolkaaDoorGtl
import Derived.BigQuiet
namespace Go.Proofs.YtlbcpbibcfolkaaDoor.Oct
open Go.RowKit
set_option linter.unusedSimpArgs false
set_option linter.unusedVariables false

theorem below_dN {B : Nat} {w W : World} (h : Below B w W) (n : Nat) : Below B w (W.drewN n) := ⟨h.os, h.tape, h.output, h.size, h.block⟩
set_option maxRecDepth 100000 in
set_option maxHeartbeats 1000000 in
theorem same_same {w : World} {a a2 : Option Addr} {n cap cap2 : Nat} {l : List Pr} (h : PsR w (.slice a l.length cap) l) (h2 : PsR w (.slice a2 l.length cap2) l) (hn : l.length = n) : Calls Tryd.prog 20 #[.slice a n cap, .slice a2 n cap2] w fun e w' => e = .returned (.bool true) ∧ Below w.heap.size w w' := by
  obtain ⟨hok, a', cap', heq, hle, hcap, hr⟩ := h
  obtain ⟨hok2, a2', cap2', heq2, hle2, hcap2, hr2⟩ := h2
  have HE : Hid (l.length = n) := hn
  cases heq
  cases heq2
  have qn : (n : Int) ≤ 9223372036854775807 := by unfold maxLen at hcap; omega
  rw [hn] at hr hr2
  have HRA : Hid (0 < n → ∃ b off, a = some ⟨b, off, none⟩ ∧ b < w.heap.size ∧ ∀ i e, l[i]? = some e → w.rangeAt b (off + i * 2) e.cells) := hr
  have HRB : Hid (0 < n → ∃ b off, a2 = some ⟨b, off, none⟩ ∧ b < w.heap.size ∧ ∀ i e, l[i]? = some e → w.rangeAt b (off + i * 2) e.cells) := hr2
  clear hok hle hcap hr hok2 hle2 hcap2 hr2 hn
  go_enter Tryd.func20, Tryd.ntmps20
  go_wp2
  go_loopw [5] (fun u wr => ∃ i : Nat, u = .int .i64 (i : Int) ∧ Hid (i ≤ n) ∧ Hid (Below w.heap.size w wr)) (fun u _ => n - (intOf u).toNat)
  case atStart => exact ⟨0, rfl, Nat.zero_le _, Below.refl _ _⟩
  case round =>
    obtain ⟨i, rfl, HI, HB⟩ := hrel
    by_cases hi : i < n
    · obtain ⟨x, hx⟩ : ∃ x, l[i]? = some x := ⟨_, List.getElem?_eq_getElem (by rw [HE.out]; exact hi)⟩
      obtain ⟨g, off, rfl, hg1, hc1⟩ := HRA.out (by omega)
      obtain ⟨g2, off2, rfl, hg2, hc2⟩ := HRB.out (by omega)
      have a0 : wr.cell? ⟨g, off + i * 2, none⟩ = some (.string x.k) := (HB.out.cell (p := ⟨g, _, none⟩) hg1).trans (hc1 i x hx 0 _ rfl)
      have a1 : wr.cell? ⟨g, off + i * 2 + 1, none⟩ = some (.string x.v) := (HB.out.cell (p := ⟨g, _, none⟩) hg1).trans (hc1 i x hx 1 _ rfl)
      have b0 : wr.cell? ⟨g2, off2 + i * 2, none⟩ = some (.string x.k) := (HB.out.cell (p := ⟨g2, _, none⟩) hg2).trans (hc2 i x hx 0 _ rfl)
      have b1 : wr.cell? ⟨g2, off2 + i * 2 + 1, none⟩ = some (.string x.v) := (HB.out.cell (p := ⟨g2, _, none⟩) hg2).trans (hc2 i x hx 1 _ rfl)
      have q1 : (i : Int) < (n : Int) := by omega
      have HL : Hid (i < n) := hi
      generalize x.k = x1 at *
      generalize x.v = x2 at *
      clear hc1 hc2 hx hi hg1 hg2
      go_wp2
      go_quiet (fail)
      go_wp2
      go_roundw
      case rel => exact ⟨i + 1, by simp, HL.out, below_dN HB.out _⟩
      case measure => have := HL.out; simp [intOf]; omega
    · have q1 : ¬ (i : Int) < (n : Int) := by omega
      go_wp2
      go_ret
      exact ⟨rfl, HB.out⟩
#print axioms same_same
def toLL (p : Pr) : LL := (p.k.data.toList, p.v.data.toList)
theorem mk_to (l : List Pr) : (l.map toLL).map mkP = l := by
  rw [List.map_map]
  have : (mkP ∘ toLL) = id := by
    funext p
    rfl
  rw [this, List.map_id]
theorem esc_not (st : List UInt8) (hst : ∀ c ∈ st, plainI (c.toNat : Int) = false ∧ c ≠ 43 ∧ c ≠ 37) (b : UInt8) : ∀ c ∈ escB b, st.contains c = false := by
  intro c hc
  have := List.all_eq_true.1 (esc_bytes b) c hc
  simp only [Bool.or_eq_true, beq_iff_eq] at this
  cases hs : st.contains c with
  | false => rfl
  | true =>
    have h := hst c (by simpa using hs)
    rcases this with (h1 | h1) | h1
    · rw [h.1] at h1; cases h1
    · exact absurd h1 h.2.1
    · exact absurd h1 h.2.2
theorem upTo_escs (st : List UInt8) (hst : ∀ c ∈ st, plainI (c.toNat : Int) = false ∧ c ≠ 43 ∧ c ≠ 37) (r : List UInt8) : ∀ l : List UInt8, upTo st (escL l ++ r) = (l ++ (upTo st r).1, (escL l).length + (upTo st r).2.1, (upTo st r).2.2)
  | [] => by simp [escL]
  | b :: l => by
    have ih := upTo_escs st hst r l
    have h1 := one_esc b (escL l ++ r)
    have hl := escB_len b
    have hn := esc_not st hst b
    have e : escL (b :: l) ++ r = escB b ++ (escL l ++ r) := by show escB b ++ escL l ++ r = _; rw [List.append_assoc]
    have e2 : (escL (b :: l)).length = (escB b).length + (escL l).length := by show (escB b ++ escL l).length = _; rw [List.length_append]
    rw [e, e2]
    cases hb : escB b with
    | nil => rw [hb] at hl; simp at hl
    | cons c q =>
      rw [hb] at h1 hn
      show upTo st (c :: (q ++ (escL l ++ r))) = _
      have hd : (c :: (q ++ (escL l ++ r))).drop (c :: q).length = escL l ++ r := List.drop_left (l₁ := c :: q) (l₂ := escL l ++ r)
      rw [upTo_step (st := st) (hn c (by simp)) (show oneE (c :: (q ++ (escL l ++ r))) = _ from h1), hd, ih]
      simp only [List.cons_append, List.length_cons, Prod.mk.injEq, true_and, and_true]
      omega
theorem st2 : ∀ c ∈ ([61, 38] : List UInt8), plainI (c.toNat : Int) = false ∧ c ≠ 43 ∧ c ≠ 37 := by decide
theorem st1 : ∀ c ∈ ([38] : List UInt8), plainI (c.toNat : Int) = false ∧ c ≠ 43 ∧ c ≠ 37 := by decide
theorem pair_txt (p : Pr) (r : List UInt8) (hr : r = [] ∨ ∃ t, r = 38 :: t) : pairF (pcL p ++ r) = (toLL p, (pcL p).length, 0) := by
  have hr0 : upTo [38] r = ([], 0, 0) := by
    rcases hr with rfl | ⟨t, rfl⟩
    · rfl
    · exact upTo_stop (by rfl)
  have e : pcL p ++ r = escL p.k.data.toList ++ (61 :: (escL p.v.data.toList ++ r)) := by unfold pcL; simp
  have h1 : upTo [61, 38] (pcL p ++ r) = (p.k.data.toList, (escL p.k.data.toList).length, 0) := by
    rw [e, upTo_escs [61, 38] st2, upTo_stop (by rfl)]
    simp
  have h2 : (pcL p ++ r).drop (escL p.k.data.toList).length = 61 :: (escL p.v.data.toList ++ r) := by rw [e, List.drop_left]
  have h3 : (pcL p ++ r).drop ((escL p.k.data.toList).length + 1) = escL p.v.data.toList ++ r := by rw [← List.drop_drop, h2]; rfl
  have h4 : upTo [38] (escL p.v.data.toList ++ r) = (p.v.data.toList, (escL p.v.data.toList).length, 0) := by
    rw [upTo_escs [38] st1, hr0]
    simp
  rw [pair_ok (by rw [h1]) (by rw [h1]; simp only; rw [h2]; rfl) (by rw [h1]; simp only; rw [h3, h4])]
  rw [h1]
  simp only
  rw [h3, h4, pcL_len]
  unfold pcN toLL
  rfl
theorem rest_txt : ∀ (l : List Pr) (k : Nat), l.length ≤ k → restF k (l.flatMap fun p => 38 :: pcL p) = (l.map toLL, (l.flatMap fun p => 38 :: pcL p).length, 0)
  | [], k, _ => rest_no (by simp)
  | p :: l, 0, h => by simp at h
  | p :: l, k + 1, h => by
    have ih := rest_txt l k (by simpa using h)
    have hr : (l.flatMap fun p => 38 :: pcL p) = [] ∨ ∃ t, (l.flatMap fun p => 38 :: pcL p) = 38 :: t := by
      cases l with
      | nil => exact .inl rfl
      | cons q m => exact .inr ⟨_, rfl⟩
    have e : ((p :: l).flatMap fun p => 38 :: pcL p) = 38 :: (pcL p ++ (l.flatMap fun p => 38 :: pcL p)) := rfl
    rw [e]
    have hp := pair_txt p _ hr
    have hd1 : (38 :: (pcL p ++ (l.flatMap fun p => 38 :: pcL p))).drop 1 = pcL p ++ (l.flatMap fun p => 38 :: pcL p) := rfl
    rw [rest_step rfl (by rw [hd1, hp]), hd1, hp]
    simp only
    rw [show (38 :: (pcL p ++ (l.flatMap fun p => 38 :: pcL p))).drop (1 + (pcL p).length) = (l.flatMap fun p => 38 :: pcL p) by rw [Nat.add_comm, List.drop_succ_cons, List.drop_left], ih]
    simp only [List.map_cons, List.length_cons, List.length_append, Prod.mk.injEq, and_true, true_and]
    omega
theorem form_txt (l : List Pr) (h : l.length ≤ 64) : formF (txt l) = (l.map toLL, (txt l).length, 0) := by
  cases l with
  | nil => rfl
  | cons p l =>
    have hr : (l.flatMap fun p => 38 :: pcL p) = [] ∨ ∃ t, (l.flatMap fun p => 38 :: pcL p) = 38 :: t := by
      cases l with
      | nil => exact .inl rfl
      | cons q m => exact .inr ⟨_, rfl⟩
    have e : txt (p :: l) = pcL p ++ (l.flatMap fun p => 38 :: pcL p) := rfl
    have hp := pair_txt p _ hr
    have hne : pcL p ++ (l.flatMap fun p => 38 :: pcL p) ≠ [] := by unfold pcL; simp
    rw [e]
    unfold formF
    rw [if_neg hne, if_neg (by rw [hp]; simp), hp]
    simp only
    rw [List.drop_left, rest_txt l 63 (by simpa using h)]
    simp
theorem par_txt (l : List Pr) (h : l.length ≤ 64) (hl : (txt l).length ≤ 16384) : parF ⟨(txt l).toArray⟩ = (l.map toLL, (txt l).length, 0) := by
  unfold parF
  rw [if_neg (by show ¬ 16384 < (txt l).toArray.size; simp; omega)]
  exact form_txt l h
theorem pn_cases {l : List Pr} {v : Value} (h : PnP l v) : (l.length ≤ 64 ∧ (txt l).length ≤ 16384 ∧ v = .tuple #[.string ⟨(txt l).toArray⟩, .nilIface]) ∨ ∃ p : Nat, v = .tuple #[.string e0, .iface 58 (fl p 3)] := by
  rcases h with ⟨_, rfl⟩ | ⟨_, i, _, _, _, rfl⟩ | ⟨h1, h2, rfl⟩
  · exact .inr ⟨64, rfl⟩
  · exact .inr ⟨i, rfl⟩
  · exact .inl ⟨h1, by have := h2 l.length (Nat.le_refl _); rwa [List.take_length] at this, rfl⟩
/-- a text that was written is read as the pairs that it is of -/
theorem parse_txt (l : List Pr) (h : l.length ≤ 64) (hl : (txt l).length ≤ 16384) (T : BA) (hT : (⟨(txt l).toArray⟩ : BA) = T) (w : World) (hE : ET w) : Calls Tryd.prog 19 #[.string T] w fun e w' => ∃ a c, e = .returned (.tuple #[.slice a l.length c, .nilIface]) ∧ Hid (PsR w' (.slice a l.length c) l) ∧ Below w.heap.size w w' := by
  subst hT
  refine (parse_is ⟨(txt l).toArray⟩ (by show (txt l).toArray.size ≤ _; simp; omega) w hE).mono ?_
  intro e w' hp
  rw [par_txt l h hl] at hp
  obtain ⟨hp, hb⟩ := hp
  rcases hp with ⟨_, v, rfl, ho⟩ | ⟨h0, _⟩
  · simp only at ho
    rw [mk_to] at ho
    obtain ⟨a, c, rfl⟩ := sl_of ho
    exact ⟨a, c, rfl, ho.esr, hb⟩
  · exact absurd rfl h0
#print axioms parse_txt
end Go.Proofs.YtlbcpbibcfolkaaDoor.Oct
