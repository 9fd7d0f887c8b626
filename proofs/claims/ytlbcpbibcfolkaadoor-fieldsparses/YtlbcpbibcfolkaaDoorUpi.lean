/-
  Layer 22 (fields): escapeUpTo of the program.
-/
import Derived.Test.YtlbcpbibcfolkaaDoorUpt
import Derived.Test.YtlbcpbibcfolkaaDoorSlices
namespace Go.Proofs.YtlbcpbibcfolkaaDoor.Oct
open Go.RowKit
set_option linter.unusedSimpArgs false
set_option linter.unusedVariables false

theorem info5 : ∃ i, Tryd.prog.info? 5 = some i ∧ i.zero = some (.int .u8 0) ∧ i.size = 1 ∧ i.bytes = 1 := by
  have : (Tryd.prog.info? 5).map (fun i => (i.zero, i.size, i.bytes)) = some (some (.int .u8 0), 1, 1) := by kernel_rfl
  obtain ⟨i, h1, h2⟩ := Option.map_eq_some_iff.1 this
  injection h2 with h3 h4
  injection h4 with h4 h5
  exact ⟨i, h1, h3, h4, h5⟩
/-- what escapeUpTo answers -/
def UpP (w : World) (g : Nat) (s : BA) (p : Nat) (r : List UInt8 × Nat × Int) (e : Ending) (w' : World) : Prop :=
  (r.2.2 = 0 ∧ e = .returned (.string ⟨r.1.toArray⟩) ∧ Rd w' g s (p + r.2.1) ∧ w.grownBy w' (some g)) ∨ (r.2.2 ≠ 0 ∧ e = gvP (p + r.2.1) r.2.2 ∧ w.grownBy w' (some g))
/-- where reading stands -/
structure UI (w : World) (g : Nat) (s st : BA) (p : Nat) (v : Value) (q : Nat) (o : List UInt8) (wr : World) : Prop where
  own : Own 5 w.heap.size wr v o
  rd : Rd wr g s q
  gr : w.grownBy wr (some g)
  le : p ≤ q
  len : o.length ≤ q
  e1 : (upTo st.data.toList (s.data.toList.drop p)).1 = o ++ (upTo st.data.toList (s.data.toList.drop q)).1
  e2 : p + (upTo st.data.toList (s.data.toList.drop p)).2.1 = q + (upTo st.data.toList (s.data.toList.drop q)).2.1
  e3 : (upTo st.data.toList (s.data.toList.drop p)).2.2 = (upTo st.data.toList (s.data.toList.drop q)).2.2
theorem UI.below {w wr wr' : World} {g p q : Nat} {s st : BA} {v : Value} {o : List UInt8} (h : UI w g s st p v q o wr) (hb : Below wr.heap.size wr wr') : UI w g s st p v q o wr' :=
  ⟨h.own.below hb (Nat.le_refl _), h.rd.below hb, h.gr.trans (gr_of hb), h.le, h.len, h.e1, h.e2, h.e3⟩
def placeOf (g : Nat) (w : World) : Nat := match w.cell? ⟨g, 1, none⟩ with | some (.int _ n) => n.toNat | _ => 0
theorem Rd.place {w : World} {g p : Nat} {s : BA} (h : Rd w g s p) : placeOf g w = p := by unfold placeOf; rw [h.c1]; simp
theorem atOne_at {s st : BA} {q : Nat} {c : UInt8} {t : List UInt8} (h : s.data.toList.drop q = c :: t) : atOne s q st = st.data.toList.contains c := by
  unfold atOne
  rw [(drop_at h).1]
theorem own_gr {w w1 w2 : World} {g : Nat} {v : Value} {o : List UInt8} (h : Own 5 w.heap.size w1 v o) (k : w1.grownBy w2 (some g)) (hg : g < w.heap.size) : Own 5 w.heap.size w2 v o := by
  refine ⟨h.1, ?_⟩
  rcases h.2 with ⟨h1, h2⟩ | ⟨b, cap, cur, h1, hB, h3, h4⟩
  · exact .inl ⟨h1, h2⟩
  · refine .inr ⟨b, cap, cur, h1, hB, ?_, h4⟩
    have hb : b < w1.heap.size := lt_of_block h3
    exact (k.block b hb (by simp; omega)).trans h3
theorem own_app {w w1 w2 : World} {g : Nat} {v : Value} {o : List UInt8} (h : w.grownBy w1 (some g)) (ho : Own 5 w.heap.size w1 v o) (k : w1.grownBy w2 v.ownBlock) : w.grownBy w2 (some g) := by
  refine ⟨k.os.trans h.os, k.tape.trans h.tape, k.output.trans h.output, Nat.le_trans h.size k.size, fun j hj hn => (k.block j (Nat.lt_of_lt_of_le hj h.size) ?_).trans (h.block j hj hn)⟩
  intro e
  rcases ho.2 with ⟨rfl, _⟩ | ⟨b, _, _, rfl, hB, _⟩
  · cases e
  · have e2 : j = b := Option.some.inj e
    omega
theorem rd_app {w1 w2 : World} {g q B : Nat} {s : BA} {v : Value} {o : List UInt8} (h : Rd w1 g s q) (hg : g < B) (ho : Own 5 B w1 v o) (k : w1.grownBy w2 v.ownBlock) : Rd w2 g s q := by
  refine ⟨h.1.kept k ?_, h.2⟩
  intro e
  rcases ho.2 with ⟨rfl, _⟩ | ⟨b, _, _, rfl, hB, _⟩
  · cases e
  · have e2 : g = b := Option.some.inj e
    omega
set_option maxRecDepth 100000 in
set_option maxHeartbeats 1000000 in
theorem upTo_is {w : World} {g p : Nat} {s : BA} (h : Rd w g s p) (st : BA) : Calls Tryd.prog 28 #[.pointer (some ⟨g, 0, none⟩), .string st] w (UpP w g s p (upTo st.data.toList (s.data.toList.drop p))) := by
  have HG : Hid (g < w.heap.size ∧ s.size ≤ 140737488355328) := ⟨h.1.lt, h.2.1⟩
  have H0 : Hid (UI w g s st p (.slice none 0 0) p [] w) := ⟨⟨by simp [U], .inl ⟨rfl, rfl⟩⟩, h, World.grownBy.refl _ _, Nat.le_refl _, Nat.zero_le _, by simp, rfl, rfl⟩
  obtain ⟨i0, hi, hz0, hz1, hz2⟩ := info5
  have HI5 : Hid (Tryd.prog.info? 5 = some i0 ∧ i0.zero = some (.int .u8 0) ∧ i0.size = 1 ∧ i0.bytes = 1) := ⟨hi, hz0, hz1, hz2⟩
  clear h hi hz0 hz1 hz2
  go_enter Tryd.func28, Tryd.ntmps28
  go_wp2
  go_loopw [5] (fun u wr => ∃ (v : Value) (q : Nat) (o : List UInt8), v = u ∧ Hid (UI w g s st p v q o wr)) (fun _ wr => s.size - placeOf g wr)
  case atStart => exact ⟨_, p, [], rfl, H0.out⟩
  case round =>
    obtain ⟨v, q, o, hv, HI⟩ := hrel
    subst hv
    have HPL : Hid (placeOf g wr = q) := HI.out.rd.place
    clear H0
    have hl2 : s.data.toList.length = s.size := rfl
    cases hd : s.data.toList.drop q with
    | nil =>
      have HE : Hid (s.size ≤ q ∧ upTo st.data.toList (s.data.toList.drop q) = ([], 0, 0)) := ⟨by have := drop_nil hd; omega, by rw [hd, upTo_nil]⟩
      clear hd hl2
      go_wp2_with fail
      refine (atEnd_is HI.out.rd true ⟨fun _ => HE.out.1, fun _ => rfl⟩).mono ?_
      rintro e W1 ⟨rfl, hb1⟩
      have HJ : Hid (UI w g s st p v q o W1) := HI.out.below hb1
      obtain ⟨a, cp, rfl, hin, -⟩ := own_in HJ.out.own (by have := HJ.out.len; have := HJ.out.rd.2; omega)
      have hcv := string_in Tryd.underlying51 Tryd.underlying5 Tryd.underlying9 hin
      clear hb1 hin HI
      go_wp2
      go_ret
      refine .inl ⟨?_, ?_, ?_, HJ.out.gr⟩
      · rw [HJ.out.e3, HE.out.2]
      · rw [HJ.out.e1, HE.out.2, List.append_nil]; rfl
      · rw [HJ.out.e2, HE.out.2]; exact HJ.out.rd
    | cons c t =>
      have hlt : q < s.size := by
        rcases Nat.lt_or_ge q s.size with h | h
        · exact h
        · rw [List.drop_of_length_le (by omega)] at hd; cases hd
      have HD : Hid (s.data.toList.drop q = c :: t ∧ q < s.size) := ⟨hd, hlt⟩
      clear hd hl2 hlt
      go_wp2_with fail
      refine (atEnd_is HI.out.rd false ⟨(fun h => nomatch h), fun h => absurd h (by have := HD.out.2; omega)⟩).mono ?_
      rintro e W1 ⟨rfl, hb1⟩
      have HJ : Hid (UI w g s st p v q o W1) := HI.out.below hb1
      clear hb1 HI
      cases hs : st.data.toList.contains c with
      | true =>
        have HE : Hid (upTo st.data.toList (s.data.toList.drop q) = ([], 0, 0) ∧ atOne s q st = true) := ⟨by rw [HD.out.1, upTo_stop hs], by rw [atOne_at HD.out.1, hs]⟩
        clear hs
        go_wp2_with fail
        refine (atOne_is HJ.out.rd st true HE.out.2).mono ?_
        rintro e W2 ⟨rfl, hb2⟩
        have HK : Hid (UI w g s st p v q o W2) := HJ.out.below hb2
        obtain ⟨a, cp, rfl, hin, -⟩ := own_in HK.out.own (by have := HK.out.len; have := HK.out.rd.2; omega)
        have hcv := string_in Tryd.underlying51 Tryd.underlying5 Tryd.underlying9 hin
        clear hb2 hin HJ
        go_wp2
        go_ret
        refine .inl ⟨?_, ?_, ?_, HK.out.gr⟩
        · rw [HK.out.e3, HE.out.1]
        · rw [HK.out.e1, HE.out.1, List.append_nil]; rfl
        · rw [HK.out.e2, HE.out.1]; exact HK.out.rd
      | false =>
        have HS : Hid (st.data.toList.contains c = false ∧ atOne s q st = false) := ⟨hs, by rw [atOne_at HD.out.1, hs]⟩
        clear hs
        go_wp2_with fail
        refine (atOne_is HJ.out.rd st false HS.out.2).mono ?_
        rintro e W2 ⟨rfl, hb2⟩
        have HK : Hid (UI w g s st p v q o W2) := HJ.out.below hb2
        clear hb2 HJ
        cases ho : oneE (c :: t) with
        | inl er =>
          have HO : Hid (upTo st.data.toList (s.data.toList.drop q) = ([], 0, er) ∧ er ≠ 0 ∧ oneE (s.data.toList.drop q) = .inl er) := ⟨by rw [HD.out.1]; exact upTo_bad HS.out.1 ho, one_er ho (by simp), by rw [HD.out.1]; exact ho⟩
          clear ho
          go_wp2_with fail
          refine (escaped_is HK.out.rd HD.out.2).mono ?_
          intro e W3 he
          rw [HO.out.2.2] at he
          obtain ⟨he, hb3⟩ := he
          have HF : Hid (w.grownBy W3 (some g)) := HK.out.gr.trans (gr_of hb3)
          rw [gvP] at he
          subst he
          clear hb3
          go_wp2
          refine ⟨rfl, .inr ⟨?_, ?_, HF.out⟩⟩
          · rw [HK.out.e3, HO.out.1]; exact HO.out.2.1
          · rw [HK.out.e3, HK.out.e2, HO.out.1]; rfl
        | inr bn =>
          obtain ⟨b, n⟩ := bn
          have HO : Hid (upTo st.data.toList (s.data.toList.drop q) = (b :: (upTo st.data.toList (s.data.toList.drop (q + n))).1, n + (upTo st.data.toList (s.data.toList.drop (q + n))).2.1, (upTo st.data.toList (s.data.toList.drop (q + n))).2.2) ∧ oneE (s.data.toList.drop q) = .inr (b, n)) := ⟨by rw [← List.drop_drop, HD.out.1]; exact upTo_step HS.out.1 ho, by rw [HD.out.1]; exact ho⟩
          clear ho
          go_wp2_with fail
          refine (escaped_is HK.out.rd HD.out.2).mono ?_
          intro e W3 he
          rw [HO.out.2] at he
          obtain ⟨he, hr3, hg3, hn⟩ := he
          subst he
          have HF : Hid (Rd W3 g s (q + n) ∧ w.grownBy W3 (some g) ∧ Own 5 w.heap.size W3 v o ∧ 1 ≤ n) := ⟨hr3, HK.out.gr.trans hg3, own_gr HK.out.own hg3 HG.out.1, hn⟩
          clear hr3 hg3 hn
          obtain ⟨W4, hW4⟩ : ∃ W4, W3.alloc (.cells #[bv (b.toNat : Int)] 5) = W4 := ⟨_, rfl⟩
          have hb4 : Below W3.heap.size W3 W4 := by rw [← hW4]; exact below_al _ _
          have HH : Hid (Rd W4 g s (q + n) ∧ w.grownBy W4 (some g) ∧ W4.ownsRow w.heap.size 5 1 v o.length (U o) ∧ In W4 (some ⟨W3.heap.size, 0, none⟩) 1 1 [b] ∧ w.heap.size ≤ W4.heap.size ∧ o.length + 1 ≤ 140737488355328) := ⟨HF.out.1.below hb4, HF.out.2.1.trans (gr_of hb4), HF.out.2.2.1.below hb4 (Nat.le_refl _), by rw [← hW4]; exact in_new W3 5 [b] (by simp), Nat.le_trans HF.out.2.1.size hb4.size, by have := HK.out.len; have := HD.out.2; have := HG.out.2; omega⟩
          clear hb4
          go_wp2_with (with_reducible change wpList _ _ _ ({ dst := some 19, op := _, type := _, pos := _, after := _, guard := _ } :: _) _ _; refine Hid.out ?_)
          show wpList _ _ _ _ _ _
          refine wpList_append_in _ rfl (.tmp 15) (.tmp 18) 51 rfl w.heap.size 5 i0 Tryd.underlying51 HI5.out.1 HI5.out.2.1 HI5.out.2.2.1 HI5.out.2.2.2 v o o.length rfl rfl HH.out.2.2.1 (some ⟨W3.heap.size, 0, none⟩) 1 1 [b] rfl HH.out.2.2.2.1 HH.out.2.2.2.2.2 HH.out.2.2.2.2.1 ?_
          intro v5 W5 ho5 hg5
          have HU : Hid (UI w g s st p v5 (q + n) (o ++ [b]) W5) := ⟨ho5, rd_app HH.out.1 HG.out.1 HH.out.2.2.1 hg5, own_app HH.out.2.1 HH.out.2.2.1 hg5, by have := HK.out.le; omega, by have := HK.out.len; have := HF.out.2.2.2; simp; omega, by rw [HK.out.e1, HO.out.1, List.append_assoc]; rfl, by rw [HK.out.e2, HO.out.1]; simp only; omega, by rw [HK.out.e3, HO.out.1]⟩
          have HM : Hid (s.size - placeOf g W5 < s.size - placeOf g wr) := by show _ < _; rw [HU.out.rd.place, HPL.out]; have := HF.out.2.2.2; have := HD.out.2; omega
          clear ho5 hg5
          go_wp2
          go_roundw
          case rel => exact ⟨_, q + n, o ++ [b], rfl, HU.out⟩
          case measure => exact HM.out
#print axioms upTo_is
end Go.Proofs.YtlbcpbibcfolkaaDoor.Oct
