/-
  Layer 1 (octet): a reader's Uint, Text and Byte tell what stands at its place, or the first thing that is wrong, and go over what they read.
-/
import Derived.Test.YtdealgbbahmigaaNum
namespace Go.Proofs.Ytdealgbbahmigaa.Oct
open Go.RowKit

section
variable {B r g cap k : Nat} {l : List UInt8} {w : World}

theorem grownTrans {w w1 w2 : World} {row : Option Nat} (h : w.grownBy w1 row) (k : w1.grownBy w2 row) : w.grownBy w2 row :=
  ⟨k.os.trans h.os, k.tape.trans h.tape, k.output.trans h.output, Nat.le_trans h.size k.size, fun b hb hne => (k.block b (Nat.lt_of_lt_of_le hb h.size) hne).trans (h.block b hb hne)⟩

theorem RdAt.keeps {w' : World} (h : RdAt B w r g cap l k) (hg : w.grownBy w' (some r)) : Below B w w' :=
  (Below.refl _ _).grown hg (Nat.le_trans h.hr (Nat.le_of_lt (lt_of_block h.blk))) (by intro b hb; simp at hb; have := h.hr; omega)

theorem RdAt.draw (h : RdAt B w r g cap l k) (n : Nat) : RdAt B (w.drewN n) r g cap l k ∧ w.grownBy (w.drewN n) (some r) := ⟨h.drewN n, rfl, rfl, rfl, Nat.le_refl _, fun _ _ _ => rfl⟩

theorem number_rdG (h : RdAt B w r g cap l k) : Calls Try.prog 26 #[.pointer (some ⟨r, 0, none⟩)] w fun e w' =>
    e = .returned (.tuple #[.int .u64 ((dec (l.drop k)).1 : Int), .int .i64 ((dec (l.drop k)).2.1 : Int), .int .i64 ((dec (l.drop k)).2.2 : Int)]) ∧ RdAt B w' r g cap l k ∧ w.grownBy w' (some r) := by
  refine (number_is h).mono ?_
  rintro e w' ⟨rfl, n, rfl⟩
  exact ⟨rfl, h.draw n⟩

theorem left_rdG (h : RdAt B w r g cap l k) : Calls Try.prog 28 #[.pointer (some ⟨r, 0, none⟩)] w fun e w' => e = .returned (.int .i64 ((l.length : Int) - (k : Int))) ∧ RdAt B w' r g cap l k ∧ w.grownBy w' (some r) := by
  refine (left_is r k _ cap _ _ h.c0 h.c1 h.at_ h.len).mono ?_
  rintro e w' ⟨rfl, n, rfl⟩
  exact ⟨rfl, h.draw n⟩

theorem take_rdG (n : Nat) (h : RdAt B w r g cap l k) (hn : k + n ≤ l.length) : Calls Try.prog 27 #[.pointer (some ⟨r, 0, none⟩), .int .i64 (n : Int)] w fun e w' =>
    (∃ o, e = .returned (.slice (some ⟨g, o, none⟩) n (cap - k)) ∧ (0 < n → o = k)) ∧ RdAt B w' r g cap l (k + n) ∧ w.grownBy w' (some r) := by
  refine (take_is r k n g _ cap _ h.c0 h.c1 h.f1 hn h.capLe.1 h.len).mono ?_
  rintro e w' ⟨ho, m, rfl⟩
  refine ⟨ho, ?_, ⟨rfl, rfl, rfl, by simp [World.setCell], fun b _ hne => Below.heap_setCell w ⟨r, 1, none⟩ _ b (fun e => hne (by rw [e]))⟩⟩
  have := (h.moved (k + n) hn).drewN m
  rwa [Int.natCast_add] at this

theorem dec_used (b : List UInt8) : (dec b).2.1 ≤ b.length := by
  rcases dec_err b with h | h | h
  · have := dec_form (l := b) (m := (dec b).1) (k := (dec b).2.1) (by rw [← h])
    exact this.2.2.2
  · rw [h]; exact Nat.zero_le _
  · rw [h]; exact Nat.zero_le _

set_option maxHeartbeats 400000 in
theorem uint_isG (h : RdAt B w r g cap l k) : Calls Try.prog 15 #[.pointer (some ⟨r, 0, none⟩)] w fun e w' =>
    e = .returned (.tuple #[.int .u64 ((dec (l.drop k)).1 : Int), .int .i64 ((dec (l.drop k)).2.2 : Int)]) ∧ RdAt B w' r g cap l (k + (dec (l.drop k)).2.1) ∧ w.grownBy w' (some r) := by
  have H : Hid (RdAt B w r g cap l k) := h
  have HU : Hid (k + (dec (l.drop k)).2.1 ≤ l.length) := by have := dec_used (l.drop k); have := h.at_; simp at *; show _ ≤ _; omega
  clear h
  rcases dec_err (l.drop k) with he | he | he
  · generalize hD : dec (l.drop k) = D at *
    obtain ⟨n, s, e⟩ := D
    simp only at he HU ⊢
    subst he
    have HDD : Hid (dec (l.drop k) = (n, s, 0)) := hD
    clear hD
    go_enter Try.func15, Try.ntmps15
    go_wp2_with (first | (go_at_call 25; refine (isMade_is r true _ H.out.c2).mono ?_; rintro e w' ⟨rfl, rfl⟩))
    refine (number_rdG H.out).mono ?_
    rw [HDD.out]
    rintro e w1 ⟨rfl, h1, hb1⟩
    have H1 : Hid (RdAt B w1 r g cap l k) := h1
    clear h1
    go_wp2_with fail
    refine (take_rdG s H1.out HU.out).mono ?_
    rintro e w2 ⟨⟨o, rfl, _⟩, h2, hb2⟩
    have H2 : Hid (RdAt B w2 r g cap l (k + s)) := h2
    clear h2
    go_wp2
    go_ret2
    exact ⟨rfl, H2.out, grownTrans hb1 hb2⟩
  · rw [he]
    have HDD : Hid (dec (l.drop k) = (0, 0, 10)) := he
    clear he
    go_enter Try.func15, Try.ntmps15
    go_wp2_with (first | (go_at_call 25; refine (isMade_is r true _ H.out.c2).mono ?_; rintro e w' ⟨rfl, rfl⟩))
    refine (number_rdG H.out).mono ?_
    rw [HDD.out]
    rintro e w1 ⟨rfl, h1, hb1⟩
    have H1 : Hid (RdAt B w1 r g cap l k) := h1
    clear h1
    go_wp2
    go_ret2
    exact ⟨rfl, H1.out, hb1⟩
  · rw [he]
    have HDD : Hid (dec (l.drop k) = (0, 0, 11)) := he
    clear he
    go_enter Try.func15, Try.ntmps15
    go_wp2_with (first | (go_at_call 25; refine (isMade_is r true _ H.out.c2).mono ?_; rintro e w' ⟨rfl, rfl⟩))
    refine (number_rdG H.out).mono ?_
    rw [HDD.out]
    rintro e w1 ⟨rfl, h1, hb1⟩
    have H1 : Hid (RdAt B w1 r g cap l k) := h1
    clear h1
    go_wp2
    go_ret2
    exact ⟨rfl, H1.out, hb1⟩

set_option maxHeartbeats 400000 in
theorem byte_endG (h : RdAt B w r g cap l k) (hk : k = l.length) : Calls Try.prog 19 #[.pointer (some ⟨r, 0, none⟩)] w fun e w' =>
    e = .returned (.tuple #[.int .u8 0, .int .i64 10]) ∧ RdAt B w' r g cap l k ∧ w.grownBy w' (some r) := by
  have H : Hid (RdAt B w r g cap l k) := h
  have q : (((l.length : Int) - (k : Int)) == 0) = true := by rw [beq_iff_eq]; omega
  clear h hk
  go_enter Try.func19, Try.ntmps19
  go_wp2_with (first | (go_at_call 25; refine (isMade_is r true _ H.out.c2).mono ?_; rintro e w' ⟨rfl, rfl⟩))
  refine (left_rdG H.out).mono ?_
  rintro e w1 ⟨rfl, h1, hb1⟩
  have H1 : Hid (RdAt B w1 r g cap l k) := h1
  clear h1
  go_wp2
  go_ret2
  exact ⟨rfl, H1.out, hb1⟩

set_option maxHeartbeats 400000 in
theorem byte_isG (h : RdAt B w r g cap l k) (hk : k < l.length) (c : Nat) (hc : c = l[k].toNat) : Calls Try.prog 19 #[.pointer (some ⟨r, 0, none⟩)] w fun e w' =>
    e = .returned (.tuple #[.int .u8 (c : Int), .int .i64 0]) ∧ RdAt B w' r g cap l (k + 1) ∧ w.grownBy w' (some r) := by
  have H : Hid (RdAt B w r g cap l k) := h
  have q : (((l.length : Int) - (k : Int)) == 0) = false := by rw [beq_eq_false_iff_ne]; omega
  have HK : Hid (k < l.length) := hk
  have HC : Hid (c = l[k].toNat) := hc
  clear h hc
  go_enter Try.func19, Try.ntmps19
  go_wp2_with (first | (go_at_call 25; refine (isMade_is r true _ H.out.c2).mono ?_; rintro e w' ⟨rfl, rfl⟩))
  refine (left_rdG H.out).mono ?_
  rintro e w1 ⟨rfl, h1, hb1⟩
  have H1 : Hid (RdAt B w1 r g cap l k) := h1
  clear h1
  go_wp2_with fail
  refine (take_rdG 1 H1.out HK.out).mono ?_
  rintro e w2 ⟨⟨o, rfl, ho⟩, h2, hb2⟩
  obtain rfl := ho (by omega)
  have hcell : w2.cell? ⟨g, o, none⟩ = some (.int .u8 (c : Int)) := by rw [HC.out]; exact h2.byte _ HK.out
  have H2 : Hid (RdAt B w2 r g cap l (o + 1)) := h2
  clear h2 ho
  go_wp2
  go_ret2
  exact ⟨rfl, H2.out, grownTrans hb1 hb2⟩

/-- a text at the beginning of bytes: (its bytes, how many bytes it takes, the error) -/
def txt (b : List UInt8) (most : Int) : List UInt8 × Nat × Nat :=
  if (dec b).2.2 ≠ 0 then ([], 0, (dec b).2.2)
  else if most.toNat < (dec b).1 then ([], 0, 3)
  else if b.length - (dec b).2.1 < (dec b).1 then ([], 0, 10)
  else ((b.drop (dec b).2.1).take (dec b).1, (dec b).2.1 + (dec b).1, 0)

theorem string_part {P : Program} {e t9 t22 : TypeId} (h22 : P.underlying t22 = some (.slice e)) (h5 : P.underlying e = some (.int .u8)) (h9 : P.underlying t9 = some .string)
    {w : World} {g o cp : Nat} (l : List UInt8) (h : ∀ j (hj : j < l.length), w.cell? ⟨g, o + j, none⟩ = some (.int .u8 (l[j].toNat : Int))) :
    (convert t22 t9 (.slice (some ⟨g, o, none⟩) l.length cp)).run P w = .ok (.string ⟨l.toArray⟩) w := by
  refine run_convert_bytes_back w t22 t9 e ⟨g, o, none⟩ cp l h22 h5 h9 fun j hj => ?_
  rw [Addr.add_lit, h j hj]

set_option maxHeartbeats 800000 in
theorem text_isG (most : Int) (hm0 : -9223372036854775808 ≤ most) (hm1 : most ≤ 9223372036854775807) (h : RdAt B w r g cap l k) : Calls Try.prog 17 #[.pointer (some ⟨r, 0, none⟩), .int .i64 most] w fun e w' =>
    e = .returned (.tuple #[.string ⟨(txt (l.drop k) most).1.toArray⟩, .int .i64 ((txt (l.drop k) most).2.2 : Int)]) ∧ RdAt B w' r g cap l (k + (txt (l.drop k) most).2.1) ∧ w.grownBy w' (some r) := by
  have H : Hid (RdAt B w r g cap l k) := h
  have hkl := h.at_
  have hll := h.len
  clear h
  have hu := dec_used (l.drop k)
  have hn := dec_lt (l.drop k)
  rcases dec_err (l.drop k) with he | he | he
  · unfold txt
    rw [if_neg (by omega)]
    generalize hD : dec (l.drop k) = D at *
    obtain ⟨n, s, e⟩ := D
    simp only [List.length_drop] at he hu hn ⊢
    subst he
    have HDD : Hid (dec (l.drop k) = (n, s, 0)) := hD
    clear hD
    go_enter Try.func17, Try.ntmps17
    go_wp2_with (first | (go_at_call 25; refine (isMade_is r true _ H.out.c2).mono ?_; rintro e w' ⟨rfl, rfl⟩))
    refine (number_rdG H.out).mono ?_
    rw [HDD.out]
    rintro e w1 ⟨rfl, h1, hb1⟩
    have H1 : Hid (RdAt B w1 r g cap l k) := h1
    clear h1
    go_wp2_with fail
    · go_ret2
      exact ⟨rfl, H1.out, hb1⟩
    · refine (left_rdG H1.out).mono ?_
      rintro e w2 ⟨rfl, h2, hb2⟩
      have H2 : Hid (RdAt B w2 r g cap l k) := h2
      clear h2
      go_wp2_with fail
      · go_ret2
        exact ⟨rfl, H2.out, grownTrans hb1 hb2⟩
      · have hfit : k + s + n ≤ l.length := by omega
        refine (take_rdG s H2.out (by omega)).mono ?_
        rintro e w3 ⟨⟨o, rfl, _⟩, h3, hb3⟩
        have H3 : Hid (RdAt B w3 r g cap l (k + s)) := h3
        clear h3
        go_wp2_with fail
        refine (take_rdG n H3.out hfit).mono ?_
        rintro e w4 ⟨⟨o', rfl, ho⟩, h4, hb4⟩
        have hstr : (convert 22 9 (.slice (some ⟨g, o', none⟩) n (cap - (k + s)))).run Try.prog w4 = .ok (.string ⟨(((l.drop k).drop s).take n).toArray⟩) w4 := by
          have hlen : (((l.drop k).drop s).take n).length = n := by simp; omega
          have e := string_part (w := w4) (g := g) (o := o') (cp := cap - (k + s)) Try.underlying22 Try.underlying5 Try.underlying9 (((l.drop k).drop s).take n) (by
            intro j hj
            rw [hlen] at hj
            rw [ho (by omega), h4.byte (k + s + j) (by omega)]
            simp [Nat.add_assoc])
          rw [hlen] at e
          exact e
        have H4 : Hid (RdAt B w4 r g cap l (k + s + n)) := h4
        clear h4 ho
        go_wp2_with fail
        go_ret2
        exact ⟨rfl, by rw [← Nat.add_assoc]; exact H4.out, grownTrans (grownTrans (grownTrans hb1 hb2) hb3) hb4⟩
  · unfold txt
    rw [he, if_pos (by decide)]
    have HDD : Hid (dec (l.drop k) = (0, 0, 10)) := he
    clear he hu hn
    go_enter Try.func17, Try.ntmps17
    go_wp2_with (first | (go_at_call 25; refine (isMade_is r true _ H.out.c2).mono ?_; rintro e w' ⟨rfl, rfl⟩))
    refine (number_rdG H.out).mono ?_
    rw [HDD.out]
    rintro e w1 ⟨rfl, h1, hb1⟩
    have H1 : Hid (RdAt B w1 r g cap l k) := h1
    clear h1
    go_wp2
    go_ret2
    exact ⟨rfl, H1.out, hb1⟩
  · unfold txt
    rw [he, if_pos (by decide)]
    have HDD : Hid (dec (l.drop k) = (0, 0, 11)) := he
    clear he hu hn
    go_enter Try.func17, Try.ntmps17
    go_wp2_with (first | (go_at_call 25; refine (isMade_is r true _ H.out.c2).mono ?_; rintro e w' ⟨rfl, rfl⟩))
    refine (number_rdG H.out).mono ?_
    rw [HDD.out]
    rintro e w1 ⟨rfl, h1, hb1⟩
    have H1 : Hid (RdAt B w1 r g cap l k) := h1
    clear h1
    go_wp2
    go_ret2
    exact ⟨rfl, H1.out, hb1⟩

theorem uint_is (h : RdAt B w r g cap l k) : Calls Try.prog 15 #[.pointer (some ⟨r, 0, none⟩)] w fun e w' =>
    e = .returned (.tuple #[.int .u64 ((dec (l.drop k)).1 : Int), .int .i64 ((dec (l.drop k)).2.2 : Int)]) ∧ RdAt B w' r g cap l (k + (dec (l.drop k)).2.1) ∧ Below B w w' :=
  (uint_isG h).mono fun _ _ ⟨h1, h2, h3⟩ => ⟨h1, h2, h.keeps h3⟩
theorem text_is (most : Int) (hm0 : -9223372036854775808 ≤ most) (hm1 : most ≤ 9223372036854775807) (h : RdAt B w r g cap l k) : Calls Try.prog 17 #[.pointer (some ⟨r, 0, none⟩), .int .i64 most] w fun e w' =>
    e = .returned (.tuple #[.string ⟨(txt (l.drop k) most).1.toArray⟩, .int .i64 ((txt (l.drop k) most).2.2 : Int)]) ∧ RdAt B w' r g cap l (k + (txt (l.drop k) most).2.1) ∧ Below B w w' :=
  (text_isG most hm0 hm1 h).mono fun _ _ ⟨h1, h2, h3⟩ => ⟨h1, h2, h.keeps h3⟩
end

#print axioms uint_is
end Go.Proofs.Ytdealgbbahmigaa.Oct
