/-
  Layer 7 (tree): the reference's 'Same' of two lists that are the same; 'told' of a map that no call made; the statements' 'lives'.
-/
import Derived.Test.YtnagknlfboadkaaTold
namespace Go.Proofs.Ytnagknlfboadkaa.Oct
open Go.RowKit Go.Shelf
attribute [local go_sem] Oper.semAt_some

set_option maxRecDepth 100000 in
theorem same_is (w : World) (g off c g2 off2 c2 n : Nat) (ps : List Pr) (h : RdP w (some ⟨g, off, none⟩) n ps) (h2 : RdP w (some ⟨g2, off2, none⟩) n ps) (hn : n ≤ 1000000) :
    Calls Try.prog 12 #[.slice (some ⟨g, off, none⟩) n c, .slice (some ⟨g2, off2, none⟩) n c2] w fun e w' => e = .returned (.bool true) ∧ Below w.heap.size w w' := by
  have HR : Hid (RdP w (some ⟨g, off, none⟩) n ps ∧ RdP w (some ⟨g2, off2, none⟩) n ps ∧ n ≤ 1000000) := ⟨h, h2, hn⟩
  clear h h2 hn
  go_enter Try.func12, Try.ntmps12
  go_wp2
  go_loopw [5] (fun u wr => ∃ i : Nat, u = .int .i64 (i : Int) ∧ Hid (i ≤ n) ∧ Hid (Below w.heap.size w wr)) (fun u _ => n - (intOf u).toNat)
  case atStart => exact ⟨0, rfl, Nat.zero_le _, Below.refl _ _⟩
  case round =>
    obtain ⟨i, rfl, HI, HB⟩ := hrel
    by_cases hi : i < n
    · obtain ⟨x, hx⟩ : ∃ x, ps[i]? = some x := ⟨_, List.getElem?_eq_getElem (by rw [HR.out.1.1]; exact hi)⟩
      obtain ⟨_, _, e1, hg1, hc1⟩ := HR.out.1.2 (by omega)
      cases e1
      obtain ⟨_, _, e2, hg2, hc2⟩ := HR.out.2.1.2 (by omega)
      cases e2
      have a0 : wr.cell? ⟨g, off + i * 2, none⟩ = some (.string x.1) := (HB.out.cell (p := ⟨g, _, none⟩) hg1.lt).trans (hc1 i x hx).1
      have a1 : wr.cell? ⟨g, off + i * 2 + 1, none⟩ = some (.string x.2) := (HB.out.cell (p := ⟨g, _, none⟩) hg1.lt).trans (hc1 i x hx).2
      have b0 : wr.cell? ⟨g2, off2 + i * 2, none⟩ = some (.string x.1) := (HB.out.cell (p := ⟨g2, _, none⟩) hg2.lt).trans (hc2 i x hx).1
      have b1 : wr.cell? ⟨g2, off2 + i * 2 + 1, none⟩ = some (.string x.2) := (HB.out.cell (p := ⟨g2, _, none⟩) hg2.lt).trans (hc2 i x hx).2
      have q1 : (i : Int) < (n : Int) := by omega
      have q2 : (n : Int) ≤ 1000000 := by have := HR.out.2.2; omega
      have HL : Hid (i < n) := hi
      generalize x.1 = x1 at *
      generalize x.2 = x2 at *
      clear hc1 hc2 hx hi hg1 hg2
      go_wp2
      go_quiet (fail)
      go_wp2
      go_roundw
      case rel => exact ⟨i + 1, by simp, HL.out, below_drewN HB.out _⟩
      case measure => have := HL.out; simp [intOf]; omega
    · have q1 : ¬ (i : Int) < (n : Int) := by omega
      go_wp2
      go_ret
      exact ⟨rfl, HB.out⟩
#print axioms same_is

set_option maxRecDepth 100000 in
set_option maxHeartbeats 2000000 in
theorem told_none (w : World) (p : Option Addr) (key til : ByteArray) (hsc : ∀ W, Below w.heap.size w W → Calls Try.prog 17 #[.pointer p, .string key, .string til] W fun e w' => e = .returned (.func (.func 27) #[] #[]) ∧ Below W.heap.size W w') :
    Calls Try.prog 13 #[.pointer p, .string key, .string til] w fun e w' => e = .returned (.slice none 0 0) ∧ Hid (Below w.heap.size w w') := by
  have HSC : Hid (∀ W, Below w.heap.size w W → Calls Try.prog 17 #[.pointer p, .string key, .string til] W fun e w' => e = .returned (.func (.func 27) #[] #[]) ∧ Below W.heap.size W w') := hsc
  clear hsc
  refine (callsIn_wide (n := 3)).1 ?_
  refine callsIn_of_wp_marks Try.func13 rfl trivial ?_ rfl
  simp only [Try.ntmps13, List.size_toArray, List.length_cons, List.length_nil, Nat.reduceAdd, Nat.reduceSub, Array.replicate_succ, Array.replicate_zero, List.push_toArray, List.append_toArray, List.nil_append, List.cons_append]
  have HB0 : Hid (Below w.heap.size w (w.alloc (.cells #[.slice none 0 0] 27))) := (Below.refl _ w).alloc (Nat.le_refl _) _
  have nn := not_nil27
  gi_wp2_with (refine ⟨trivial, ?_⟩; gi_at_call 17; refine (callsIn_wide.2 (HSC.out _ HB0.out)).mono ?_; rintro e w1 ⟨rfl, hB1⟩; have HB1 := hB1; clear hB1)
  have hb1 : w1.heap[w.heap.size]? = some (.cells #[.slice none 0 0] 27) := (HB1.block _ (by simp)).trans (World.alloc_heap_new w _)
  have hB1 : Below w.heap.size w w1 := HB0.out.trans (HB1.mono (by simp))
  have hS1 : w.heap.size < w1.heap.size := lt_of_block hb1
  refine rangeLeave (X := Empty) (gf := 27) (lb := #[]) rfl (enters_of Try.func27 (by kernel_rfl) rfl) (fun _ x => x.elim) (fun _ x => x.elim) []
    (fun _ A => Below w.heap.size w A ∧ A.heap[w.heap.size]? = some (.cells #[.slice none 0 0] 27)) (fun _ _ => False) (fun t A B h hb => ⟨h.1.trans (hb.below.mono (by omega)), (hb.below.block _ (by omega)).trans h.2⟩) (fun _ _ _ h _ => h) ⟨hB1, hb1⟩ (fun _ x => x.elim) (fun _ x => x.elim) (fun _ x => x.elim) ?iter ?done ?stop
  case iter =>
    intro J' Jx' A hS hB hJ'b hJx'b hJ'I hJ'X hY' h0'
    refine (nothing_in _ _ A).mono ?_
    rintro e B ⟨h, rfl⟩
    exact ⟨h, .inl h0'⟩
  case done =>
    rintro A ⟨h1, h2⟩ hK
    have cv := cell_one h2
    have HK : Hid (A.heap[w1.heap.size]? = some (.deferred (some []))) := hK
    have HA : Hid (Below w.heap.size w A) := h1
    clear h1 h2 hK
    gi_wp2
    refine ⟨by simp, .inl ⟨_, _, rfl, run_takeDeferred HK.out, ?_⟩⟩
    exact ⟨_, results_tmp rfl _ _ _, rfl, HA.out.trans (below_putObj _ A _ _ (by omega))⟩
  case stop => rintro c A h; exact h.elim
#print axioms told_none

def sA : ByteArray := ⟨#[97]⟩
def sB : ByteArray := ⟨#[98]⟩
def s1 : ByteArray := ⟨#[49]⟩
def s2 : ByteArray := ⟨#[50]⟩
def s3 : ByteArray := ⟨#[51]⟩
theorem toList_is (s : ByteArray) : s.toList = s.data.toList := ByteArray.toList_eq s
theorem lA : sA.toList = [97] := toList_is _
theorem lB : sB.toList = [98] := toList_is _
theorem l0 : (⟨#[]⟩ : ByteArray).toList = [] := toList_is _
theorem geBA : geS sB sA = true := by rw [geS, lA, lB]; decide
theorem geAA : geS sA sA = true := by rw [geS, lA]; decide
theorem geAB : geS sA sB = false := by rw [geS, lA, lB]; decide
theorem geBB : geS sB sB = true := by rw [geS, lB]; decide
theorem geA0 : geS sA ⟨#[]⟩ = true := by rw [geS, lA, l0]; decide
theorem geB0 : geS sB ⟨#[]⟩ = true := by rw [geS, lB, l0]; decide
theorem mono_all {ps : List Pr} {key : ByteArray} (h : ∀ x ∈ ps, geS x.1 key = true) : Mono ps key := fun _ _ _ y _ _ hj _ => h y (List.mem_of_getElem? hj)
theorem at_all {ps : List Pr} {key : ByteArray} (h : ∀ x ∈ ps, geS x.1 key = true) : AtP ps key 0 := ⟨Nat.zero_le _, fun i x hi _ => absurd hi (by omega), fun i x _ hx => h x (List.mem_of_getElem? hx)⟩
theorem all1 : ∀ x ∈ [(sB, s1)], geS x.1 sA = true := by
  intro x hx
  rw [List.mem_singleton.1 hx]; exact geBA
theorem all2 (v : ByteArray) : ∀ x ∈ [(sA, v), (sB, s1)], geS x.1 sA = true := by
  intro x hx
  rcases List.mem_cons.1 hx with rfl | hx
  · exact geAA
  · rw [List.mem_singleton.1 hx]; exact geBA
theorem all0 (v : ByteArray) : ∀ x ∈ [(sA, v), (sB, s1)], geS x.1 ⟨#[]⟩ = true := by
  intro x hx
  rcases List.mem_cons.1 hx with rfl | hx
  · exact geA0
  · rw [List.mem_singleton.1 hx]; exact geB0
theorem ne_BA : (sB.toList == sA.toList) = false := by rw [lA, lB]; decide
theorem eq_AA : (sA.toList == sA.toList) = true := by rw [lA]; decide
theorem putp2 : putP [(sB, s1)] (sA, s2) 0 = [(sA, s2), (sB, s1)] := by
  have : isP [(sB, s1)] sA 0 = false := ne_BA
  simp [putP, this]
theorem putp3 : putP [(sA, s2), (sB, s1)] (sA, s3) 0 = [(sA, s3), (sB, s1)] := by
  have : isP [(sA, s2), (sB, s1)] sA 0 = true := eq_AA
  simp [putP, this]
theorem scan3 : scanP [(sA, s3), (sB, s1)] 0 sB = [(sA, s3)] := by
  have e : sB.toList.isEmpty = false := by rw [lB]; rfl
  have h1 : okS sB (sA, s3) = true := by simp [okS, e, geAB]
  have h2 : okS sB (sB, s1) = false := by simp [okS, e, geBB]
  simp [scanP, h1, h2]

theorem put1 (w : World) (m : Nat) (h : Mp w m (.pointer none) 0) : Calls Try.prog 19 #[.pointer (some ⟨m, 0, none⟩), .string ⟨#[98]⟩, .string ⟨#[49]⟩] w fun e w' => e = .returned (.bool false) ∧ Hid (Putd w w' m 1 [(sB, s1)]) := by
  refine (mput_nil w m (sB, s1) h).mono ?_
  rintro e w' ⟨nd, g, rfl, h1, h2, h3⟩
  exact ⟨rfl, nd, g, 1, 1, h1, h2, h3.out.1, h3.out.2, Nat.le_refl _⟩
theorem put2 (w0 w : World) (m : Nat) (h : Putd w0 w m 1 [(sB, s1)]) : Calls Try.prog 19 #[.pointer (some ⟨m, 0, none⟩), .string ⟨#[97]⟩, .string ⟨#[50]⟩] w fun e w' => e = .returned (.bool false) ∧ Hid (Putd w w' m 2 [(sA, s2), (sB, s1)]) := by
  obtain ⟨nd, g, cap, N, h1, h2, h3, h4, h5⟩ := h
  have hN : N = 1 := h2.rd.1.symm
  subst hN
  refine (mput_leaf w m nd g 0 1 cap 1 _ (sA, s2) h1 h2 (mono_all all1) (by omega) h5 (by omega) false 0 (at_all all1) ne_BA).mono ?_
  rintro e w' ⟨rfl, h6⟩
  rw [putp2] at h6
  exact ⟨rfl, h6⟩
theorem put3 (w0 w : World) (m : Nat) (h : Putd w0 w m 2 [(sA, s2), (sB, s1)]) : Calls Try.prog 19 #[.pointer (some ⟨m, 0, none⟩), .string ⟨#[97]⟩, .string ⟨#[51]⟩] w fun e w' => e = .returned (.bool true) ∧ Hid (Putd w w' m 2 [(sA, s3), (sB, s1)]) := by
  obtain ⟨nd, g, cap, N, h1, h2, h3, h4, h5⟩ := h
  have hN : N = 2 := h2.rd.1.symm
  subst hN
  refine (mput_leaf w m nd g 0 2 cap 2 _ (sA, s3) h1 h2 (mono_all (all2 s2)) (by omega) h5 (by omega) true 0 (at_all (all2 s2)) eq_AA).mono ?_
  rintro e w' ⟨rfl, h6⟩
  rw [putp3] at h6
  exact ⟨rfl, h6⟩
theorem len3 (w0 w : World) (m c : Nat) (ps : List Pr) (h : Putd w0 w m c ps) : Calls Try.prog 15 #[.pointer (some ⟨m, 0, none⟩)] w fun e w' => e = .returned (.int .i64 (c : Int)) ∧ w = w' := by
  obtain ⟨nd, g, cap, N, h1, h2, h3, h4, h5⟩ := h
  exact len_is w m _ c h1
theorem depth3 (w0 w : World) (m c : Nat) (ps : List Pr) (h : Putd w0 w m c ps) : Calls Try.prog 20 #[.pointer (some ⟨m, 0, none⟩)] w fun e w' => e = .returned (.int .i64 1) ∧ w = w' := by
  obtain ⟨nd, g, cap, N, h1, h2, h3, h4, h5⟩ := h
  exact depth_is w m nd c h1 (h2.blk.cell (i := 1) rfl)
theorem Putd.keep {w0 w w' : World} {m c : Nat} {ps : List Pr} (h : Putd w0 w m c ps) (hb : Below w.heap.size w w') : Putd w0 w' m c ps := by
  obtain ⟨nd, g, cap, N, h1, h2, h3, h4, h5⟩ := h
  exact ⟨nd, g, cap, N, h1.keep hb (Nat.le_refl _), h2.below hb (Nat.le_refl _), grown_tr h3 (below_grown hb _), h4, h5⟩
theorem get3 (w0 w : World) (m : Nat) (h : Putd w0 w m 2 [(sA, s3), (sB, s1)]) : Calls Try.prog 21 #[.pointer (some ⟨m, 0, none⟩), .string ⟨#[97]⟩] w fun e w' => e = .returned (.tuple #[.string ⟨#[51]⟩, .bool true]) ∧ Hid (Below w.heap.size w w') := by
  obtain ⟨nd, g, cap, N, h1, h2, h3, h4, h5⟩ := h
  have hN : N = 2 := h2.rd.1.symm
  subst hN
  refine (mget_is w m nd _ 2 cap 2 _ sA h1 h2 (mono_all (all2 s3)) (by omega)).mono ?_
  rintro e w' ⟨k, rfl, h6, h7⟩
  obtain rfl : k = 0 := h6.out.uniq (at_all (all2 s3))
  have e : isP [(sA, s3), (sB, s1)] sA 0 = true := eq_AA
  have e2 : valP [(sA, s3), (sB, s1)] sA 0 = s3 := by simp [valP, e]
  rw [e, e2]
  exact ⟨rfl, h7⟩
theorem told3 (w0 w : World) (m : Nat) (h : Putd w0 w m 2 [(sA, s3), (sB, s1)]) : Calls Try.prog 13 #[.pointer (some ⟨m, 0, none⟩), .string ⟨#[]⟩, .string ⟨#[98]⟩] w fun e w' => ∃ g cap, e = .returned (.slice (some ⟨g, 0, none⟩) 1 cap) ∧ Hid (RdP w' (some ⟨g, 0, none⟩) 1 [(sA, s3)]) ∧ Hid (Below w.heap.size w w') := by
  obtain ⟨nd, g, cap, N, h1, h2, h3, h4, h5⟩ := h
  have hN : N = 2 := h2.rd.1.symm
  subst hN
  refine (told_yes w m nd 2 cap 2 _ _ ⟨#[]⟩ sB 0 h1 h2 (by omega) (mono_all (all0 s3)) (at_all (all0 s3))).mono ?_
  rintro e w' ⟨v, rfl, h6, h7⟩
  rw [scan3] at h6
  obtain ⟨g', cap', rfl, h8, _⟩ := own_rd h6.out (by simp)
  exact ⟨g', cap', rfl, h8, h7⟩
#print axioms told3

theorem below_put {w a b : World} {m c : Nat} {ps : List Pr} (h : Below w.heap.size w a) (hp : Putd a b m c ps) (hm : w.heap.size ≤ m) : Below w.heap.size w b := by
  obtain ⟨_, _, _, _, _, _, hg, _⟩ := hp
  have := h.size
  exact ⟨hg.os.trans h.os, hg.tape.trans h.tape, hg.output.trans h.output, Nat.le_trans h.size hg.size, fun k hk => (hg.block k (by omega) (fun e => by cases e; omega)).trans (h.block k hk)⟩
set_option maxRecDepth 100000 in
theorem lives_is (w : World) : Calls Try.prog 9 #[] w fun e w' => e = .returned (.bool true) ∧ Hid (Below w.heap.size w w') := by
  go_enter Try.func9, Try.ntmps9
  go_wp2_with fail
  refine (new_is w).mono ?_
  rintro e w1 ⟨rfl, HM1, HB1⟩
  obtain ⟨m, hm⟩ : ∃ m, w.heap.size = m := ⟨_, rfl⟩
  rw [hm] at HM1 ⊢
  have HMM : Hid (w.heap.size = m) := hm
  clear hm
  go_wp2_with fail
  refine (put1 w1 m HM1.out).mono ?_
  rintro e w2 ⟨rfl, HP2⟩
  go_wp2_with fail
  refine (put2 w1 w2 m HP2.out).mono ?_
  rintro e w3 ⟨rfl, HP3⟩
  go_wp2_with fail
  refine (put3 w2 w3 m HP3.out).mono ?_
  rintro e w4 ⟨rfl, HP4⟩
  go_wp2_with fail
  refine (len3 w3 w4 m 2 _ HP4.out).mono ?_
  rintro e w5 ⟨rfl, rfl⟩
  go_wp2_with fail
  refine (depth3 w3 w4 m 2 _ HP4.out).mono ?_
  rintro e w5 ⟨rfl, rfl⟩
  go_wp2_with fail
  refine (get3 w3 w4 m HP4.out).mono ?_
  rintro e w5 ⟨rfl, HB5⟩
  go_wp2_with fail
  refine (told3 w3 w5 m (HP4.out.keep HB5.out)).mono ?_
  rintro e w6 ⟨g6, cap6, rfl, HR6, HB6⟩
  go_wp2_with fail
  have HR7 : Hid (RdP (w6.alloc (Obj.cells #[Value.string { data := #[97] }, Value.string { data := #[51] }] 40)) (some ⟨w6.heap.size, 0, none⟩) 1 [(sA, s3)]) := by
    have hb2 := Blk.new w6 #[.string sA, .string s3] 40
    exact rd_of_cells (ps := [(sA, s3)]) (off := 0) (fun _ => hb2.row) (fun j u hu => by rw [Nat.zero_add]; exact hb2.cell hu)
  have HB7 : Hid (Below w6.heap.size w6 (w6.alloc (Obj.cells #[Value.string { data := #[97] }, Value.string { data := #[51] }] 40))) := (Below.refl _ w6).alloc (Nat.le_refl _) _
  refine (same_is _ g6 0 cap6 w6.heap.size 0 1 1 [(sA, s3)] (HR6.out.below HB7.out (Nat.le_refl _)) HR7.out (by omega)).mono ?_
  rintro e w8 ⟨rfl, hB8⟩
  have HB8 : Hid (Below w6.heap.size w6 w8) := HB7.out.trans (hB8.mono HB7.out.size)
  clear hB8
  go_wp2
  go_ret
  refine ⟨rfl, ?_⟩
  have k1 := HB1.out
  have hmm : w.heap.size ≤ m := Nat.le_of_eq HMM.out
  have k2 := below_put k1 HP2.out hmm
  have k3 := below_put k2 HP3.out hmm
  have k4 := below_put k3 HP4.out hmm
  have k5 := k4.trans (HB5.out.mono k4.size)
  have k6 := k5.trans (HB6.out.mono k5.size)
  exact k6.trans (HB8.out.mono k6.size)
#print axioms lives_is
end Go.Proofs.Ytnagknlfboadkaa.Oct
