/-
  Layer 7 (tree): a call of both, the map and the list: Put and Delete.
-/
import Derived.Test.YtnagknlfboadkaaNumber
import Derived.Test.YtnagknlfboadkaaToldAll
namespace Go.Proofs.Ytnagknlfboadkaa.Oct
open Go.RowKit

theorem scanT_is {L : List Pr} (h : Ris L) (key til : ByteArray) : scanT key til L = L.filter (inS key til) := by
  have e1 : ∀ {M : List Pr}, Ris M → M.takeWhile (okS til) = M.filter (okS til) := by
    intro M
    induction M with
    | nil => intro _; rfl
    | cons x M ih =>
      intro hM
      have hM2 := List.pairwise_cons.1 hM
      cases ho : okS til x with
      | true => rw [List.takeWhile_cons, if_pos ho, List.filter_cons, if_pos ho, ih hM2.2]
      | false =>
        rw [List.takeWhile_cons, if_neg (by rw [ho]; simp), List.filter_cons, if_neg (by rw [ho]; simp)]
        symm
        refine List.filter_eq_nil_iff.2 fun y hy => ?_
        have hxy := hM2.1 y hy
        unfold okS at ho ⊢
        rw [Bool.or_eq_false_iff] at ho
        rw [ho.1, geS_eq]
        rw [geS_eq] at ho
        have h2 : Lt x.1 til = false := by simpa using ho.2
        have h3 : Lt y.1 til = false := by
          cases h4 : Lt y.1 til with
          | false => rfl
          | true => rw [lt_trans hxy h4] at h2; cases h2
        rw [h3]; simp
  unfold scanT
  have hgL : Ris (ge key L) := List.Pairwise.sublist List.filter_sublist h
  rw [e1 hgL]
  unfold ge inS
  rw [List.filter_filter]
  congr 1; funext x; exact Bool.and_comm _ _
#print axioms scanT_is

/-- behind a call of both -/
def PlayP (w : World) (m : Nat) (L : List Pr) (e : Ending) (w' : World) : Prop := ∃ (a' : Option Addr) (n' cap' : Nat) (L' : List Pr), e = .returned (.tuple #[.slice a' n' cap', .bool true]) ∧ Hid (Tr w' m L' ∧ RdP w' a' n' L' ∧ Cap a' n' cap' ∧ L'.length ≤ L.length + 60) ∧ Hid (w.grownBy w' (some m))
theorem Tr.mp {w : World} {m : Nat} {L : List Pr} (h : Tr w m L) : ∃ p, Mp w m (.pointer p) L.length := by
  obtain ⟨p, h1, _⟩ := h.root
  exact ⟨p, h1⟩
theorem Tr.oth {w : World} {m : Nat} {L : List Pr} (h : Tr w m L) : Oth w m := by
  obtain ⟨p, h1⟩ := h.mp
  exact h1.oth
theorem Tr.lt {w : World} {m : Nat} {L : List Pr} (h : Tr w m L) : m < w.heap.size := by
  obtain ⟨p, h1⟩ := h.mp
  exact Blk.lt (show Blk w m 48 _ from h1)
theorem ins_most {L : List Pr} (h : Ris L) (x : Pr) : (insP L x).length ≤ L.length + 1 := by
  rw [ins_len h]; split <;> omega
theorem rem_most {L : List Pr} (h : Ris L) (k : ByteArray) : (remP L k).length ≤ L.length := by
  rw [rem_len h]; split <;> omega

set_option maxRecDepth 100000 in
set_option maxHeartbeats 1000000 in
theorem play_put (w : World) (m : Nat) (a : Option Addr) (n cap : Nat) (L : List Pr) (k v : ByteArray) (N : Int) (hT : Tr w m L) (hR : RdP w a n L) (hC : Cap a n cap) (hn : L.length ≤ 90000) :
    Calls Try.prog 14 #[.pointer (some ⟨m, 0, none⟩), .slice a n cap, .agg #[.int .i64 0, .string k, .string v, .int .i64 N]] w (PlayP w m L) := by
  have hml := hT.lt
  have hnL : n = L.length := hR.1.symm
  have HQ : Hid (Tr w m L ∧ RdP w a n L ∧ Cap a n cap ∧ L.length ≤ 90000 ∧ n = L.length) := ⟨hT, hR, hC, hn, hnL⟩
  have HB1 : Hid (Below w.heap.size w (w.alloc (.cells #[.int .i64 0, .string k, .string v, .int .i64 N] 29))) := (Below.refl _ w).alloc (Nat.le_refl _) _
  have hbx := Blk.new w #[.int .i64 0, .string k, .string v, .int .i64 N] 29
  have HK : Hid (∀ W, (w.alloc (.cells #[.int .i64 0, .string k, .string v, .int .i64 N] 29)).grownBy W (some m) → W.cell? ⟨w.heap.size, 0, none⟩ = some (.int .i64 0) ∧ W.cell? ⟨w.heap.size, 1, none⟩ = some (.string k) ∧ W.cell? ⟨w.heap.size, 2, none⟩ = some (.string v)) := fun W hW =>
    ⟨hW.cell (hbx.cell (i := 0) rfl) (by simp; omega), hW.cell (hbx.cell (i := 1) rfl) (by simp; omega), hW.cell (hbx.cell (i := 2) rfl) (by simp; omega)⟩
  have d1 := hbx.cell (i := 1) rfl
  clear hT hR hC hn hnL hbx
  go_enter Try.func14, Try.ntmps14
  go_wp2_with fail
  obtain ⟨w1, hw1⟩ : ∃ w1, w.alloc (.cells #[.int .i64 0, .string k, .string v, .int .i64 N] 29) = w1 := ⟨_, rfl⟩
  rw [hw1] at HB1 HK d1 ⊢
  refine (rget_is w1 a n cap L k (HQ.out.2.1.below HB1.out (Nat.le_refl _)) HQ.out.1.ris (by have := HQ.out; omega)).mono ?_
  rintro e w2 ⟨rfl, HB2⟩
  have HG2 : Hid (w1.grownBy w2 (some m)) := below_grown HB2.out _
  have HW2 : Hid (Below w.heap.size w w2) := HB1.out.trans (HB2.out.mono HB1.out.size)
  obtain ⟨k0, k1, k2⟩ := HK.out w2 HG2.out
  have HG2d : Hid (w1.grownBy w2.drew (some m)) := below_grown HB2.out.drew _
  have HS1 : Hid (m < w1.heap.size) := by show _ < _; have := HB1.out.size; omega
  have H24 : Hid (Calls Try.prog 24 #[.slice a n cap, .string k, .string v] w2.drew (Rows w2.drew (insP L (k, v)))) := rput_is w2.drew a n cap L (k, v) (HQ.out.2.1.below HW2.out.drew (Nat.le_refl _)) HQ.out.2.2.1 HQ.out.1.ris (by have := HQ.out; omega)
  generalize hE : (!(eqs k L).isEmpty) = E
  generalize gv (eqs k L) = V
  have HE : Hid ((!(eqs k L).isEmpty) = E) := hE
  clear d1 hE hw1
  go_wp2_with fail
  go_region_held_law (fun W => W.cell? ⟨w.heap.size, 1, none⟩ = some (.string k) ∧ W.cell? ⟨w.heap.size, 2, none⟩ = some (.string v))
    (first | with_reducible exact (HK.out _ HG2d.out).2 | with_reducible exact (HK.out _ HG3.out).2 | with_reducible exact (HK.out _ HG4.out).2)
    (first
    | (go_at_call 24; (with_reducible refine Calls.mono H24.out ?_); rintro e w3 ⟨a3, n3, cap3, rfl, HR3, hB3⟩; have HW3 : Hid (Below w.heap.size w w3) := HW2.out.drew.trans (hB3.out.mono HW2.out.size); have HG3 : Hid (w1.grownBy w3 (some m)) := grown_tr HG2d.out (below_grown hB3.out _); have H19 : Hid (Calls Try.prog 19 #[.pointer (some ⟨m, 0, none⟩), .string k, .string v] w3 fun e w' => e = .returned (.bool E) ∧ Hid (Tr w' m (insP L (k, v))) ∧ Hid (w3.grownBy w' (some m))) := (by show Calls _ _ _ _ _; rw [← HE.out]; exact tput w3 m L (k, v) (HQ.out.1.below HW3.out) (by have := HQ.out; omega)); clear hB3)
    | (go_at_call 19; (with_reducible refine Calls.mono H19.out ?_); rintro e w4 ⟨rfl, HT4, HG34⟩; have HG4 : Hid (w1.grownBy w4 (some m)) := grown_tr HG3.out HG34.out))
  go_wp2
  go_ret2
  refine ⟨a3, n3, cap3, insP L (k, v), by simp, ⟨HT4.out, HR3.out.1.oth HG34.out (HQ.out.1.below HW3.out).oth, HR3.out.2, by have := ins_most HQ.out.1.ris (k, v); omega⟩, grown_tr (below_grown HW3.out _) HG34.out⟩
#print axioms play_put
end Go.Proofs.Ytnagknlfboadkaa.Oct
