/-
  Layer 7 (tree): a call of both, the map and the list: Scan.
-/
import Derived.Test.YtnagknlfboadkaaPlay
namespace Go.Proofs.Ytnagknlfboadkaa.Oct
open Go.RowKit

set_option maxRecDepth 100000 in
set_option maxHeartbeats 1000000 in
theorem play_scan (w : World) (m : Nat) (a : Option Addr) (n cap : Nat) (L : List Pr) (k v : ByteArray) (N : Int) (hT : Tr w m L) (hR : RdP w a n L) (hC : Cap a n cap) (hn : L.length ≤ 90000) :
    Calls Try.prog 14 #[.pointer (some ⟨m, 0, none⟩), .slice a n cap, .agg #[.int .i64 3, .string k, .string v, .int .i64 N]] w (PlayP w m L) := by
  have hml := hT.lt
  have hnL : n = L.length := hR.1.symm
  have HQ : Hid (Tr w m L ∧ RdP w a n L ∧ Cap a n cap ∧ L.length ≤ 90000 ∧ n = L.length) := ⟨hT, hR, hC, hn, hnL⟩
  have HB1 : Hid (Below w.heap.size w (w.alloc (.cells #[.int .i64 3, .string k, .string v, .int .i64 N] 29))) := (Below.refl _ w).alloc (Nat.le_refl _) _
  have hbx := Blk.new w #[.int .i64 3, .string k, .string v, .int .i64 N] 29
  have HK : Hid (∀ W, (w.alloc (.cells #[.int .i64 3, .string k, .string v, .int .i64 N] 29)).grownBy W (some m) → W.cell? ⟨w.heap.size, 0, none⟩ = some (.int .i64 3) ∧ W.cell? ⟨w.heap.size, 1, none⟩ = some (.string k) ∧ W.cell? ⟨w.heap.size, 2, none⟩ = some (.string v)) := fun W hW =>
    ⟨hW.cell (hbx.cell (i := 0) rfl) (by simp; omega), hW.cell (hbx.cell (i := 1) rfl) (by simp; omega), hW.cell (hbx.cell (i := 2) rfl) (by simp; omega)⟩
  have d1 := hbx.cell (i := 1) rfl
  clear hT hR hC hn hnL hbx
  go_enter Try.func14, Try.ntmps14
  go_wp2_with fail
  obtain ⟨w1, hw1⟩ : ∃ w1, w.alloc (.cells #[.int .i64 3, .string k, .string v, .int .i64 N] 29) = w1 := ⟨_, rfl⟩
  rw [hw1] at HB1 HK d1 ⊢
  refine (rget_is w1 a n cap L k (HQ.out.2.1.below HB1.out (Nat.le_refl _)) HQ.out.1.ris (by have := HQ.out; omega)).mono ?_
  rintro e w2 ⟨rfl, HB2⟩
  have HG2 : Hid (w1.grownBy w2 (some m)) := below_grown HB2.out _
  have HW2 : Hid (Below w.heap.size w w2) := HB1.out.trans (HB2.out.mono HB1.out.size)
  obtain ⟨k0, k1, k2⟩ := HK.out w2 HG2.out
  have HG2d : Hid (w1.grownBy w2.drew (some m)) := below_grown HB2.out.drew _
  have HS1 : Hid (m < w1.heap.size) := by show _ < _; have := HB1.out.size; omega
  have H13 : Hid (Calls Try.prog 13 #[.pointer (some ⟨m, 0, none⟩), .string k, .string v] w2.drew fun e w' => ∃ (a' : Option Addr) (n' c' : Nat), e = .returned (.slice a' n' c') ∧ Hid (RdP w' a' n' (L.filter (inS k v)) ∧ n' ≤ 90000) ∧ Hid (Below w2.drew.heap.size w2.drew w')) := by
    refine Calls.mono (told_all w2.drew m L k v (HQ.out.1.below HW2.out.drew) (by have := HQ.out; omega)) ?_
    rintro e w' ⟨u, rfl, hO, hB⟩
    have hO2 : Bs 40 2 w2.drew.heap.size w' u (scanT k v L).length ((scanT k v L).flatMap pc) := .inr ⟨fun u hu => by
      obtain ⟨x, _, hx⟩ := List.mem_flatMap.1 hu
      simp only [pc, List.mem_cons, List.not_mem_nil, or_false] at hx
      rcases hx with rfl | rfl <;> rfl, hO.out⟩
    obtain ⟨a', c', rfl, _, h2, _⟩ := hO2.read
    refine ⟨a', _, c', rfl, ⟨?_, ?_⟩, hB⟩
    · rw [← scanT_is HQ.out.1.ris]; exact h2.toP
    · rw [scanT_is HQ.out.1.ris]; have := List.length_filter_le (inS k v) L; have := HQ.out.2.2.2.1; omega
  clear d1 hw1
  go_wp2_with fail
  go_region_held_law (fun W => W.cell? ⟨w.heap.size, 1, none⟩ = some (.string k) ∧ W.cell? ⟨w.heap.size, 2, none⟩ = some (.string v))
    (first | with_reducible exact (HK.out _ HG2d.out).2 | with_reducible exact (HK.out _ HG3.out).2 | with_reducible exact (HK.out _ HG4.out).2 | with_reducible exact (HK.out _ HG5.out).2)
    (first
    | (go_at_call 13; (with_reducible refine Calls.mono H13.out ?_); rintro e w3 ⟨a3, n3, cap3, rfl, HR3, hB3⟩; have HW3 : Hid (Below w.heap.size w w3) := HW2.out.drew.trans (hB3.out.mono HW2.out.size); have HG3 : Hid (w1.grownBy w3 (some m)) := grown_tr HG2d.out (below_grown hB3.out _); have H16 : Hid (Calls Try.prog 16 #[.slice a n cap, .string k, .string v] w3 (Rows w3 (L.filter (inS k v)))) := rscan_is w3 a n cap L k v (HQ.out.2.1.below HW3.out (Nat.le_refl _)) (by have := HQ.out; omega); clear hB3)
    | (go_at_call 16; (with_reducible refine Calls.mono H16.out ?_); rintro e w4 ⟨a4, n4, cap4, rfl, HR4, hB4⟩; have HW4 : Hid (Below w.heap.size w w4) := HW3.out.trans (hB4.out.mono HW3.out.size); have HG4 : Hid (w1.grownBy w4 (some m)) := grown_tr HG3.out (below_grown hB4.out _); have H12 : Hid (Calls Try.prog 12 #[.slice a3 n3 cap3, .slice a4 n4 cap4] w4 fun e w' => e = .returned (.bool true) ∧ Hid (Below w4.heap.size w4 w')) := (by show Calls _ _ _ _ _; rw [← sameP_yes (rfl : L.filter (inS k v) = L.filter (inS k v))]; exact same_any w4 a3 n3 cap3 _ a4 n4 cap4 _ (HR3.out.1.below hB4.out (Nat.le_refl _)) HR4.out.1 (by have := HR3.out.2; omega) (by have := HR4.out.1.1; have := HR3.out.1.1; have := HR3.out.2; omega)); clear hB4)
    | (go_at_call 12; (with_reducible refine Calls.mono H12.out ?_); rintro e w5 ⟨rfl, hB5⟩; have HW5 : Hid (Below w.heap.size w w5) := HW4.out.trans (hB5.out.mono HW4.out.size); have HG5 : Hid (w1.grownBy w5 (some m)) := grown_tr HG4.out (below_grown hB5.out _); clear hB5))
  go_wp2
  go_ret2
  exact ⟨a, n, cap, L, by simp, ⟨HQ.out.1.below HW5.out, HQ.out.2.1.below HW5.out (Nat.le_refl _), HQ.out.2.2.1, by omega⟩, below_grown HW5.out _⟩
#print axioms play_scan
end Go.Proofs.Ytnagknlfboadkaa.Oct
