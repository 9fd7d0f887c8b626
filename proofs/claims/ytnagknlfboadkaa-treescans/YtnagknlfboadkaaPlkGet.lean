/-
  Layer 7 (tree): Get; the keys' sizes stay bounded.
-/
import Derived.Test.YtnagknlfboadkaaPlK
namespace Go.Proofs.Ytnagknlfboadkaa.Oct
open Go.RowKit

set_option maxRecDepth 100000 in
set_option maxHeartbeats 1000000 in
theorem playk_get (w : World) (m : Nat) (a : Option Addr) (n cap : Nat) (L : List Pr) (k v : ByteArray) (N K : Int) (h0 : ¬ K = 0) (h1 : ¬ K = 1) (h3 : ¬ K = 3) (h5 : ¬ K = 5) (h6 : ¬ K = 6) (hT : Tr w m L) (hR : RdP w a n L) (hC : Cap a n cap) (hn : L.length ≤ 90000) :
    Calls Try.prog 14 #[.pointer (some ⟨m, 0, none⟩), .slice a n cap, .agg #[.int .i64 K, .string k, .string v, .int .i64 N]] w (PlayK w m L) := by
  have hml := hT.lt
  have hnL : n = L.length := hR.1.symm
  have HQ : Hid (Tr w m L ∧ RdP w a n L ∧ Cap a n cap ∧ L.length ≤ 90000 ∧ n = L.length) := ⟨hT, hR, hC, hn, hnL⟩
  have HB1 : Hid (Below w.heap.size w (w.alloc (.cells #[.int .i64 K, .string k, .string v, .int .i64 N] 29))) := (Below.refl _ w).alloc (Nat.le_refl _) _
  have hbx := Blk.new w #[.int .i64 K, .string k, .string v, .int .i64 N] 29
  have HK : Hid (∀ W, (w.alloc (.cells #[.int .i64 K, .string k, .string v, .int .i64 N] 29)).grownBy W (some m) → W.cell? ⟨w.heap.size, 0, none⟩ = some (.int .i64 K) ∧ W.cell? ⟨w.heap.size, 1, none⟩ = some (.string k) ∧ W.cell? ⟨w.heap.size, 2, none⟩ = some (.string v)) := fun W hW =>
    ⟨hW.cell (hbx.cell (i := 0) rfl) (by simp; omega), hW.cell (hbx.cell (i := 1) rfl) (by simp; omega), hW.cell (hbx.cell (i := 2) rfl) (by simp; omega)⟩
  have d1 := hbx.cell (i := 1) rfl
  clear hT hR hC hn hnL hbx
  go_enter Try.func14, Try.ntmps14
  go_wp2_with fail
  obtain ⟨w1, hw1⟩ : ∃ w1, w.alloc (.cells #[.int .i64 K, .string k, .string v, .int .i64 N] 29) = w1 := ⟨_, rfl⟩
  rw [hw1] at HB1 HK d1 ⊢
  refine (rget_is w1 a n cap L k (HQ.out.2.1.below HB1.out (Nat.le_refl _)) HQ.out.1.ris (by have := HQ.out; omega)).mono ?_
  rintro e w2 ⟨rfl, HB2⟩
  have HG2 : Hid (w1.grownBy w2 (some m)) := below_grown HB2.out _
  have HW2 : Hid (Below w.heap.size w w2) := HB1.out.trans (HB2.out.mono HB1.out.size)
  obtain ⟨k0, k1, k2⟩ := HK.out w2 HG2.out
  generalize hE : (!(eqs k L).isEmpty) = E
  generalize hV : gv (eqs k L) = V
  have HE : Hid ((!(eqs k L).isEmpty) = E ∧ gv (eqs k L) = V) := ⟨hE, hV⟩
  have H21 : Hid (Calls Try.prog 21 #[.pointer (some ⟨m, 0, none⟩), .string k] w2 fun e w' => e = .returned (.tuple #[.string V, .bool E]) ∧ Hid (Below w2.heap.size w2 w')) := by
    show Calls _ _ _ _ _
    rw [← HE.out.1, ← HE.out.2]
    exact tget w2 m L k (HQ.out.1.below HW2.out)
  clear d1 hE hV hw1
  go_wp2_with (go_at_call 21; (with_reducible refine Calls.mono H21.out ?_); rintro e w3 ⟨rfl, HB3⟩)
  go_ret2
  have hB := HW2.out.trans (HB3.out.mono HW2.out.size)
  exact ⟨a, n, cap, L, by simp, ⟨HQ.out.1.below hB, HQ.out.2.1.below hB (Nat.le_refl _), HQ.out.2.2.1, by omega⟩, below_grown hB _, fun h => h⟩
#print axioms playk_get
end Go.Proofs.Ytnagknlfboadkaa.Oct
