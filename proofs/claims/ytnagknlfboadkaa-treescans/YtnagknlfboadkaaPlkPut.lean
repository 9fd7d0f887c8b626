/-
  Layer 7 (tree): Put; the keys' sizes stay bounded.
-/
import Derived.Test.YtnagknlfboadkaaPlK
namespace Go.Proofs.Ytnagknlfboadkaa.Oct
open Go.RowKit

set_option maxRecDepth 100000 in
set_option maxHeartbeats 1000000 in
theorem playk_put (w : World) (m : Nat) (a : Option Addr) (n cap : Nat) (L : List Pr) (k v : ByteArray) (N : Int) (hT : Tr w m L) (hR : RdP w a n L) (hC : Cap a n cap) (hk : k.size ≤ 100000) (hn : L.length ≤ 90000) :
    Calls Try.prog 14 #[.pointer (some ⟨m, 0, none⟩), .slice a n cap, .agg #[.int .i64 0, .string k, .string v, .int .i64 N]] w (PlayK w m L) := by
  have HKS : Hid (k.size ≤ 100010) := by show _ ≤ _; omega
  clear hk
  have hml := hT.lt
  have hnL : n = L.length := hR.1.symm
  have HQ : Hid (Tr w m L ∧ RdP w a n L ∧ Cap a n cap ∧ L.length ≤ 90000 ∧ n = L.length) := ⟨hT, hR, hC, hn, hnL⟩
  have HB1 : Hid (Below w.heap.size w (w.alloc (.cells #[.int .i64 0, .string k, .string v, .int .i64 N] 29))) := (Below.refl _ w).alloc (Nat.le_refl _) _
  have hbx := Blk.new w #[.int .i64 0, .string k, .string v, .int .i64 N] 29
  have HK : Hid (∀ W, (w.alloc (.cells #[.int .i64 0, .string k, .string v, .int .i64 N] 29)).grownBy W (some m) → W.cell? ⟨w.heap.size, 0, none⟩ = some (.int .i64 0) ∧ W.cell? ⟨w.heap.size, 1, none⟩ = some (.string k) ∧ W.cell? ⟨w.heap.size, 2, none⟩ = some (.string v)) := fun W hW =>
    ⟨hW.cell (hbx.cell (i := 0) rfl) (by simp; omega), hW.cell (hbx.cell (i := 1) rfl) (by simp; omega), hW.cell (hbx.cell (i := 2) rfl) (by simp; omega)⟩
  have d1 := hbx.cell (i := 1) rfl
  clear hT hR hC hn hnL hbx
  go_enter Try.func14, Try.ntmps14
  go_wp2_with fail
  obtain ⟨w1, hw1⟩ : ∃ w1, w.alloc (.cells #[.int .i64 0, .string k, .string v, .int .i64 N] 29) = w1 := ⟨_, rfl⟩
  rw [hw1] at HB1 HK d1 ⊢
  refine (rget_is w1 a n cap L k (HQ.out.2.1.below HB1.out (Nat.le_refl _)) HQ.out.1.ris (by have := HQ.out; omega)).mono ?_
  rintro e w2 ⟨rfl, HB2⟩
  have HG2 : Hid (w1.grownBy w2 (some m)) := below_grown HB2.out _
  have HW2 : Hid (Below w.heap.size w w2) := HB1.out.trans (HB2.out.mono HB1.out.size)
  obtain ⟨k0, k1, k2⟩ := HK.out w2 HG2.out
  have HG2d : Hid (w1.grownBy w2.drew (some m)) := below_grown HB2.out.drew _
  have HS1 : Hid (m < w1.heap.size) := by show _ < _; have := HB1.out.size; omega
  have H24 : Hid (Calls Try.prog 24 #[.slice a n cap, .string k, .string v] w2.drew (Rows w2.drew (insP L (k, v)))) := rput_is w2.drew a n cap L (k, v) (HQ.out.2.1.below HW2.out.drew (Nat.le_refl _)) HQ.out.2.2.1 HQ.out.1.ris (by have := HQ.out; omega)
  generalize hE : (!(eqs k L).isEmpty) = E
  generalize gv (eqs k L) = V
  have HE : Hid ((!(eqs k L).isEmpty) = E) := hE
  clear d1 hE hw1
  go_wp2_with fail
  go_region_held_law (fun W => W.cell? ⟨w.heap.size, 1, none⟩ = some (.string k) ∧ W.cell? ⟨w.heap.size, 2, none⟩ = some (.string v))
    (first | with_reducible exact (HK.out _ HG2d.out).2 | with_reducible exact (HK.out _ HG3.out).2 | with_reducible exact (HK.out _ HG4.out).2)
    (first
    | (go_at_call 24; (with_reducible refine Calls.mono H24.out ?_); rintro e w3 ⟨a3, n3, cap3, rfl, HR3, hB3⟩; have HW3 : Hid (Below w.heap.size w w3) := HW2.out.drew.trans (hB3.out.mono HW2.out.size); have HG3 : Hid (w1.grownBy w3 (some m)) := grown_tr HG2d.out (below_grown hB3.out _); have H19 : Hid (Calls Try.prog 19 #[.pointer (some ⟨m, 0, none⟩), .string k, .string v] w3 fun e w' => e = .returned (.bool E) ∧ Hid (Tr w' m (insP L (k, v))) ∧ Hid (w3.grownBy w' (some m))) := (by show Calls _ _ _ _ _; rw [← HE.out]; exact tput w3 m L (k, v) (HQ.out.1.below HW3.out) (by have := HQ.out; omega)); clear hB3)
    | (go_at_call 19; (with_reducible refine Calls.mono H19.out ?_); rintro e w4 ⟨rfl, HT4, HG34⟩; have HG4 : Hid (w1.grownBy w4 (some m)) := grown_tr HG3.out HG34.out))
  go_wp2
  go_ret2
  refine ⟨a3, n3, cap3, insP L (k, v), by simp, ⟨HT4.out, HR3.out.1.oth HG34.out (HQ.out.1.below HW3.out).oth, HR3.out.2, by have := ins_most HQ.out.1.ris (k, v); omega⟩, grown_tr (below_grown HW3.out _) HG34.out, fun h => h.ins HKS.out⟩
#print axioms playk_put
end Go.Proofs.Ytnagknlfboadkaa.Oct
