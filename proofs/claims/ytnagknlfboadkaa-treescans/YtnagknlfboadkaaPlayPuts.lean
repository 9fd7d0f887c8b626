/-
  Layer 7 (tree): a call of both, the map and the list: many Puts.
-/
import Derived.Test.YtnagknlfboadkaaPlay
namespace Go.Proofs.Ytnagknlfboadkaa.Oct
open Go.RowKit

set_option maxRecDepth 100000 in
set_option maxHeartbeats 1000000 in
theorem play_puts (w : World) (m : Nat) (a : Option Addr) (n cap : Nat) (L : List Pr) (k v : ByteArray) (N : Int) (hT : Tr w m L) (hR : RdP w a n L) (hC : Cap a n cap) (hk : k.size ≤ 100000) (hn : L.length ≤ 90000) :
    Calls Try.prog 14 #[.pointer (some ⟨m, 0, none⟩), .slice a n cap, .agg #[.int .i64 5, .string k, .string v, .int .i64 N]] w (PlayP w m L) := by
  have hml := hT.lt
  have hnL : n = L.length := hR.1.symm
  have HQ : Hid (Tr w m L ∧ RdP w a n L ∧ Cap a n cap ∧ L.length ≤ 90000 ∧ n = L.length) := ⟨hT, hR, hC, hn, hnL⟩
  have HB1 : Hid (Below w.heap.size w (w.alloc (.cells #[.int .i64 5, .string k, .string v, .int .i64 N] 29))) := (Below.refl _ w).alloc (Nat.le_refl _) _
  have hbx := Blk.new w #[.int .i64 5, .string k, .string v, .int .i64 N] 29
  have HK : Hid (∀ W, (w.alloc (.cells #[.int .i64 5, .string k, .string v, .int .i64 N] 29)).grownBy W (some m) → W.cell? ⟨w.heap.size, 0, none⟩ = some (.int .i64 5) ∧ W.cell? ⟨w.heap.size, 1, none⟩ = some (.string k) ∧ W.cell? ⟨w.heap.size, 2, none⟩ = some (.string v) ∧ W.cell? ⟨w.heap.size, 3, none⟩ = some (.int .i64 N)) := fun W hW =>
    ⟨hW.cell (hbx.cell (i := 0) rfl) (by simp; omega), hW.cell (hbx.cell (i := 1) rfl) (by simp; omega), hW.cell (hbx.cell (i := 2) rfl) (by simp; omega), hW.cell (hbx.cell (i := 3) rfl) (by simp; omega)⟩
  have d1 := hbx.cell (i := 1) rfl
  clear hT hR hC hn hnL hbx
  go_enter Try.func14, Try.ntmps14
  go_wp2_with fail
  obtain ⟨w1, hw1⟩ : ∃ w1, w.alloc (.cells #[.int .i64 5, .string k, .string v, .int .i64 N] 29) = w1 := ⟨_, rfl⟩
  rw [hw1] at HB1 HK d1 ⊢
  refine (rget_is w1 a n cap L k (HQ.out.2.1.below HB1.out (Nat.le_refl _)) HQ.out.1.ris (by have := HQ.out; omega)).mono ?_
  rintro e w2 ⟨rfl, HB2⟩
  have HG2 : Hid (w1.grownBy w2 (some m)) := below_grown HB2.out _
  have HW2 : Hid (Below w.heap.size w w2) := HB1.out.trans (HB2.out.mono HB1.out.size)
  obtain ⟨k0, k1, k2, k3⟩ := HK.out w2 HG2.out
  have HKS : Hid (k.size ≤ 100000) := hk
  generalize (!(eqs k L).isEmpty) = E0
  generalize gv (eqs k L) = V0
  clear d1 hw1 hk
  go_wp2_with fail
  clear k0 k1 k2 k3
  go_loopw [10, 1] (fun u l wr => ∃ (i : Nat) (a' : Option Addr) (n' c' : Nat) (L' : List Pr), u = .int .i64 (i : Int) ∧ l = .slice a' n' c' ∧ Hid (i ≤ 60 ∧ L'.length ≤ L.length + i) ∧ Hid (Tr wr m L' ∧ RdP wr a' n' L' ∧ Cap a' n' c') ∧ Hid (w1.grownBy wr (some m)) ∧ Hid (w.grownBy wr (some m))) (fun u _ _ => 61 - (intOf u).toNat)
  case atStart => exact ⟨0, a, n, cap, L, rfl, rfl, ⟨by omega, by omega⟩, ⟨HQ.out.1.below HW2.out, HQ.out.2.1.below HW2.out (Nat.le_refl _), HQ.out.2.2.1⟩, HG2.out, below_grown HW2.out _⟩
  case round =>
    obtain ⟨i, a', n', c', L', rfl, rfl, HI, HT, HG, HGW⟩ := hrel
    obtain ⟨k0, k1, k2, k3⟩ := HK.out wr HG.out
    by_cases hi : (i : Int) < N
    · by_cases h60 : i < 60
      · have q0 : (i : Int) < 60 := by omega
        have q1 : (0 : Int) ≤ (i : Int) := by omega
        have HL60 : Hid (i < 60) := h60
        have H26 : Hid (Calls Try.prog 26 #[.string k, .int .i64 ((i : Int) * 7 % 60)] wr fun e w' => e = .returned (.string (numK k (i * 7 % 60))) ∧ Hid (Below wr.heap.size wr w')) := by
          show Calls _ _ _ _ _
          rw [show (i : Int) * 7 % 60 = ((i * 7 % 60 : Nat) : Int) by omega]
          exact number_is wr k (i * 7 % 60) (Nat.mod_lt _ (by omega)) HKS.out
        generalize numK k (i * 7 % 60) = kk at *
        have HRS : Hid (Ris L' ∧ n' = L'.length ∧ L'.length ≤ 95000) := ⟨HT.out.1.ris, HT.out.2.1.1.symm, by have := HI.out; have := HQ.out; omega⟩
        have H23 : Hid (∀ W, Below wr.heap.size wr W → Calls Try.prog 23 #[.slice a' n' c', .string kk] W fun e w' => e = .returned (.tuple #[.string (gv (eqs kk L')), .bool (!(eqs kk L').isEmpty)]) ∧ Hid (Below W.heap.size W w')) := fun W hW => rget_is W a' n' c' L' kk (HT.out.2.1.below hW (Nat.le_refl _)) HRS.out.1 (by have := HRS.out; omega)
        have H19 : Hid (∀ W, Below wr.heap.size wr W → Calls Try.prog 19 #[.pointer (some ⟨m, 0, none⟩), .string kk, .string v] W fun e w' => e = .returned (.bool (!(eqs kk L').isEmpty)) ∧ Hid (Tr w' m (insP L' (kk, v))) ∧ Hid (W.grownBy w' (some m))) := fun W hW => tput W m L' (kk, v) (HT.out.1.below hW) (by have := HRS.out; omega)
        generalize (!(eqs kk L').isEmpty) = E1 at *
        generalize gv (eqs kk L') = V1 at *
        go_wp2_with (first
          | (go_at_call 26; (with_reducible refine Calls.mono H26.out ?_); rintro e w3 ⟨rfl, HB3⟩)
          | (go_at_call 23; (with_reducible refine Calls.mono (H23.out w3 HB3.out) ?_); rintro e w4 ⟨rfl, hB4⟩; have HB4 : Hid (Below wr.heap.size wr w4) := HB3.out.trans (hB4.out.mono HB3.out.size); have HG4 : Hid (w1.grownBy w4 (some m)) := grown_tr HG.out (below_grown HB4.out _); obtain ⟨l0, l1, l2, l3⟩ := HK.out w4 HG4.out; clear hB4)
          | (go_at_call 19; (with_reducible refine Calls.mono (H19.out w4 HB4.out) ?_); rintro e w5 ⟨rfl, HT5, HG45⟩; have HG5 : Hid (w1.grownBy w5 (some m)) := grown_tr HG4.out HG45.out; obtain ⟨m0, m1, m2, m3⟩ := HK.out w5 HG5.out; have H24 : Hid (Calls Try.prog 24 #[.slice a' n' c', .string kk, .string v] w5 (Rows w5 (insP L' (kk, v)))) := rput_is w5 a' n' c' L' (kk, v) ((HT.out.2.1.below HB4.out (Nat.le_refl _)).oth HG45.out (HT.out.1.below HB4.out).oth) HT.out.2.2 HRS.out.1 (by have := HRS.out; omega))
          | (go_at_call 24; (with_reducible refine Calls.mono H24.out ?_); rintro e w6 ⟨a6, n6, c6, rfl, HR6, HB6⟩))
        go_roundw
        case rel => exact ⟨i + 1, a6, n6, c6, insP L' (kk, v), by simp, rfl, ⟨by have := HL60.out; omega, by have := ins_most HRS.out.1 (kk, v); have := HI.out; omega⟩, ⟨HT5.out.below HB6.out, HR6.out⟩, grown_tr HG5.out (below_grown HB6.out _), grown_tr (grown_tr (grown_tr HGW.out (below_grown HB4.out _)) HG45.out) (below_grown HB6.out _)⟩
        case measure => have := HL60.out; simp [intOf]; omega
      · have q0 : ¬ (i : Int) < 60 := by omega
        go_wp2
        go_ret2
        exact ⟨a', n', c', L', by simp, ⟨HT.out.1, HT.out.2.1, HT.out.2.2, by have := HI.out; omega⟩, HGW⟩
    · go_wp2
      go_ret2
      exact ⟨a', n', c', L', by simp, ⟨HT.out.1, HT.out.2.1, HT.out.2.2, by have := HI.out; omega⟩, HGW⟩
#print axioms play_puts
end Go.Proofs.Ytnagknlfboadkaa.Oct
