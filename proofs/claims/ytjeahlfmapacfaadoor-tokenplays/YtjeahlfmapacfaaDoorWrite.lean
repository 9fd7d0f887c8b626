/-
  Layer 2 (hash): 'Write'.
-/
import Derived.Test.YtjeahlfmapacfaaDoorRegionb
namespace Go.Proofs.YtjeahlfmapacfaaDoor.Oct
open Go.RowKit Sha

theorem KT.grown {w w' : World} {d : Nat} (h : KT w) (hg : w.grownBy w' (some d)) (hd : 2 ≠ d) : KT w' :=
  ⟨Nat.lt_of_lt_of_le h.1 hg.size, fun t ht => hg.cell (h.2 t ht) (by simpa using hd)⟩
def slen : Value → Nat
  | .slice _ n _ => n
  | _ => 0
theorem slice46 (d r : Nat) (hr : r < 64) (W : World) : (Instr.sliceAt 85 (.pointer (some ⟨d, 9, none⟩)) (some (.int .u64 (r : Int))) none none).run Tryd.prog W = .ok (.slice (some ⟨d, 9 + r, none⟩) (64 - r) (64 - r)) W := by
  obtain ⟨i, hi, hsz⟩ := Option.map_eq_some_iff.1 size5
  simp [Instr.sliceAt, Instr.sureAddr, run_underlying arr46, Instr.sliceBounds, Instr.sliceBound, asIntOf, sizeOf, typeInfo, hi, hsz, Addr.add_lit, show r ≤ 64 by omega, show ¬ 64 = r by omega]

/-- what the loop keeps -/
def LoopW (w : World) (d : Nat) (M l : List UInt8) (k n c : Nat) (a' : Option Addr) (wr : World) : Prop := k + n = l.length ∧ InX d w a' n c (l.drop k) ∧ Dig wr d (M ++ l.take k) ∧ w.grownBy wr (some d)
theorem LoopW.next {w wr w5 : World} {d : Nat} {M l M1 x : List UInt8} {k n c nn r : Nat} {a' a2 : Option Addr} (h : LoopW w d M l k n c a' wr) (hM1 : M1 = M ++ l.take k) (hx : x = (l.drop k).take (64 - r)) (hxl : x.length = nn) (hnn : nn ≤ n)
    (hin : InX d w a2 (n - nn) (c - nn) ((l.drop k).drop nn)) (hd : Dig w5 d (M1 ++ x)) (hg : wr.grownBy w5 (some d)) : LoopW w d M l (k + nn) (n - nn) (c - nn) a2 w5 := by
  have h1 := h.1
  refine ⟨by omega, ?_, ?_, grown_tr h.2.2.2 hg⟩
  · rw [List.drop_drop] at hin; exact hin
  · have e : x = (l.drop k).take nn := by
      rw [hx]
      rw [hx, List.length_take] at hxl
      exact List.take_eq_take_iff.2 (by omega)
    rw [List.take_add, ← e, ← List.append_assoc, ← hM1]
    exact hd
theorem dig_more {w : World} {d N r nn : Nat} {M tail x : List UInt8} (hT : Tail M tail) (hN : N = M.length) (hr : r = N % 64) (hx : x.length = nn) (h : r + nn < 64) (hB : Blk w d 106 (cellsOf (fold Sha.start M) (splice tail r x) (N + nn))) : Dig w d (M ++ x) := by
  subst hN hr hx
  have e := hT.more h
  refine ⟨_, e.1, ?_⟩
  rw [e.2, List.length_append]; exact hB
theorem dig_full {w : World} {d N r nn : Nat} {M tail x : List UInt8} (hT : Tail M tail) (hN : N = M.length) (hr : r = N % 64) (hx : x.length = nn) (h : r + nn = 64) (hB : Blk w d 106 (cellsOf (Sha.step (fold Sha.start M) (splice tail r x)) (splice tail r x) (N + nn))) : Dig w d (M ++ x) := by
  subst hN hr hx
  have e := hT.full h
  refine ⟨_, e.1, ?_⟩
  rw [e.2, List.length_append]; exact hB

set_option maxHeartbeats 1000000 in
set_option maxRecDepth 100000 in
theorem write_is (d : Nat) (M l : List UInt8) (a : Option Addr) (len cap : Nat) (w : World) (hk : KT w) (hd1 : 2 ≠ d) (hD : Dig w d M) (hin : InX d w a len cap l) (hN : M.length + len < 1000000000000) :
    Calls Tryd.prog 47 #[.pointer (some ⟨d, 0, none⟩), .slice a len cap] w fun e w' => e = .returned (.int .i64 0) ∧ Dig w' d (M ++ l) ∧ w.grownBy w' (some d) := by
  have HK : Hid (KT w) := hk
  have HD : Hid (Dig w d M) := hD
  have HIN : Hid (InX d w a len cap l) := hin
  have HLL : Hid (l.length = len) := hin.1.1
  have HN : Hid (M.length + len < 1000000000000) := hN
  have HD1 : Hid (2 ≠ d) := hd1
  have c0 : w.cell? ⟨d, 0, none⟩ = some (.bool true) := by
    obtain ⟨tail, _, hb⟩ := hD
    exact hb.cell rfl
  clear hk hD hin hN hd1
  go_enter Tryd.func47, Tryd.ntmps47
  go_wp2_with (go_at_call 61; refine (isMade_is d true _ c0).mono ?_; rintro e w1 ⟨rfl, rfl⟩)
  go_loopw [1] (fun i wr => ∃ (k n c : Nat) (a' : Option Addr), i = .slice a' n c ∧ Hid (LoopW w d M l k n c a' wr)) (fun i _ => slen i)
  case atStart =>
    refine ⟨0, len, cap, a, rfl, ?_⟩
    refine ⟨by rw [HLL.out]; omega, HIN.out, ?_, World.grownBy.refl _ _⟩
    rw [List.take_zero, List.append_nil]; exact HD.out
  case round =>
    clear c0
    obtain ⟨k, n, c, a', rfl, hr⟩ := hrel
    by_cases hn : n = 0
    · subst hn
      go_wp2
      go_ret
      refine ⟨rfl, ?_, hr.out.2.2.2⟩
      have e := hr.out.2.2.1
      rw [List.take_of_length_le (by have := hr.out.1; omega)] at e
      exact e
    · have q0 : (0 : Int) < (n : Int) := by omega
      obtain ⟨M1, hM1⟩ : ∃ M1, M1 = M ++ l.take k := ⟨_, rfl⟩
      obtain ⟨tail, hT, hB⟩ := hr.out.2.2.1
      rw [← hM1] at hT hB
      obtain ⟨N, hN⟩ : ∃ N, N = M1.length := ⟨_, rfl⟩
      rw [← hN] at hB
      obtain ⟨r, hrr⟩ : ∃ r, r = N % 64 := ⟨_, rfl⟩
      have q1 : (N : Int) % 64 = (r : Int) := by omega
      have q1' : (N : Int).tmod 64 = (r : Int) := by rw [Int.tmod_eq_emod_of_nonneg (by omega)]; exact q1
      have q2 : r < 64 := by omega
      have q3 : (r : Int) ≤ 64 := by omega
      have q4 : (0 : Int) ≤ (r : Int) := by omega
      have c73 : wr.cell? ⟨d, 73, none⟩ = some (.int .u64 (N : Int)) := hB.cell (cellsOf_73 hT.1)
      have hsl := slice46 d r q2
      have HT : Hid (Tail M1 tail) := hT
      have HB : Hid (Blk wr d 106 (cellsOf (fold Sha.start M1) tail N)) := hB
      have HN1 : Hid (N = M1.length) := hN
      have HR : Hid (r = N % 64) := hrr
      have HM1 : Hid (M1 = M ++ l.take k) := hM1
      have HNP : Hid (n ≠ 0) := hn
      clear hT hB hN hrr hM1 hn
      obtain ⟨x, hx⟩ : ∃ x, x = (l.drop k).take (64 - r) := ⟨_, rfl⟩
      obtain ⟨nn, hnn⟩ : ∃ nn, nn = (U x).length := ⟨_, rfl⟩
      have HX : Hid (x = (l.drop k).take (64 - r)) := hx
      have HNN : Hid ((U x).length = nn) := hnn.symm
      have HNM : Hid (nn = Nat.min n (64 - r)) := by
        show _ = _
        rw [hnn, U_length, hx, List.length_take, List.length_drop]
        have := hr.out.1
        show min _ _ = min _ _
        omega
      clear hx hnn
      have HFIT : Hid (nn ≤ 64 - r ∧ nn ≤ n ∧ 0 < nn) := by
        have h1 : nn ≤ 64 - r := by rw [HNM.out]; exact Nat.min_le_right _ _
        have h2 : nn ≤ n := by rw [HNM.out]; exact Nat.min_le_left _ _
        have h3 : 0 < nn := by rw [HNM.out]; exact Nat.lt_min.2 ⟨by omega, by omega⟩
        exact ⟨h1, h2, h3⟩
      obtain ⟨a2, hsl2, hin2⟩ := slice_from hr.out.2.1 nn HFIT.out.2.1
      have HSL2 : Hid (∀ W, (Instr.slice 22 (.slice a' n c) (some (.int .i64 (nn : Int))) none none).run Tryd.prog W = .ok (.slice a2 (n - nn) (c - nn)) W) := hsl2
      have HIN2 : Hid (InX d w a2 (n - nn) (c - nn) ((l.drop k).drop nn)) := hin2
      have q5 : (0 : Int) ≤ (nn : Int) := by omega
      have q6 : (nn : Int) ≤ 64 := by have := HFIT.out.1; omega
      have q7 : (N : Int) ≤ 1000000000000 := by
        have h1 := HN1.out; have h2 := HN.out; have h3 := hr.out.1; have h4 := HLL.out
        rw [HM1.out, List.length_append, List.length_take] at h1
        omega
      clear hsl2 hin2
      have HSRC : Hid (∃ ad, a' = some ad ∧ ∀ j v, (U x)[j]? = some v → wr.drew.cell? (ad.add j) = some v) := by
        have hi := (hr.out.2.1.grown hr.out.2.2.2).1
        obtain ⟨ad, e1, e2⟩ := cells_of_in hi (by rw [U_length, List.length_drop]; have := hr.out.1; have := HNP.out; omega)
        refine ⟨ad, e1, fun j v hj => ?_⟩
        refine e2 j v ?_
        rw [HX.out] at hj
        simp only [U, List.map_take, List.getElem?_take] at hj
        split at hj
        · exact hj
        · cases hj
      go_wp2_with fail
      go_region_law ((refine step_copy_blk rfl (.tmp 20) (.tmp 21) 22 22 rfl 5 Tryd.underlying22 size5 d (9 + r) (64 - r) (64 - r) a' n c rfl rfl _ 106 HB.out.drew (U x) (by rw [HNN.out]; exact HNM.out) HSRC.out (by rw [cellsOf_length HT.out.1, HNN.out]; have := HFIT.out.1; omega) (U_one _) ?_; intro w4 hb4 hg4))
      rw [HNN.out]
      have HB4 : Hid (Blk w4 d 106 (cellsOf (fold Sha.start M1) (splice tail r x) N)) := by
        have e := hb4.out
        rw [cellsOf_splice HT.out.1 r x (by have := HNN.out; rw [U_length] at this; have := HFIT.out.1; omega)] at e
        exact e
      obtain ⟨t2, ht2⟩ : ∃ t2, t2 = splice tail r x := ⟨_, rfl⟩
      have HT2 : Hid (t2 = splice tail r x) := ht2
      rw [← ht2] at HB4
      have HTL : Hid (t2.length = 64) := by
        show _ = _
        rw [ht2, splice_length _ _ _ (by have h1 := HNN.out; rw [U_length] at h1; have := HFIT.out.1; have := HT.out.1; omega)]
        exact HT.out.1
      have HG4 : Hid (wr.grownBy w4 (some d)) := grown_tr (grown_drewN wr 1 _) hg4.out
      clear hb4 hg4 ht2 c73 hsl
      have c73 : w4.cell? ⟨d, 73, none⟩ = some (.int .u64 (N : Int)) := HB4.out.cell (cellsOf_73 HTL.out)
      have f73 : w4.frozen? ⟨d, 73, none⟩ = false := HB4.out.free _
      have HXL : Hid (x.length = nn) := by show _ = _; rw [← U_length]; exact HNN.out
      by_cases hfull : r + nn = 64
      · have q8 : ((N : Int) + (nn : Int)) % 64 = 0 := by have := HR.out; omega
        have HFULL : Hid (r + nn = 64) := hfull
        clear hfull
        go_wp2_with (refine wpList_slice_from rfl (.tmp 23) (.tmp 24) rfl _ _ nn rfl rfl HSL2.out ?_)
        obtain ⟨w5, hw5⟩ : ∃ w5, w5 = w4.setCell ⟨d, 73, none⟩ (.int .u64 ((N : Int) + (nn : Int))) := ⟨_, rfl⟩
        rw [← hw5]
        obtain ⟨s0, hs0⟩ : ∃ s0, s0 = fold Sha.start M1 := ⟨_, rfl⟩
        have HS0 : Hid (s0 = fold Sha.start M1) := hs0
        have HB5 : Hid (Blk w5 d 106 (cellsOf s0 t2 (N + nn))) := by
          have e := HB4.out.set 73 (.int .u64 ((N : Int) + (nn : Int)))
          rw [← Int.natCast_add, cellsOf_set HTL.out, ← hs0, Int.natCast_add, ← hw5] at e
          exact e
        have HG5 : Hid (wr.grownBy w5 (some d)) := by rw [hw5]; exact grown_tr HG4.out (grown_setCell w4 d 73 _)
        have HK5 : Hid (KT w5) := HK.out.grown (grown_tr hr.out.2.2.2 HG5.out) HD1.out
        clear hs0 hw5 c73 f73
        refine region8 d (N + nn) s0 t2 HTL.out w5 HB5.out HK5.out _ (fun _ _ _ _ _ h => h) _ rfl rfl ?_
        intro w8 hb8 hg8 x45 x49 x50 x51
        unfold behind
        go_simp
        go_wp2
        refine ⟨⟨k + nn, n - nn, c - nn, a2, rfl, ?_⟩, ?_⟩
        · refine hr.out.next HM1.out HX.out HXL.out HFIT.out.2.1 HIN2.out (dig_full HT.out HN1.out HR.out HXL.out HFULL.out ?_) (grown_tr HG5.out hg8.out)
          have e := hb8.out
          rw [HS0.out, HT2.out] at e
          exact e
        · have h1 := HFIT.out.2.1
          have h2 := HFIT.out.2.2
          show n - nn < n
          omega
      · have q8 : ((N : Int) + (nn : Int)) % 64 ≠ 0 := by have h1 := HR.out; have h2 := HFIT.out.1; have h3 := HFIT.out.2.2; omega
        have HFULL : Hid (r + nn < 64) := by have := HFIT.out.1; show r + nn < 64; omega
        clear hfull
        go_wp2_with (refine wpList_slice_from rfl (.tmp 23) (.tmp 24) rfl _ _ nn rfl rfl HSL2.out ?_)
        refine ⟨⟨k + nn, n - nn, c - nn, a2, rfl, ?_⟩, ?_⟩
        · refine hr.out.next HM1.out HX.out HXL.out HFIT.out.2.1 HIN2.out (dig_more HT.out HN1.out HR.out HXL.out HFULL.out ?_) (grown_tr HG4.out (grown_setCell w4 d 73 _))
          have e := HB4.out.set 73 (.int .u64 ((N : Int) + (nn : Int)))
          rw [← Int.natCast_add, cellsOf_set HTL.out, HT2.out] at e
          exact e
        · have h1 := HFIT.out.2.1
          have h2 := HFIT.out.2.2
          show n - nn < n
          omega

#print axioms write_is
end Go.Proofs.YtjeahlfmapacfaaDoor.Oct
