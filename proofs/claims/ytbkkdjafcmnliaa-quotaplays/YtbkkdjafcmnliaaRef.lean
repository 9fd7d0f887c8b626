/-
  Layer 18 (quota): the reference's calls.
-/
import Derived.Test.YtbkkdjafcmnliaaRate
import Derived.Laws.ResultCell
import Derived.Deep.RegionHeld
namespace Go.Proofs.Ytbkkdjafcmnliaa.Oct
open Go.RowKit

abbrev rv (M : Mt) (a : Option Addr) (m cap : Nat) : Value := .agg #[iv M.b, iv M.r, iv M.n, iv M.u, .slice a m cap]
set_option maxRecDepth 100000 in
theorem wrong_is (b r n : Int) (w : World) : Calls Try.prog 23 #[lv b r n] w fun e w' => e = .returned (.bool (!okL b r n)) ∧ Below w.heap.size w w' := by
  have hb := below_al w (.cells #[iv b, iv r, iv n] 23)
  by_cases h1 : b < 0
  · have : okL b r n = false := by cases h : okL b r n; rfl; have := okL_iff.1 h; omega
    rw [this]
    go_enter Try.func23, Try.ntmps23
    go_wp2
    go_ret
    exact ⟨rfl, hb⟩
  by_cases h2 : 1099511627776 < b
  · have : okL b r n = false := by cases h : okL b r n; rfl; have := okL_iff.1 h; omega
    rw [this]
    go_enter Try.func23, Try.ntmps23
    go_wp2
    go_ret
    exact ⟨rfl, hb⟩
  by_cases h3 : r < 0
  · have : okL b r n = false := by cases h : okL b r n; rfl; have := okL_iff.1 h; omega
    rw [this]
    go_enter Try.func23, Try.ntmps23
    go_wp2
    go_ret
    exact ⟨rfl, hb⟩
  by_cases h4 : 1099511627776 < r
  · have : okL b r n = false := by cases h : okL b r n; rfl; have := okL_iff.1 h; omega
    rw [this]
    go_enter Try.func23, Try.ntmps23
    go_wp2
    go_ret
    exact ⟨rfl, hb⟩
  by_cases h5 : n < 1
  · have : okL b r n = false := by cases h : okL b r n; rfl; have := okL_iff.1 h; omega
    rw [this]
    go_enter Try.func23, Try.ntmps23
    go_wp2
    go_ret
    exact ⟨rfl, hb⟩
  by_cases h6 : 1099511627776 < n
  · have : okL b r n = false := by cases h : okL b r n; rfl; have := okL_iff.1 h; omega
    rw [this]
    go_enter Try.func23, Try.ntmps23
    go_wp2
    go_ret
    exact ⟨rfl, hb⟩
  · have : okL b r n = true := okL_iff.2 (by omega)
    rw [this]
    go_enter Try.func23, Try.ntmps23
    go_wp2
    go_ret
    exact ⟨rfl, hb⟩
#print axioms wrong_is
/-- facts of a block of five cells -/
theorem five_at {w : World} {g : Nat} {t : TypeId} {v0 v1 v2 v3 v4 : Value} (h : Blk w g t [v0, v1, v2, v3, v4]) :
    w.cell? ⟨g, 0, none⟩ = some v0 ∧ w.cell? ⟨g, 1, none⟩ = some v1 ∧ w.cell? ⟨g, 2, none⟩ = some v2 ∧ w.cell? ⟨g, 3, none⟩ = some v3 ∧ w.cell? ⟨g, 4, none⟩ = some v4 ∧ ∀ i, w.frozen? ⟨g, i, none⟩ = false :=
  ⟨h.cell rfl, h.cell rfl, h.cell rfl, h.cell rfl, h.cell rfl, fun i => h.free i⟩
theorem size31 : (Try.prog.info? 31).map (·.size) = some 5 := by kernel_rfl
/-- the way out of a function that tells a reference's meter and a number -/
theorem ret_rv {R : Ending → World → Prop} {fn : Func} {pt u : Tmp} {a : Act} {w : World} {g : Nat} {v0 v1 v2 v3 v4 : Value} (hr : fn.results = #[.cell pt 31, .tmp u]) (hd : a.defers = []) (hp : a.tmps.getD pt undef = .pointer (some ⟨g, 0, none⟩))
    (hb : Blk w g 31 [v0, v1, v2, v3, v4]) (hR : R (.returned (.tuple #[.agg #[v0, v1, v2, v3, v4], a.tmps.getD u undef])) w) : bodyPost Try.prog fn R .ret a w := by
  have hl := run_loadVar_mid (P := Try.prog) w g 0 31 [v0, v1, v2, v3, v4] _ (hb.range 0 5) Try.underlying31 rfl size31
  refine bodyPost_ret (v := .tuple #[.agg #[v0, v1, v2, v3, v4], a.tmps.getD u undef]) ?_ hd hR
  rw [results_cell_tmp hr, hp]
  simp [asAddr, hl, Result.andThen]
#print axioms ret_rv
def Z5 : Obj := .cells #[iv 0, iv 0, iv 0, iv 0, .slice none 0 0] 31
theorem blk_last (w : World) (o : Obj) (v0 v1 v2 v3 v4 : Value) : Blk ((w.alloc o).alloc (.cells #[v0, v1, v2, v3, v4] 31)) (w.heap.size + 1) 31 [v0, v1, v2, v3, v4] := by
  have := Blk.new (w.alloc o) #[v0, v1, v2, v3, v4] 31
  rw [World.size_alloc] at this
  exact this
theorem below_al2 (w : World) (o o' : Obj) : Below w.heap.size w ((w.alloc o).alloc o') := ((Below.refl _ w).alloc (Nat.le_refl _) _).alloc (by simp) _
set_option maxRecDepth 100000 in
theorem rnew_bad (b r n : Int) (w : World) (ho : okL b r n = false) : Calls Try.prog 9 #[lv b r n] w fun e w' => e = .returned (.tuple #[rv (Mt.fresh 0 0 0) none 0 0, iv 2]) ∧ Below w.heap.size w w' := by
  have HW := fun W => wrong_is b r n W
  rw [ho] at HW
  obtain ⟨W2, hW2⟩ : ∃ W2, W2 = (w.alloc (.cells #[iv b, iv r, iv n] 23)).alloc (.cells #[iv 0, iv 0, iv 0, iv 0, .slice none 0 0] 31) := ⟨_, rfl⟩
  obtain ⟨g0, hg0⟩ : ∃ g0, g0 = w.heap.size := ⟨_, rfl⟩
  obtain ⟨g1, hg1⟩ : ∃ g1, g1 = w.heap.size + 1 := ⟨_, rfl⟩
  have HB : Hid (Blk W2 g1 31 [iv 0, iv 0, iv 0, iv 0, .slice none 0 0] ∧ Below w.heap.size w W2 ∧ Blk W2 g0 23 [iv b, iv r, iv n]) := by
    rw [hW2, hg1, hg0]
    exact ⟨blk_last _ _ _ _ _ _ _, below_al2 _ _ _, (Blk.new w #[iv b, iv r, iv n] 23).alloc _⟩
  clear ho
  go_enter Try.func9, Try.ntmps9
  go_wp2_with fail
  rw [← hW2, ← hg1, ← hg0]
  refine (HW W2).mono ?_
  rintro e w3 ⟨rfl, hb3⟩
  have HB3 : Hid (Blk w3 g1 31 [iv 0, iv 0, iv 0, iv 0, .slice none 0 0]) := HB.out.1.below hb3 HB.out.1.lt
  have HW3 : Hid (Below w.heap.size w w3 ∧ w.heap.size ≤ g0) := ⟨HB.out.2.1.trans (hb3.mono HB.out.2.1.size), by rw [hg0]; exact Nat.le_refl _⟩
  have HL : Hid (Blk w3 g0 23 [iv b, iv r, iv n]) := HB.out.2.2.below hb3 HB.out.2.2.lt
  obtain ⟨c0, c1, c2, c3, c4, f0⟩ := five_at HB3.out
  have d0 : w3.cell? ⟨g0, 0, none⟩ = some (iv b) := HL.out.cell rfl
  have d1 : w3.cell? ⟨g0, 1, none⟩ = some (iv r) := HL.out.cell rfl
  have d2 : w3.cell? ⟨g0, 2, none⟩ = some (iv n) := HL.out.cell rfl
  have hbd : ∀ W, (Instr.build 31 #[(0, lv b r n)]).run Try.prog W = .ok (.agg #[iv b, iv r, iv n, iv 0, .slice none 0 0]) W := fun _ => by kernel_rfl
  have HG1 : Hid (w.heap.size ≤ g1) := by show _ ≤ _; omega
  clear hb3 hW2 HW hg0 hg1
  go_wp2
  refine ret_rv rfl rfl rfl (((((HB3.out.set 0 _).set 1 _).set 2 _).set 3 _).set 4 _) ?_
  exact ⟨rfl, below_grown HW3.out.1 (grown_tr (grown_tr (grown_tr (grown_tr (grown_setCell _ _ _ _) (grown_setCell _ _ _ _)) (grown_setCell _ _ _ _)) (grown_setCell _ _ _ _)) (grown_setCell _ _ _ _)) (fun j hj => by cases hj; exact HG1.out) (Nat.le_refl _)⟩
#print axioms rnew_bad
set_option maxRecDepth 100000 in
theorem rnew_ok (b r n : Int) (w : World) (ho : okL b r n = true) : Calls Try.prog 9 #[lv b r n] w fun e w' => e = .returned (.tuple #[rv (Mt.fresh b r n) none 0 0, iv 0]) ∧ Below w.heap.size w w' := by
  have HW := fun W => wrong_is b r n W
  rw [ho] at HW
  obtain ⟨W2, hW2⟩ : ∃ W2, W2 = (w.alloc (.cells #[iv b, iv r, iv n] 23)).alloc (.cells #[iv 0, iv 0, iv 0, iv 0, .slice none 0 0] 31) := ⟨_, rfl⟩
  obtain ⟨g0, hg0⟩ : ∃ g0, g0 = w.heap.size := ⟨_, rfl⟩
  obtain ⟨g1, hg1⟩ : ∃ g1, g1 = w.heap.size + 1 := ⟨_, rfl⟩
  have HB : Hid (Blk W2 g1 31 [iv 0, iv 0, iv 0, iv 0, .slice none 0 0] ∧ Below w.heap.size w W2 ∧ Blk W2 g0 23 [iv b, iv r, iv n]) := by
    rw [hW2, hg1, hg0]
    exact ⟨blk_last _ _ _ _ _ _ _, below_al2 _ _ _, (Blk.new w #[iv b, iv r, iv n] 23).alloc _⟩
  clear ho
  go_enter Try.func9, Try.ntmps9
  go_wp2_with fail
  rw [← hW2, ← hg1, ← hg0]
  refine (HW W2).mono ?_
  rintro e w3 ⟨rfl, hb3⟩
  have HB3 : Hid (Blk w3 g1 31 [iv 0, iv 0, iv 0, iv 0, .slice none 0 0]) := HB.out.1.below hb3 HB.out.1.lt
  have HW3 : Hid (Below w.heap.size w w3 ∧ w.heap.size ≤ g0) := ⟨HB.out.2.1.trans (hb3.mono HB.out.2.1.size), by rw [hg0]; exact Nat.le_refl _⟩
  have HL : Hid (Blk w3 g0 23 [iv b, iv r, iv n]) := HB.out.2.2.below hb3 HB.out.2.2.lt
  obtain ⟨c0, c1, c2, c3, c4, f0⟩ := five_at HB3.out
  have d0 : w3.cell? ⟨g0, 0, none⟩ = some (iv b) := HL.out.cell rfl
  have d1 : w3.cell? ⟨g0, 1, none⟩ = some (iv r) := HL.out.cell rfl
  have d2 : w3.cell? ⟨g0, 2, none⟩ = some (iv n) := HL.out.cell rfl
  have hbd : ∀ W, (Instr.build 31 #[(0, lv b r n)]).run Try.prog W = .ok (.agg #[iv b, iv r, iv n, iv 0, .slice none 0 0]) W := fun _ => by kernel_rfl
  have HG1 : Hid (w.heap.size ≤ g1) := by show _ ≤ _; omega
  clear hb3 hW2 HW hg0 hg1
  go_wp2
  refine ret_rv rfl rfl rfl (((((HB3.out.set 0 _).set 1 _).set 2 _).set 3 _).set 4 _) ?_
  exact ⟨rfl, below_grown HW3.out.1 (grown_tr (grown_tr (grown_tr (grown_tr (grown_setCell _ _ _ _) (grown_setCell _ _ _ _)) (grown_setCell _ _ _ _)) (grown_setCell _ _ _ _)) (grown_setCell _ _ _ _)) (fun j hj => by cases hj; exact HG1.out) (Nat.le_refl _)⟩
#print axioms rnew_ok
section
variable {M : Mt}
set_option maxRecDepth 100000 in
theorem rcharge_is (hg : M.good) (a : Option Addr) (m cap : Nat) (x : Int) (w : World) : Calls Try.prog 14 #[rv M a m cap, iv x] w fun e w' => e = .returned (.tuple #[rv (M.charge x).2 a m cap, iv (M.charge x).1]) ∧ Below w.heap.size w w' := by
  have hw : IntKind.i64.wrap (M.b - M.u) = M.b - M.u := wrapi (by have := hg.1; have := hg.2.2.2.1; omega) (by have := hg.1; have := hg.2.2.2.1; omega)
  unfold Mt.charge
  by_cases h0 : x < 0
  · rw [if_pos h0]
    clear hg
    go_enter Try.func14, Try.ntmps14
    go_wp2
    refine ret_rv rfl rfl rfl (blk_last _ _ _ _ _ _ _) ?_
    exact ⟨rfl, below_al2 _ _ _⟩
  · rw [if_neg h0]
    by_cases h2 : M.b - M.u < x
    · rw [if_pos h2]
      clear hg
      go_enter Try.func14, Try.ntmps14
      go_wp2
      refine ret_rv rfl rfl rfl (blk_last _ _ _ _ _ _ _) ?_
      exact ⟨rfl, below_al2 _ _ _⟩
    · rw [if_neg h2]
      have hw2 : IntKind.i64.wrap (M.u + x) = M.u + x := wrapi (by have := hg.1; have := hg.2.2.2.1; omega) (by have := hg.1; have := hg.2.2.2.1; omega)
      clear hg
      go_enter Try.func14, Try.ntmps14
      go_wp2
      refine ret_rv rfl rfl rfl (blk_last _ _ _ _ _ _ _) ?_
      exact ⟨rfl, below_al2 _ _ _⟩
set_option maxRecDepth 100000 in
theorem rrefund_is (hg : M.good) (a : Option Addr) (m cap : Nat) (x : Int) (w : World) : Calls Try.prog 16 #[rv M a m cap, iv x] w fun e w' => e = .returned (.tuple #[rv (M.refund x).2 a m cap, iv (M.refund x).1]) ∧ Below w.heap.size w w' := by
  unfold Mt.refund
  by_cases h0 : x < 0
  · rw [if_pos h0]
    clear hg
    go_enter Try.func16, Try.ntmps16
    go_wp2
    refine ret_rv rfl rfl rfl (blk_last _ _ _ _ _ _ _) ?_
    exact ⟨rfl, below_al2 _ _ _⟩
  · rw [if_neg h0]
    by_cases h2 : M.u < x
    · rw [if_pos h2]
      clear hg
      go_enter Try.func16, Try.ntmps16
      go_wp2
      refine ret_rv rfl rfl rfl (blk_last _ _ _ _ _ _ _) ?_
      exact ⟨rfl, below_al2 _ _ _⟩
    · rw [if_neg h2]
      have hw2 : IntKind.i64.wrap (M.u - x) = M.u - x := wrapi (by have := hg.1; have := hg.2.2.2.1; omega) (by have := hg.1; have := hg.2.2.2.1; omega)
      clear hg
      go_enter Try.func16, Try.ntmps16
      go_wp2
      refine ret_rv rfl rfl rfl (blk_last _ _ _ _ _ _ _) ?_
      exact ⟨rfl, below_al2 _ _ _⟩
end
#print axioms rrefund_is
end Go.Proofs.Ytbkkdjafcmnliaa.Oct
