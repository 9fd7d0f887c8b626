/-
  Layer 18 (quota): the reference's Hit.
-/
import Derived.Test.YtbkkdjafcmnliaaHitReg
namespace Go.Proofs.Ytbkkdjafcmnliaa.Oct
open Go.RowKit

theorem hit_two {M : Mt} {t : Int} (h : M.hit t = (2, M)) : t < 0 ∨ (0 ≤ t ∧ t / M.n < M.l) := by
  unfold Mt.hit at h
  split at h
  · exact .inl (by assumption)
  · split at h
    · exact .inr ⟨by omega, by assumption⟩
    · split at h <;> simp at h
theorem rd_kept {e sz tt : Nat} {w w' : World} {a : Option Addr} {n p : Nat} {cs L : List Value} (h : Rd w e sz a n cs) (hg : w.grownBy w' (some p)) (hb : Blk w p tt L) (hne : e ≠ tt) : Rd w' e sz a n cs := by
  refine ⟨h.1, h.2.1, fun hq => ?_⟩
  obtain ⟨g, off, rfl, h3, h4⟩ := h.2.2 hq
  have hgp : g ≠ p := fun e1 => by
    subst e1
    obtain ⟨cs', fr, h5⟩ := h3
    have := hb.symm.trans h5
    simp at this
    exact hne this.2.1.symm
  have hs := hg.block g h3.lt (by simpa using hgp)
  exact ⟨g, off, rfl, h3.same hs, fun j u hu => (World.cell?_of_block (a := ⟨g, off + j, none⟩) hs).trans (h4 j u hu)⟩
/-- what a hit that is counted leaves -/
def OkP (w : World) (M : Mt) (m : Nat) (xs : List Int) (t : Int) (e : Ending) (w' : World) : Prop := ∃ a' cap', e = .returned (.tuple #[rv M a' (m + 1) cap', iv 0]) ∧ Below w.heap.size w w' ∧ Rd w' 3 1 a' (m + 1) ((xs ++ [t]).map iv)
set_option maxRecDepth 100000 in
set_option maxHeartbeats 1000000 in
theorem rhit_2 {M : Mt} {xs : List Int} {a : Option Addr} {m cap : Nat} {w : World} (hr : Rd w 3 1 a m (xs.map iv)) (hm : m ≤ 1000) (hg : M.good) (hx : Hx M xs) (t : Int) (ht : t ≤ 9223372036854775807) (hh : M.hit t = (2, M)) :
    Calls Try.prog 12 #[rv M a m cap, iv t] w fun e w' => e = .returned (.tuple #[rv M a m cap, iv 2]) ∧ Below w.heap.size w w' := by
  obtain ⟨B, R, n, U, L, H⟩ := M
  have hml : xs.length = m := by have := hr.1; simpa using this
  have hn : 1 ≤ n := hg.2.2.1.1
  obtain ⟨W1, hW1⟩ : ∃ W1, W1 = (w.alloc (.cells #[iv B, iv R, iv n, iv U, .slice a m cap] 31)).alloc (.cells #[iv 0, iv 0, iv 0, iv 0, .slice none 0 0] 31) := ⟨_, rfl⟩
  obtain ⟨g0, hg0⟩ : ∃ g0, g0 = w.heap.size := ⟨_, rfl⟩
  obtain ⟨g1, hg1⟩ : ∃ g1, g1 = w.heap.size + 1 := ⟨_, rfl⟩
  have HB0 : Hid (Blk W1 g0 31 [iv B, iv R, iv n, iv U, .slice a m cap]) := by rw [hW1, hg0]; exact (Blk.new w #[iv B, iv R, iv n, iv U, .slice a m cap] 31).alloc _
  have HB1 : Hid (Blk W1 g1 31 [iv 0, iv 0, iv 0, iv 0, .slice none 0 0]) := by rw [hW1, hg1]; exact blk_last _ _ _ _ _ _ _
  have HBW : Hid (Below w.heap.size w W1) := by rw [hW1]; exact below_al2 _ _ _
  have HGG : Hid (w.heap.size ≤ g1 ∧ g0 ≠ g1 ∧ w.heap.size ≤ g0) := ⟨by omega, by omega, by omega⟩
  have HRD : Hid (Rd W1 3 1 a m (xs.map iv)) := hr.below HBW.out (Nat.le_refl _)
  obtain ⟨c00, c01, c02, c03, c04, f00⟩ := five_at HB0.out
  obtain ⟨c10, c11, c12, c13, c14, f10⟩ := five_at HB1.out
  have HT : Hid (t ≤ 9223372036854775807) := ht
  have HHX : Hid (Hx ⟨B, R, n, U, L, H⟩ xs) := hx
  have HXS : Hid (∀ y ∈ xs, 0 ≤ y ∧ y ≤ 9223372036854775807) := fun y hy => (hx.1.1 y hy).1
  have HMM : Hid (m ≤ 1000) := hm
  have q5 : (n == 0) = false := by simp; omega
  rcases hit_two hh with h0 | ⟨h0, h1⟩
  · clear hr hm hg hx ht hh hml
    go_enter Try.func12, Try.ntmps12
    go_wp2_with fail
    rw [← hW1, ← hg1, ← hg0]
    clear hW1 hg0 hg1
    go_quiet (fail)
    go_wp2
    refine ret_rv rfl rfl rfl ((((((HB1.out.drewN _).set 0 _).set 1 _).set 2 _).set 3 _).set 4 _) ?_
    exact ⟨rfl, below_grown HBW.out (grown_tr (grown_drewN _ _ _) (grown_tr (grown_tr (grown_tr (grown_tr (grown_setCell _ _ _ _) (grown_setCell _ _ _ _)) (grown_setCell _ _ _ _)) (grown_setCell _ _ _ _)) (grown_setCell _ _ _ _))) (fun j hj => by cases hj; exact HGG.out.1) (Nat.le_refl _)⟩
  · cases m with
    | zero =>
      have e : xs = [] := List.length_eq_zero_iff.1 hml
      have h2 : L = 0 := hx.2.1 e
      have h3 : 0 ≤ t / n := Int.ediv_nonneg h0 (by omega)
      dsimp only at h1
      omega
    | succ k =>
      obtain ⟨m, hmk⟩ : ∃ m, k + 1 = m := ⟨_, rfl⟩
      rw [hmk] at hm hW1 HB0 HRD HMM c04 ⊢
      obtain ⟨ys, x, rfl, hys⟩ := snoc_of hml
      have hx0 := (hx.1.1 x (by simp)).1
      have hxl : x / n = L := hx.2.2 x (by simp)
      obtain ⟨xg, xo, ha, hrt, hxr⟩ := HRD.out.2.2 (by omega)
      subst ha
      have cx : W1.cell? ⟨xg, xo + k, none⟩ = some (iv x) := hxr k _ (by simp [← hys])
      have q4 : (k : Int) < (m : Int) := by omega
      have q2 : ((m : Int) == 0) = false := by simp; omega
      have q9 : decide (0 < m) = true := by simp; omega
      have q3 : IntKind.i64.wrap ((m : Int) - 1) = (k : Int) := by rw [wrapi (by omega) (by omega)]; omega
      have hq1 := quo_is hx0.1 hx0.2 hn
      have hq2 := quo_is h0 ht hn
      have q8 : decide (t < 0) = false := by simp; omega
      dsimp only at h1
      have q6 : decide (wrap64 (t.tdiv n) < wrap64 (x.tdiv n)) = true := by rw [hq1, hq2, hxl]; simpa using h1
      have q6' : wrap64 (t.tdiv n) < wrap64 (x.tdiv n) := by rw [hq1, hq2, hxl]; exact h1
      clear hr hm hg hx ht hh hml hys hx0 hxl hrt hxr hmk hq1 hq2 h1
      go_enter Try.func12, Try.ntmps12
      go_wp2_with fail
      rw [← hW1, ← hg1, ← hg0]
      clear hW1 hg0 hg1
      go_quiet (fail)
      go_wp2
      refine ret_rv rfl rfl rfl ((((((HB1.out.drewN _).set 0 _).set 1 _).set 2 _).set 3 _).set 4 _) ?_
      exact ⟨rfl, below_grown HBW.out (grown_tr (grown_drewN _ _ _) (grown_tr (grown_tr (grown_tr (grown_tr (grown_setCell _ _ _ _) (grown_setCell _ _ _ _)) (grown_setCell _ _ _ _)) (grown_setCell _ _ _ _)) (grown_setCell _ _ _ _))) (fun j hj => by cases hj; exact HGG.out.1) (Nat.le_refl _)⟩
#print axioms rhit_2
set_option maxRecDepth 100000 in
set_option maxHeartbeats 1000000 in
theorem rhit_181 {M : Mt} {xs : List Int} {a : Option Addr} {m cap : Nat} {w : World} (hr : Rd w 3 1 a m (xs.map iv)) (hm : m ≤ 1000) (hg : M.good) (hx : Hx M xs) (t : Int) (ht : t ≤ 9223372036854775807) (h0 : 0 ≤ t) (h1 : M.l ≤ t / M.n) (h2 : M.r ≤ M.hitsOf t) :
    Calls Try.prog 12 #[rv M a m cap, iv t] w fun e w' => e = .returned (.tuple #[rv M a m cap, iv 181]) ∧ Below w.heap.size w w' := by
  obtain ⟨B, R, n, U, L, H⟩ := M
  have hml : xs.length = m := by have := hr.1; simpa using this
  have hn : 1 ≤ n := hg.2.2.1.1
  obtain ⟨W1, hW1⟩ : ∃ W1, W1 = (w.alloc (.cells #[iv B, iv R, iv n, iv U, .slice a m cap] 31)).alloc (.cells #[iv 0, iv 0, iv 0, iv 0, .slice none 0 0] 31) := ⟨_, rfl⟩
  obtain ⟨g0, hg0⟩ : ∃ g0, g0 = w.heap.size := ⟨_, rfl⟩
  obtain ⟨g1, hg1⟩ : ∃ g1, g1 = w.heap.size + 1 := ⟨_, rfl⟩
  have HB0 : Hid (Blk W1 g0 31 [iv B, iv R, iv n, iv U, .slice a m cap]) := by rw [hW1, hg0]; exact (Blk.new w #[iv B, iv R, iv n, iv U, .slice a m cap] 31).alloc _
  have HB1 : Hid (Blk W1 g1 31 [iv 0, iv 0, iv 0, iv 0, .slice none 0 0]) := by rw [hW1, hg1]; exact blk_last _ _ _ _ _ _ _
  have HBW : Hid (Below w.heap.size w W1) := by rw [hW1]; exact below_al2 _ _ _
  have HGG : Hid (w.heap.size ≤ g1 ∧ g0 ≠ g1 ∧ w.heap.size ≤ g0) := ⟨by omega, by omega, by omega⟩
  have HRD : Hid (Rd W1 3 1 a m (xs.map iv)) := hr.below HBW.out (Nat.le_refl _)
  obtain ⟨c00, c01, c02, c03, c04, f00⟩ := five_at HB0.out
  obtain ⟨c10, c11, c12, c13, c14, f10⟩ := five_at HB1.out
  have HT : Hid (t ≤ 9223372036854775807) := ht
  have HHX : Hid (Hx ⟨B, R, n, U, L, H⟩ xs) := hx
  have HXS : Hid (∀ y ∈ xs, 0 ≤ y ∧ y ≤ 9223372036854775807) := fun y hy => (hx.1.1 y hy).1
  have HMM : Hid (m ≤ 1000) := hm
  have q5 : (n == 0) = false := by simp; omega
  have hcn : Mt.hitsOf ⟨B, R, n, U, L, H⟩ t = (cnt n t xs : Nat) := hx.1.of h0 h1
  rw [hcn] at h2
  dsimp only at h1 h2
  have HF : Hid (∀ V, Below W1.heap.size W1 V → Calls Try.prog 26 #[.agg #[iv B, iv R, iv n, iv U, .slice a m cap], iv t] V fun e w' => e = .returned (iv (cnt n t xs : Nat)) ∧ Hid (Below V.heap.size V w')) := fun V hV =>
    rof_is (M := ⟨B, R, n, U, L, H⟩) (HRD.out.below hV (Nat.le_refl _)) (by omega) hn HXS.out t ht
  have HC : Hid (cnt n t xs ≤ 1000) := by show _ ≤ _; have := cnt_le n t xs; omega
  have HHC : Hid (Mt.hitsOf ⟨B, R, n, U, L, H⟩ t = (cnt n t xs : Nat)) := hcn
  have HHH : Hid (Hx { b := B, r := R, n := n, u := U, l := t / n, h := Mt.hitsOf ⟨B, R, n, U, L, H⟩ t + 1 } (xs ++ [t])) := hx.hit h0 ht h1
  clear hcn
  generalize cnt n t xs = c at HF HC h2 HHC
  have q20 : decide (R ≤ (c : Int)) = true := by simpa using h2
  cases m with
  | zero =>
    have e : xs = [] := List.length_eq_zero_iff.1 hml
    subst e
    have q9 : decide (t < 0) = false := by simp; omega
    clear hr hm hg hx ht hml h1
    go_enter Try.func12, Try.ntmps12
    go_wp2_with fail
    rw [← hW1, ← hg1, ← hg0]
    clear hW1 hg0 hg1
    go_quiet (fail)
    go_wp2_with fail
    refine hit_region (b := B) (r := R) (n := n) (u := U) (c := (c : Int)) (a := _) (m := 0) (cap := cap) (HB0.out.drewN _) ?hf ?_
    case hf =>
      intro V hV
      exact HF.out V ⟨hV.os, hV.tape, hV.output, hV.size, hV.block⟩
    intro V hV
    have HV : Hid (Below W1.heap.size W1 V) := ⟨hV.os, hV.tape, hV.output, hV.size, hV.block⟩
    have HV1 : Hid (Blk V g1 31 [iv 0, iv 0, iv 0, iv 0, .slice none 0 0]) := HB1.out.below HV.out HB1.out.lt
    have HV0 : Hid (Blk V g0 31 [iv B, iv R, iv n, iv U, .slice _ 0 cap]) := HB0.out.below HV.out HB0.out.lt
    have HVW : Hid (Below w.heap.size w V) := HBW.out.trans (HV.out.mono HBW.out.size)
    obtain ⟨d00, d01, d02, d03, d04, e00⟩ := five_at HV0.out
    obtain ⟨d10, d11, d12, d13, d14, e10⟩ := five_at HV1.out
    clear hV c00 c01 c02 c03 c04 f00 c10 c11 c12 c13 c14 f10
    go_wp2
    refine ret_rv rfl rfl rfl ((((((HV1.out).set 0 _).set 1 _).set 2 _).set 3 _).set 4 _) ?_
    exact ⟨rfl, below_grown HVW.out (grown_tr (grown_tr (grown_tr (grown_tr (grown_setCell _ _ _ _) (grown_setCell _ _ _ _)) (grown_setCell _ _ _ _)) (grown_setCell _ _ _ _)) (grown_setCell _ _ _ _)) (fun j hj => by cases hj; exact HGG.out.1) (Nat.le_refl _)⟩
  | succ k =>
    obtain ⟨m, hmk⟩ : ∃ m, k + 1 = m := ⟨_, rfl⟩
    rw [hmk] at hm hW1 HB0 HRD HMM c04 HF ⊢
    obtain ⟨ys, x, rfl, hys⟩ := snoc_of hml
    have hx0 := (hx.1.1 x (by simp)).1
    have hxl : x / n = L := hx.2.2 x (by simp)
    obtain ⟨xg, xo, ha, hrt, hxr⟩ := HRD.out.2.2 (by omega)
    subst ha
    have cx : W1.cell? ⟨xg, xo + k, none⟩ = some (iv x) := hxr k _ (by simp [← hys])
    have q4 : (k : Int) < (m : Int) := by omega
    have q2 : ((m : Int) == 0) = false := by simp; omega
    have q9 : decide (0 < m) = true := by simp; omega
    have q3 : IntKind.i64.wrap ((m : Int) - 1) = (k : Int) := by rw [wrapi (by omega) (by omega)]; omega
    have hq1 := quo_is hx0.1 hx0.2 hn
    have hq2 := quo_is h0 ht hn
    have q8 : decide (t < 0) = false := by simp; omega
    have q6 : decide (wrap64 (t.tdiv n) < wrap64 (x.tdiv n)) = false := by rw [hq1, hq2, hxl]; simp; omega
    have q6' : ¬ wrap64 (t.tdiv n) < wrap64 (x.tdiv n) := by rw [hq1, hq2, hxl]; omega
    clear hr hm hg hx ht hml hys hx0 hxl hrt hxr hmk hq1 hq2 h1
    go_enter Try.func12, Try.ntmps12
    go_wp2_with fail
    rw [← hW1, ← hg1, ← hg0]
    clear hW1 hg0 hg1
    go_quiet (fail)
    go_wp2_with fail
    refine hit_region (b := B) (r := R) (n := n) (u := U) (c := (c : Int)) (a := _) (m := m) (cap := cap) (HB0.out.drewN _) ?hf ?_
    case hf =>
      intro V hV
      exact HF.out V ⟨hV.os, hV.tape, hV.output, hV.size, hV.block⟩
    intro V hV
    have HV : Hid (Below W1.heap.size W1 V) := ⟨hV.os, hV.tape, hV.output, hV.size, hV.block⟩
    have HV1 : Hid (Blk V g1 31 [iv 0, iv 0, iv 0, iv 0, .slice none 0 0]) := HB1.out.below HV.out HB1.out.lt
    have HV0 : Hid (Blk V g0 31 [iv B, iv R, iv n, iv U, .slice _ m cap]) := HB0.out.below HV.out HB0.out.lt
    have HVW : Hid (Below w.heap.size w V) := HBW.out.trans (HV.out.mono HBW.out.size)
    obtain ⟨d00, d01, d02, d03, d04, e00⟩ := five_at HV0.out
    obtain ⟨d10, d11, d12, d13, d14, e10⟩ := five_at HV1.out
    clear hV c00 c01 c02 c03 c04 f00 c10 c11 c12 c13 c14 f10
    go_wp2
    refine ret_rv rfl rfl rfl ((((((HV1.out).set 0 _).set 1 _).set 2 _).set 3 _).set 4 _) ?_
    exact ⟨rfl, below_grown HVW.out (grown_tr (grown_tr (grown_tr (grown_tr (grown_setCell _ _ _ _) (grown_setCell _ _ _ _)) (grown_setCell _ _ _ _)) (grown_setCell _ _ _ _)) (grown_setCell _ _ _ _)) (fun j hj => by cases hj; exact HGG.out.1) (Nat.le_refl _)⟩
#print axioms rhit_181
set_option maxRecDepth 100000 in
set_option maxHeartbeats 1000000 in
theorem rhit_ok {M : Mt} {xs : List Int} {a : Option Addr} {m cap : Nat} {w : World} (hr : Rd w 3 1 a m (xs.map iv)) (hm : m ≤ 1000) (hg : M.good) (hx : Hx M xs) (t : Int) (ht : t ≤ 9223372036854775807) (h0 : 0 ≤ t) (h1 : M.l ≤ t / M.n) (h2 : M.hitsOf t < M.r) :
    Calls Try.prog 12 #[rv M a m cap, iv t] w fun e w' => OkP w M m xs t e w' := by
  obtain ⟨B, R, n, U, L, H⟩ := M
  have hml : xs.length = m := by have := hr.1; simpa using this
  have hn : 1 ≤ n := hg.2.2.1.1
  obtain ⟨W1, hW1⟩ : ∃ W1, W1 = (w.alloc (.cells #[iv B, iv R, iv n, iv U, .slice a m cap] 31)).alloc (.cells #[iv 0, iv 0, iv 0, iv 0, .slice none 0 0] 31) := ⟨_, rfl⟩
  obtain ⟨g0, hg0⟩ : ∃ g0, g0 = w.heap.size := ⟨_, rfl⟩
  obtain ⟨g1, hg1⟩ : ∃ g1, g1 = w.heap.size + 1 := ⟨_, rfl⟩
  have HB0 : Hid (Blk W1 g0 31 [iv B, iv R, iv n, iv U, .slice a m cap]) := by rw [hW1, hg0]; exact (Blk.new w #[iv B, iv R, iv n, iv U, .slice a m cap] 31).alloc _
  have HB1 : Hid (Blk W1 g1 31 [iv 0, iv 0, iv 0, iv 0, .slice none 0 0]) := by rw [hW1, hg1]; exact blk_last _ _ _ _ _ _ _
  have HBW : Hid (Below w.heap.size w W1) := by rw [hW1]; exact below_al2 _ _ _
  have HGG : Hid (w.heap.size ≤ g1 ∧ g0 ≠ g1 ∧ w.heap.size ≤ g0) := ⟨by omega, by omega, by omega⟩
  have HRD : Hid (Rd W1 3 1 a m (xs.map iv)) := hr.below HBW.out (Nat.le_refl _)
  obtain ⟨c00, c01, c02, c03, c04, f00⟩ := five_at HB0.out
  obtain ⟨c10, c11, c12, c13, c14, f10⟩ := five_at HB1.out
  have HT : Hid (t ≤ 9223372036854775807) := ht
  have HHX : Hid (Hx ⟨B, R, n, U, L, H⟩ xs) := hx
  have HXS : Hid (∀ y ∈ xs, 0 ≤ y ∧ y ≤ 9223372036854775807) := fun y hy => (hx.1.1 y hy).1
  have HMM : Hid (m ≤ 1000) := hm
  have q5 : (n == 0) = false := by simp; omega
  have hcn : Mt.hitsOf ⟨B, R, n, U, L, H⟩ t = (cnt n t xs : Nat) := hx.1.of h0 h1
  rw [hcn] at h2
  dsimp only at h1 h2
  have HF : Hid (∀ V, Below W1.heap.size W1 V → Calls Try.prog 26 #[.agg #[iv B, iv R, iv n, iv U, .slice a m cap], iv t] V fun e w' => e = .returned (iv (cnt n t xs : Nat)) ∧ Hid (Below V.heap.size V w')) := fun V hV =>
    rof_is (M := ⟨B, R, n, U, L, H⟩) (HRD.out.below hV (Nat.le_refl _)) (by omega) hn HXS.out t ht
  have HC : Hid (cnt n t xs ≤ 1000) := by show _ ≤ _; have := cnt_le n t xs; omega
  have HHC : Hid (Mt.hitsOf ⟨B, R, n, U, L, H⟩ t = (cnt n t xs : Nat)) := hcn
  have HHH : Hid (Hx { b := B, r := R, n := n, u := U, l := t / n, h := Mt.hitsOf ⟨B, R, n, U, L, H⟩ t + 1 } (xs ++ [t])) := hx.hit h0 ht h1
  clear hcn
  generalize cnt n t xs = c at HF HC h2 HHC
  have q20 : decide (R ≤ (c : Int)) = false := by simpa using h2
  cases m with
  | zero =>
    have e : xs = [] := List.length_eq_zero_iff.1 hml
    subst e
    have q9 : decide (t < 0) = false := by simp; omega
    clear hr hm hg hx ht hml h1
    go_enter Try.func12, Try.ntmps12
    go_wp2_with fail
    rw [← hW1, ← hg1, ← hg0]
    clear hW1 hg0 hg1
    go_quiet (fail)
    go_wp2_with fail
    refine hit_region (b := B) (r := R) (n := n) (u := U) (c := (c : Int)) (a := _) (m := 0) (cap := cap) (HB0.out.drewN _) ?hf ?_
    case hf =>
      intro V hV
      exact HF.out V ⟨hV.os, hV.tape, hV.output, hV.size, hV.block⟩
    intro V hV
    have HV : Hid (Below W1.heap.size W1 V) := ⟨hV.os, hV.tape, hV.output, hV.size, hV.block⟩
    have HV1 : Hid (Blk V g1 31 [iv 0, iv 0, iv 0, iv 0, .slice none 0 0]) := HB1.out.below HV.out HB1.out.lt
    have HV0 : Hid (Blk V g0 31 [iv B, iv R, iv n, iv U, .slice _ 0 cap]) := HB0.out.below HV.out HB0.out.lt
    have HVW : Hid (Below w.heap.size w V) := HBW.out.trans (HV.out.mono HBW.out.size)
    obtain ⟨d00, d01, d02, d03, d04, e00⟩ := five_at HV0.out
    obtain ⟨d10, d11, d12, d13, d14, e10⟩ := five_at HV1.out
    clear hV c00 c01 c02 c03 c04 f00 c10 c11 c12 c13 c14 f10
    have d04a : ∀ o, (V.alloc o).cell? ⟨g0, 4, none⟩ = some (.slice _ 0 cap) := fun o => (HV0.out.alloc o).cell rfl
    obtain ⟨i0, hi0, hz0, hz1, hz2⟩ := info3
    have HI0 : Hid (Try.prog.info? 3 = some i0 ∧ i0.zero = some (.int .i64 0) ∧ i0.size = 1 ∧ i0.bytes ≤ 64) := ⟨hi0, hz0, hz1, hz2⟩
    clear hi0 hz0 hz1 hz2
    go_wp2_with (with_reducible change wpList _ _ _ ({ dst := some 46, op := _, type := _, pos := _, after := _, guard := _ } :: _) _ _; refine Hid.out ?_)
    show wpList _ _ _ _ _ _
    obtain ⟨V1, hV1⟩ : ∃ V1, V.alloc (.cells #[] 3) = V1 := ⟨_, rfl⟩
    have HV1B : Hid (Below V.heap.size V V1) := by rw [← hV1]; exact below_al V _
    have HRT : Hid (RowT V1 3 V.heap.size) := by rw [← hV1]; exact (Blk.new V #[] 3).row
    rw [hV1]
    have HRD1 : Hid (Rd V1 3 1 _ 0 ([].map iv)) := (HRD.out.below HV.out (Nat.le_refl _)).below HV1B.out (Nat.le_refl _)
    have HVS : Hid (V.heap.size ≤ V1.heap.size ∧ g0 < V.heap.size ∧ g1 < V.heap.size ∧ w.heap.size ≤ V.heap.size) := ⟨HV1B.out.size, HV0.out.lt, HV1.out.lt, HVW.out.size⟩
    generalize V.heap.size = q at HVS HV1B HRT ⊢
    refine wpList_append_bs rfl (.tmp 43) (.tmp 45) 29 rfl _ 3 i0 (.int .i64 0) 1 q Try.underlying29 HI0.out.1 HI0.out.2.1 HI0.out.2.2.1 HI0.out.2.2.2 rfl (by omega) _ 0 [] (.inl ⟨_, rfl, Rd.nil _ _ _ _, .inr ⟨q, 0, rfl⟩⟩) _ 0 cap ([].map iv) rfl rfl HRD1.out HVS.out.1 (by have := HMM.out; omega) ?_
    intro v5 w5 hb5 hw5
    go_wp2_with (with_reducible change wpList _ _ _ ({ dst := some 49, op := _, type := _, pos := _, after := _, guard := _ } :: _) _ _; refine Hid.out ?_)
    show wpList _ _ _ _ _ _
    refine wpList_append_bs rfl (.tmp 46) (.tmp 48) 29 rfl _ 3 i0 (.int .i64 0) 1 q Try.underlying29 HI0.out.1 HI0.out.2.1 HI0.out.2.2.1 HI0.out.2.2.2 rfl (by omega) v5 (0 + 0) ([] ++ [].map iv) (bs_al hb5.out _) _ 1 1 [iv t] rfl rfl (rd_one w5 t) (by have := hw5.out.size; have := HVS.out.1; simp; omega) (by have := HMM.out; omega) ?_
    intro v7 w7 hb7 hw7
    obtain ⟨a7, c7, hv7, _, hrd7, _⟩ := hb7.out.read
    have HN7 : Hid (0 + 0 + 1 = 0 + 1) := by show _ = _; omega
    rw [HN7.out] at hv7 hrd7
    have HRD7 : Hid (Rd w7 3 1 a7 (0 + 1) (([] ++ [t]).map iv)) := by show Rd _ _ _ _ _ _; simpa using hrd7
    subst hv7
    have HB7 : Hid (Below q V w7) := (HV1B.out.trans hw5.out).trans (((below_al w5 _).mono (by have := hw5.out.size; have := HVS.out.1; omega)).trans hw7.out)
    have HX0 : Hid (Blk w7 g0 31 [iv B, iv R, iv n, iv U, .slice _ 0 cap]) := HV0.out.below HB7.out HVS.out.2.1
    have HX1 : Hid (Blk w7 g1 31 [iv 0, iv 0, iv 0, iv 0, .slice none 0 0]) := HV1.out.below HB7.out HVS.out.2.2.1
    have HXW : Hid (Below w.heap.size w w7) := HVW.out.trans (HB7.out.mono HVS.out.2.2.2)
    obtain ⟨y00, y01, y02, y03, y04, z00⟩ := five_at HX0.out
    obtain ⟨y10, y11, y12, y13, y14, z10⟩ := five_at HX1.out
    have HXX : Hid (Blk (w7.setCell ⟨g0, 4, none⟩ (.slice a7 (0 + 1) c7)) g0 31 [iv B, iv R, iv n, iv U, .slice a7 (0 + 1) c7] ∧ Blk (w7.setCell ⟨g0, 4, none⟩ (.slice a7 (0 + 1) c7)) g1 31 [iv 0, iv 0, iv 0, iv 0, .slice none 0 0]) := ⟨HX0.out.set 4 _, HX1.out.other (by exact HGG.out.2.1.symm) _⟩
    obtain ⟨k00, k01, k02, k03, k04, l00⟩ := five_at HXX.out.1
    obtain ⟨k10, k11, k12, k13, k14, l10⟩ := five_at HXX.out.2
    clear d00 d01 d02 d03 d04 e00 d10 d11 d12 d13 d14 e10 d04a hb5 hw5 hb7 hw7 hrd7 hV1
    go_wp2
    refine ret_rv rfl rfl rfl (((((HXX.out.2.set 0 _).set 1 _).set 2 _).set 3 _).set 4 _) ?_
    refine ⟨a7, c7, rfl, ?_, ?_⟩
    · exact below_grown (below_grown HXW.out (grown_setCell _ _ _ _) (fun j hj => by cases hj; exact HGG.out.2.2) (Nat.le_refl _)) (grown_tr (grown_tr (grown_tr (grown_tr (grown_setCell _ _ _ _) (grown_setCell _ _ _ _)) (grown_setCell _ _ _ _)) (grown_setCell _ _ _ _)) (grown_setCell _ _ _ _)) (fun j hj => by cases hj; exact HGG.out.1) (Nat.le_refl _)
    · exact rd_kept (rd_kept HRD7.out (grown_setCell _ _ _ _) HX0.out (by decide)) (grown_tr (grown_tr (grown_tr (grown_tr (grown_setCell _ _ _ _) (grown_setCell _ _ _ _)) (grown_setCell _ _ _ _)) (grown_setCell _ _ _ _)) (grown_setCell _ _ _ _)) HXX.out.2 (by decide)
  | succ k =>
    obtain ⟨m, hmk⟩ : ∃ m, k + 1 = m := ⟨_, rfl⟩
    rw [hmk] at hm hW1 HB0 HRD HMM c04 HF ⊢
    obtain ⟨ys, x, rfl, hys⟩ := snoc_of hml
    have hx0 := (hx.1.1 x (by simp)).1
    have hxl : x / n = L := hx.2.2 x (by simp)
    obtain ⟨xg, xo, ha, hrt, hxr⟩ := HRD.out.2.2 (by omega)
    subst ha
    have cx : W1.cell? ⟨xg, xo + k, none⟩ = some (iv x) := hxr k _ (by simp [← hys])
    have q4 : (k : Int) < (m : Int) := by omega
    have q2 : ((m : Int) == 0) = false := by simp; omega
    have q9 : decide (0 < m) = true := by simp; omega
    have q3 : IntKind.i64.wrap ((m : Int) - 1) = (k : Int) := by rw [wrapi (by omega) (by omega)]; omega
    have hq1 := quo_is hx0.1 hx0.2 hn
    have hq2 := quo_is h0 ht hn
    have q8 : decide (t < 0) = false := by simp; omega
    have q6 : decide (wrap64 (t.tdiv n) < wrap64 (x.tdiv n)) = false := by rw [hq1, hq2, hxl]; simp; omega
    have q6' : ¬ wrap64 (t.tdiv n) < wrap64 (x.tdiv n) := by rw [hq1, hq2, hxl]; omega
    clear hr hm hg hx ht hml hys hx0 hxl hrt hxr hmk hq1 hq2 h1
    go_enter Try.func12, Try.ntmps12
    go_wp2_with fail
    rw [← hW1, ← hg1, ← hg0]
    clear hW1 hg0 hg1
    go_quiet (fail)
    go_wp2_with fail
    refine hit_region (b := B) (r := R) (n := n) (u := U) (c := (c : Int)) (a := _) (m := m) (cap := cap) (HB0.out.drewN _) ?hf ?_
    case hf =>
      intro V hV
      exact HF.out V ⟨hV.os, hV.tape, hV.output, hV.size, hV.block⟩
    intro V hV
    have HV : Hid (Below W1.heap.size W1 V) := ⟨hV.os, hV.tape, hV.output, hV.size, hV.block⟩
    have HV1 : Hid (Blk V g1 31 [iv 0, iv 0, iv 0, iv 0, .slice none 0 0]) := HB1.out.below HV.out HB1.out.lt
    have HV0 : Hid (Blk V g0 31 [iv B, iv R, iv n, iv U, .slice _ m cap]) := HB0.out.below HV.out HB0.out.lt
    have HVW : Hid (Below w.heap.size w V) := HBW.out.trans (HV.out.mono HBW.out.size)
    obtain ⟨d00, d01, d02, d03, d04, e00⟩ := five_at HV0.out
    obtain ⟨d10, d11, d12, d13, d14, e10⟩ := five_at HV1.out
    clear hV c00 c01 c02 c03 c04 f00 c10 c11 c12 c13 c14 f10
    have d04a : ∀ o, (V.alloc o).cell? ⟨g0, 4, none⟩ = some (.slice _ m cap) := fun o => (HV0.out.alloc o).cell rfl
    obtain ⟨i0, hi0, hz0, hz1, hz2⟩ := info3
    have HI0 : Hid (Try.prog.info? 3 = some i0 ∧ i0.zero = some (.int .i64 0) ∧ i0.size = 1 ∧ i0.bytes ≤ 64) := ⟨hi0, hz0, hz1, hz2⟩
    clear hi0 hz0 hz1 hz2
    go_wp2_with (with_reducible change wpList _ _ _ ({ dst := some 46, op := _, type := _, pos := _, after := _, guard := _ } :: _) _ _; refine Hid.out ?_)
    show wpList _ _ _ _ _ _
    obtain ⟨V1, hV1⟩ : ∃ V1, V.alloc (.cells #[] 3) = V1 := ⟨_, rfl⟩
    have HV1B : Hid (Below V.heap.size V V1) := by rw [← hV1]; exact below_al V _
    have HRT : Hid (RowT V1 3 V.heap.size) := by rw [← hV1]; exact (Blk.new V #[] 3).row
    rw [hV1]
    have HRD1 : Hid (Rd V1 3 1 _ m ((ys ++ [x]).map iv)) := (HRD.out.below HV.out (Nat.le_refl _)).below HV1B.out (Nat.le_refl _)
    have HVS : Hid (V.heap.size ≤ V1.heap.size ∧ g0 < V.heap.size ∧ g1 < V.heap.size ∧ w.heap.size ≤ V.heap.size) := ⟨HV1B.out.size, HV0.out.lt, HV1.out.lt, HVW.out.size⟩
    generalize V.heap.size = q at HVS HV1B HRT ⊢
    refine wpList_append_bs rfl (.tmp 43) (.tmp 45) 29 rfl _ 3 i0 (.int .i64 0) 1 q Try.underlying29 HI0.out.1 HI0.out.2.1 HI0.out.2.2.1 HI0.out.2.2.2 rfl (by omega) _ 0 [] (.inl ⟨_, rfl, Rd.nil _ _ _ _, .inr ⟨q, 0, rfl⟩⟩) _ m cap ((ys ++ [x]).map iv) rfl rfl HRD1.out HVS.out.1 (by have := HMM.out; omega) ?_
    intro v5 w5 hb5 hw5
    go_wp2_with (with_reducible change wpList _ _ _ ({ dst := some 49, op := _, type := _, pos := _, after := _, guard := _ } :: _) _ _; refine Hid.out ?_)
    show wpList _ _ _ _ _ _
    refine wpList_append_bs rfl (.tmp 46) (.tmp 48) 29 rfl _ 3 i0 (.int .i64 0) 1 q Try.underlying29 HI0.out.1 HI0.out.2.1 HI0.out.2.2.1 HI0.out.2.2.2 rfl (by omega) v5 (0 + m) ([] ++ (ys ++ [x]).map iv) (bs_al hb5.out _) _ 1 1 [iv t] rfl rfl (rd_one w5 t) (by have := hw5.out.size; have := HVS.out.1; simp; omega) (by have := HMM.out; omega) ?_
    intro v7 w7 hb7 hw7
    obtain ⟨a7, c7, hv7, _, hrd7, _⟩ := hb7.out.read
    have HN7 : Hid (0 + m + 1 = m + 1) := by show _ = _; omega
    rw [HN7.out] at hv7 hrd7
    have HRD7 : Hid (Rd w7 3 1 a7 (m + 1) (((ys ++ [x]) ++ [t]).map iv)) := by show Rd _ _ _ _ _ _; simpa using hrd7
    subst hv7
    have HB7 : Hid (Below q V w7) := (HV1B.out.trans hw5.out).trans (((below_al w5 _).mono (by have := hw5.out.size; have := HVS.out.1; omega)).trans hw7.out)
    have HX0 : Hid (Blk w7 g0 31 [iv B, iv R, iv n, iv U, .slice _ m cap]) := HV0.out.below HB7.out HVS.out.2.1
    have HX1 : Hid (Blk w7 g1 31 [iv 0, iv 0, iv 0, iv 0, .slice none 0 0]) := HV1.out.below HB7.out HVS.out.2.2.1
    have HXW : Hid (Below w.heap.size w w7) := HVW.out.trans (HB7.out.mono HVS.out.2.2.2)
    obtain ⟨y00, y01, y02, y03, y04, z00⟩ := five_at HX0.out
    obtain ⟨y10, y11, y12, y13, y14, z10⟩ := five_at HX1.out
    have HXX : Hid (Blk (w7.setCell ⟨g0, 4, none⟩ (.slice a7 (m + 1) c7)) g0 31 [iv B, iv R, iv n, iv U, .slice a7 (m + 1) c7] ∧ Blk (w7.setCell ⟨g0, 4, none⟩ (.slice a7 (m + 1) c7)) g1 31 [iv 0, iv 0, iv 0, iv 0, .slice none 0 0]) := ⟨HX0.out.set 4 _, HX1.out.other (by exact HGG.out.2.1.symm) _⟩
    obtain ⟨k00, k01, k02, k03, k04, l00⟩ := five_at HXX.out.1
    obtain ⟨k10, k11, k12, k13, k14, l10⟩ := five_at HXX.out.2
    clear d00 d01 d02 d03 d04 e00 d10 d11 d12 d13 d14 e10 d04a hb5 hw5 hb7 hw7 hrd7 hV1
    go_wp2
    refine ret_rv rfl rfl rfl (((((HXX.out.2.set 0 _).set 1 _).set 2 _).set 3 _).set 4 _) ?_
    refine ⟨a7, c7, rfl, ?_, ?_⟩
    · exact below_grown (below_grown HXW.out (grown_setCell _ _ _ _) (fun j hj => by cases hj; exact HGG.out.2.2) (Nat.le_refl _)) (grown_tr (grown_tr (grown_tr (grown_tr (grown_setCell _ _ _ _) (grown_setCell _ _ _ _)) (grown_setCell _ _ _ _)) (grown_setCell _ _ _ _)) (grown_setCell _ _ _ _)) (fun j hj => by cases hj; exact HGG.out.1) (Nat.le_refl _)
    · exact rd_kept (rd_kept HRD7.out (grown_setCell _ _ _ _) HX0.out (by decide)) (grown_tr (grown_tr (grown_tr (grown_tr (grown_setCell _ _ _ _) (grown_setCell _ _ _ _)) (grown_setCell _ _ _ _)) (grown_setCell _ _ _ _)) (grown_setCell _ _ _ _)) HXX.out.2 (by decide)
#print axioms rhit_ok
end Go.Proofs.Ytbkkdjafcmnliaa.Oct
