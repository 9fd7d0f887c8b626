/-
  Layer 18 (quota): the law QuotaPlays.
-/
import Derived.Test.YtbkkdjafcmnliaaPlaysReg
namespace Go.Proofs.Ytbkkdjafcmnliaa.Oct
open Go.RowKit
variable {w : World}

/-- a meter and the reference's, side by side -/
structure PI (w wr : World) (p rb : Nat) (M : Mt) (xs : List Int) (a : Option Addr) (m cap : Nat) : Prop where
  st : St w wr p M
  rblk : Blk wr rb 31 [iv M.b, iv M.r, iv M.n, iv M.u, .slice a m cap]
  rle : w.heap.size ≤ rb
  rd : Rd wr 3 1 a m (xs.map iv)
  hx : Hx M xs
theorem PI.below {w wr w' : World} {p rb : Nat} {M : Mt} {xs : List Int} {a : Option Addr} {m cap : Nat} (h : PI w wr p rb M xs a m cap) (hb : Below wr.heap.size wr w') : PI w w' p rb M xs a m cap :=
  ⟨h.st.below hb, h.rblk.below hb h.rblk.lt, h.rle, h.rd.below hb (Nat.le_refl _), h.hx⟩
theorem PI.len {w wr : World} {p rb : Nat} {M : Mt} {xs : List Int} {a : Option Addr} {m cap : Nat} (h : PI w wr p rb M xs a m cap) : xs.length = m := by have := h.rd.1; simpa using this
theorem blk_ne {w : World} {p q : Nat} {s t : TypeId} {L K : List Value} (h1 : Blk w p s L) (h2 : Blk w q t K) (hne : s ≠ t) : p ≠ q := fun e => by
  subst e
  have := h1.symm.trans h2
  simp at this
  exact hne this.2
/-- the reference's new meter is stored -/
theorem PI.store {w w4 w0 : World} {p rb : Nat} {M' : Mt} {xs' : List Int} {L : List Value} {a' : Option Addr} {m' cap' : Nat} (hs : St w w4 p M') (hb : Blk w4 rb 31 L) (hl : L.length = 5) (hle : w.heap.size ≤ rb) (hr : Rd w4 3 1 a' m' (xs'.map iv)) (hx : Hx M' xs')
    (h0 : w0 = ((((w4.setCell ⟨rb, 0, none⟩ (iv M'.b)).setCell ⟨rb, 1, none⟩ (iv M'.r)).setCell ⟨rb, 2, none⟩ (iv M'.n)).setCell ⟨rb, 3, none⟩ (iv M'.u)).setCell ⟨rb, 4, none⟩ (.slice a' m' cap')) : PI w w0 p rb M' xs' a' m' cap' ∧ w4.grownBy w0 (some rb) := by
  have hg : w4.grownBy w0 (some rb) := by rw [h0]; exact (grown_tr (grown_tr (grown_tr (grown_tr (grown_setCell _ _ _ _) (grown_setCell _ _ _ _)) (grown_setCell _ _ _ _)) (grown_setCell _ _ _ _)) (grown_setCell _ _ _ _))
  have hpr := blk_ne hs.at_ hb (by decide)
  refine ⟨⟨⟨Blk.kept hs.at_ hg (by simpa using hpr), hs.good, below_grown hs.bel hg (fun j hj => by cases hj; exact hle) (Nat.le_refl _), hs.le⟩, ?_, hle, rd_kept hr hg hb (by decide), hx⟩, hg⟩
  obtain ⟨v0, v1, v2, v3, v4, rfl⟩ := len5 hl
  rw [h0]
  exact ((((hb.set 0 _).set 1 _).set 2 _).set 3 _).set 4 _
theorem hx_charge {M : Mt} {xs : List Int} (h : Hx M xs) (x : Int) : Hx (M.charge x).2 xs := by
  unfold Mt.charge
  split
  · exact h
  · split
    · exact h
    · exact h
theorem hx_refund {M : Mt} {xs : List Int} (h : Hx M xs) (x : Int) : Hx (M.refund x).2 xs := by
  unfold Mt.refund
  split
  · exact h
  · split
    · exact h
    · exact h
theorem st_set2 {w0 W : World} {p : Nat} {M : Mt} (h : St w0 W p M) (b r n : Int) : Calls Try.prog 17 #[.pointer (some ⟨p, 0, none⟩), lv b r n] W fun e w' => e = .returned (iv (M.set b r n).1) ∧ St w0 w' p (M.set b r n).2 ∧ W.grownBy w' (some p) :=
  (set_is h.at_ h.good.2.2.1.1 b r n).mono fun _ _ ⟨h1, h2, h3⟩ => ⟨h1, h.grown h2 (good_set h.good b r n) h3, h3⟩

set_option maxRecDepth 100000 in
set_option maxHeartbeats 8000000 in
theorem plays_bad (b r n : Int) (a : Option Addr) (len cap : Nat) (ho : okL b r n = false) : Calls Try.prog 3 #[lv b r n, .slice a len cap] w fun e w' => e = .returned (.bool true) ∧ Below w.heap.size w w' := by
  obtain ⟨W0, hW0⟩ : ∃ W0, W0 = w.alloc (.cells #[iv b, iv r, iv n] 23) := ⟨_, rfl⟩
  obtain ⟨g, hg⟩ : ∃ g, w.heap.size = g := ⟨_, rfl⟩
  have HB0 : Hid (Below w.heap.size w W0) := by rw [hW0]; exact below_al w _
  have HG : Hid (Blk W0 g 23 [iv b, iv r, iv n]) := by
    rw [hW0, ← hg]
    exact Blk.new w #[iv b, iv r, iv n] 23
  have HN := new_bad W0 b r n ho
  have HR := fun W => rnew_bad b r n W ho
  clear ho
  go_enter Try.func3, Try.ntmps3
  go_wp2_with fail
  rw [← hW0]
  refine HN.mono ?_
  rintro e w1 ⟨rfl, hb1⟩
  have HB1 : Hid (Below w.heap.size w w1) := HB0.out.trans (hb1.mono HB0.out.size)
  have HG1 : Hid (Blk w1 g 23 [iv b, iv r, iv n]) := HG.out.below hb1 HG.out.lt
  have c0 : w1.cell? ⟨g, 0, none⟩ = some (iv b) := HG1.out.cell rfl
  have c1 : w1.cell? ⟨g, 1, none⟩ = some (iv r) := HG1.out.cell rfl
  have c2 : w1.cell? ⟨g, 2, none⟩ = some (iv n) := HG1.out.cell rfl
  clear HN hb1 hW0 hg
  go_wp2_with fail
  refine (HR w1).mono ?_
  rintro e w2 ⟨rfl, hb2⟩
  have HB2 : Hid (∀ o, Below w.heap.size w (w2.alloc o)) := fun o => (HB1.out.trans (hb2.mono HB1.out.size)).trans ((below_al w2 o).mono (HB1.out.trans (hb2.mono HB1.out.size)).size)
  have HL : Hid (∀ o, Calls Try.prog 10 #[] (w2.alloc o) fun e w' => e = .returned (.bool true) ∧ Below w.heap.size w w') := fun o => lives_st (HB2.out o)
  clear HR hb2 c0 c1 c2
  by_cases h3 : (300 : Int) < (len : Int)
  · go_wp2_with (go_at_call 10; refine (HL.out _).mono ?_; rintro e w3 ⟨rfl, hb3⟩)
    go_ret
    exact ⟨rfl, hb3⟩
  · go_wp2_with fail
    go_loopw [9] (fun u wr => u = iv 0 ∧ Hid (∃ o, wr = w2.alloc o)) (fun _ _ => 0)
    case atStart => exact ⟨rfl, _, rfl⟩
    case round =>
      obtain ⟨rfl, ⟨o, ho⟩⟩ := hrel
      have HL3 : Hid (Calls Try.prog 10 #[] wr fun e w' => e = .returned (.bool true) ∧ Below w.heap.size w w') := by rw [ho]; exact HL.out _
      clear ho HL HB2
      by_cases h4 : len = 0
      · subst h4
        go_wp2_with (go_at_call 10; refine (HL3.out).mono ?_; rintro e w4 ⟨rfl, hb4⟩)
        go_ret
        exact ⟨rfl, hb4⟩
      · have q4 : (0 : Int) < (len : Int) := by omega
        go_wp2_with (go_at_call 10; refine (HL3.out).mono ?_; rintro e w4 ⟨rfl, hb4⟩)
        go_ret
        exact ⟨rfl, hb4⟩

set_option maxRecDepth 100000 in
set_option maxHeartbeats 8000000 in
theorem plays_law (b r n : Int) (a : Option Addr) (len cap : Nat) (l : List ActV) (hl : ArgA w a len cap l) : Calls Try.prog 3 #[lv b r n, .slice a len cap] w fun e w' => e = .returned (.bool true) ∧ Below w.heap.size w w' := by
  cases ho : okL b r n
  · exact plays_bad b r n a len cap ho
  · obtain ⟨W0, hW0⟩ : ∃ W0, W0 = w.alloc (.cells #[iv b, iv r, iv n] 23) := ⟨_, rfl⟩
    obtain ⟨g, hg⟩ : ∃ g, w.heap.size = g := ⟨_, rfl⟩
    have HB0 : Hid (Below w.heap.size w W0) := by rw [hW0]; exact below_al w _
    have HG : Hid (Blk W0 g 23 [iv b, iv r, iv n]) := by
      rw [hW0, ← hg]
      exact Blk.new w #[iv b, iv r, iv n] 23
    have HL : Hid (ArgA W0 a len cap l) := by rw [hW0]; exact hl.below (below_al w _)
    have HN := st_new W0 b r n ho
    have HR := fun W => rnew_ok b r n W ho
    generalize W0.heap.size + 1 = p at HN
    have HFX : Hid (Hx (Mt.fresh b r n) []) := Hx.nil rfl rfl
    clear ho hl
    go_enter Try.func3, Try.ntmps3
    go_wp2_with fail
    rw [← hW0]
    refine HN.mono ?_
    rintro e w1 ⟨rfl, s1⟩
    have HS1 : Hid (St W0 w1 p (Mt.fresh b r n)) := s1
    have HG1 : Hid (Blk w1 g 23 [iv b, iv r, iv n]) := HG.out.below s1.bel HG.out.lt
    have c0 : w1.cell? ⟨g, 0, none⟩ = some (iv b) := HG1.out.cell rfl
    have c1 : w1.cell? ⟨g, 1, none⟩ = some (iv r) := HG1.out.cell rfl
    have c2 : w1.cell? ⟨g, 2, none⟩ = some (iv n) := HG1.out.cell rfl
    clear HN s1 hW0 hg
    go_wp2_with fail
    refine (HR w1).mono ?_
    rintro e w2 ⟨rfl, hb2⟩
    have HPI : Hid (PI W0 (w2.alloc (.cells #[iv b, iv r, iv n, iv 0, .slice none 0 0] 31)) p w2.heap.size (Mt.fresh b r n) [] none 0 0) :=
      ⟨(HS1.out.below hb2).al _, Blk.new w2 #[iv b, iv r, iv n, iv 0, .slice none 0 0] 31, Nat.le_trans HS1.out.bel.size hb2.size, Rd.nil _ _ _ _, HFX.out⟩
    clear HR hb2 c0 c1 c2
    by_cases h3 : (300 : Int) < (len : Int)
    · have HL3 : Hid (Calls Try.prog 10 #[] (w2.alloc (.cells #[iv b, iv r, iv n, iv 0, .slice none 0 0] 31)) fun e w' => e = .returned (.bool true) ∧ Below w.heap.size w w') := lives_st (HB0.out.trans (HPI.out.st.bel.mono HB0.out.size))
      go_wp2_with (go_at_call 10; refine (HL3.out).mono ?_; rintro e w3 ⟨rfl, hb3⟩)
      go_ret
      exact ⟨rfl, hb3⟩
    · have hq3 : len ≤ 300 := by omega
      have HQ3 : Hid (len ≤ 300) := hq3
      have q3 : (len : Int) ≤ 300 := by omega
      go_wp2_with fail
      obtain ⟨rb, hrb⟩ : ∃ rb, w2.heap.size = rb := ⟨_, rfl⟩
      rw [hrb] at HPI ⊢
      clear hrb h3 hq3
      go_loopw [9] (fun u wr => ∃ (i : Nat) (M : Mt) (xs : List Int) (ra : Option Addr) (rm rc : Nat), u = iv i ∧ Hid (i ≤ len ∧ rm ≤ i ∧ PI W0 wr p rb M xs ra rm rc)) (fun u _ => len - (intOf u).toNat)
      case atStart => exact ⟨0, _, _, _, _, _, rfl, Nat.zero_le _, Nat.le_refl _, HPI.out⟩
      case round =>
        obtain ⟨i, M, xs, ra, rm, rc, rfl, HV⟩ := hrel
        have HBW : Hid (Below w.heap.size w wr) := HB0.out.trans (HV.out.2.2.st.bel.mono HB0.out.size)
        clear HPI HFX
        by_cases ht : i = len
        · have q : (len : Int) ≤ (i : Int) := by omega
          have HL := lives_st HBW.out
          go_wp2_with (go_at_call 10; refine HL.mono ?_; rintro e w2 ⟨rfl, hb⟩)
          go_ret
          exact ⟨rfl, hb⟩
        · have HT : Hid (i < len) := by show _ < _; have := HV.out.1; omega
          have q : (i : Int) < (len : Int) := by have := HT.out; omega
          obtain ⟨ab, aoff, ha, hal, hact⟩ := HL.out.2.2.2 (by have := HT.out; omega)
          subst ha
          obtain ⟨x, hx⟩ : ∃ x, l[i]? = some x := ⟨_, List.getElem?_eq_getElem (by rw [HL.out.1]; exact HT.out)⟩
          have hA := (hact i x hx).below HV.out.2.2.st.bel hal
          have c0 : wr.cell? ⟨ab, aoff + i * 5, none⟩ = some (iv x.kind) := hA.1 0 _ rfl
          have c1 : wr.cell? ⟨ab, aoff + i * 5 + 1, none⟩ = some (iv x.n) := hA.1 1 _ rfl
          have c2 : wr.cell? ⟨ab, aoff + i * 5 + 2, none⟩ = some (iv x.b) := hA.1 2 _ rfl
          have c3 : wr.cell? ⟨ab, aoff + i * 5 + 3, none⟩ = some (iv x.r) := hA.1 3 _ rfl
          have c4 : wr.cell? ⟨ab, aoff + i * 5 + 4, none⟩ = some (iv x.win) := hA.1 4 _ rfl
          have HX64 : Hid (I64 x.n) := hA.2.2.1
          generalize x.kind = K at c0
          generalize x.n = X at c1 HX64
          generalize x.b = y2 at c2
          generalize x.r = y3 at c3
          generalize x.win = y4 at c4
          clear hact hal hx hA ht
          have HPA : Hid (∀ o, PI W0 (wr.alloc o) p rb M xs ra rm rc) := fun o => HV.out.2.2.below (below_al wr o)
          have HPP : Hid (p < wr.heap.size ∧ rb < wr.heap.size ∧ p ≠ rb ∧ rm ≤ 1000 ∧ rm ≤ i) := ⟨Blk.lt HV.out.2.2.st.at_, HV.out.2.2.rblk.lt, blk_ne HV.out.2.2.st.at_ HV.out.2.2.rblk (by decide), by have := HV.out.2.1; have := HV.out.1; have := HQ3.out; omega, HV.out.2.1⟩
          clear HV
          by_cases hK0 : K = 0
          · subst hK0
            rcases hit_cases (M := M) X with he | ⟨h0, h1, h2, he⟩ | ⟨h0, h1, h2, he⟩
            · obtain ⟨wa, hwa⟩ : ∃ wa, wr.alloc (.cells #[.int .i64 0, .int .i64 X, .int .i64 y2, .int .i64 y3, .int .i64 y4] 36) = wa := ⟨_, rfl⟩
              obtain ⟨ag, hag⟩ : ∃ ag, wr.heap.size = ag := ⟨_, rfl⟩
              have HA : Hid (Blk wa ag 36 [iv 0, iv X, iv y2, iv y3, iv y4] ∧ PI W0 wa p rb M xs ra rm rc ∧ ag ≠ p ∧ ag ≠ rb) := by
                rw [← hwa, ← hag]
                exact ⟨Blk.new wr #[iv 0, iv X, iv y2, iv y3, iv y4] 36, HPA.out _, by have := HPP.out.1; omega, by have := HPP.out.2.1; omega⟩
              have HE := he
              clear he
              obtain ⟨a0, a1, a2, a3, a4, _⟩ := five_at HA.out.1
              go_wp2_with fail
              have HF := st_hit2 HA.out.2.1.st X HX64.out.2
              rw [HE] at HF
              refine HF.mono ?_
              rintro e w3 ⟨rfl, s3, g3⟩
              have HS3 : Hid (St W0 w3 p (M)) := s3
              have HRB3 : Hid (Blk w3 rb 31 [iv M.b, iv M.r, iv M.n, iv M.u, .slice ra rm rc]) := HA.out.2.1.rblk.kept g3 (by have := HPP.out.2.2.1; simp; omega)
              have HRD3 : Hid (Rd w3 3 1 ra rm (xs.map iv)) := rd_kept HA.out.2.1.rd g3 HA.out.2.1.st.at_ (by decide)
              have HA3 : Hid (Blk w3 ag 36 [iv 0, iv X, iv y2, iv y3, iv y4]) := HA.out.1.kept g3 (by have := HA.out.2.2.1; simp; omega)
              have HGD : Hid (M.good ∧ Hx M xs) := ⟨HA.out.2.1.st.good, HA.out.2.1.hx⟩
              obtain ⟨d0, d1, d2, d3, d4, e0⟩ := five_at HRB3.out
              obtain ⟨b0, b1, b2, b3, b4, _⟩ := five_at HA3.out
              clear HF s3 g3 c0 c1 c2 c3 c4 hwa hag a0 a1 a2 a3 a4
              go_wp2_with fail
              have HG2 := rhit_2 (cap := rc) HRD3.out HPP.out.2.2.2.1 HGD.out.1 HGD.out.2 X HX64.out.2 HE
              skip
              refine HG2.mono ?_
              rintro e w4 ⟨rfl, hb4⟩
              have HS4 : Hid (St W0 w4 p (M)) := HS3.out.below hb4
              have HRB4 : Hid (Blk w4 rb 31 [iv M.b, iv M.r, iv M.n, iv M.u, .slice ra rm rc]) := HRB3.out.below hb4 HRB3.out.lt
              have HRD4 : Hid (Rd w4 3 1 (ra) (rm) ((xs).map iv)) := HRD3.out.below hb4 (Nat.le_refl _)
              have HX4 : Hid (Hx (M) (xs)) := HGD.out.2
              have HA4 : Hid (Blk w4 ag 36 [iv 0, iv X, iv y2, iv y3, iv y4]) := HA3.out.below hb4 HA3.out.lt
              obtain ⟨p0, p1, p2, p3, p4, r0⟩ := five_at HRB4.out
              clear HG2 hb4 d0 d1 d2 d3 d4 e0 b0 b1 b2 b3 b4
              obtain ⟨w5, hw5⟩ : ∃ w5, w5 = ((((w4.setCell ⟨rb, 0, none⟩ (iv (M).b)).setCell ⟨rb, 1, none⟩ (iv (M).r)).setCell ⟨rb, 2, none⟩ (iv (M).n)).setCell ⟨rb, 3, none⟩ (iv (M).u)).setCell ⟨rb, 4, none⟩ (.slice (ra) (rm) (rc)) := ⟨_, rfl⟩
              have HP5 : Hid (PI W0 w5 p rb (M) (xs) (ra) (rm) (rc) ∧ w4.grownBy w5 (some rb)) := PI.store HS4.out HRB4.out rfl HA.out.2.1.rle HRD4.out HX4.out hw5
              have HA5 : Hid (w5.cell? ⟨ag, 1, none⟩ = some (iv X) ∧ ag < w5.heap.size) := by
                have h6 := HA4.out.kept HP5.out.2 (by have := HA.out.2.2.2; simp; omega)
                exact ⟨h6.cell rfl, h6.lt⟩
              go_wp2_with fail
              try rw [← hw5]
              clear hw5 p0 p1 p2 p3 p4 r0
              have HLN : Hid ((rm) ≤ 1000 ∧ (rm) ≤ i + 1) := ⟨HPP.out.2.2.2.1, by have := HPP.out.2.2.2.2; omega⟩
              refine plays_region (h := (M).hitsOf X) HP5.out.1.rblk HA5.out ?h19 ?h20 ?h21 ?_
              case h19 =>
                intro V hV
                exact (st_used2 (HP5.out.1.st.below hV)).mono fun _ _ ⟨h1, h2⟩ => ⟨h1, by rw [← h2]; exact Below.refl _ _⟩
              case h20 =>
                intro V hV
                exact (hits_is (HP5.out.1.st.below hV).at_ HP5.out.1.st.good.2.2.1.1 X HX64.out.2).mono fun _ _ ⟨h1, k, h2⟩ => ⟨h1, by rw [h2]; exact ⟨rfl, rfl, rfl, Nat.le_refl _, fun _ _ => rfl⟩⟩
              case h21 =>
                intro V hV
                exact rlast_is (M := M) (HP5.out.1.rd.below hV (Nat.le_refl _)) (by have := HLN.out.1; omega) HP5.out.1.st.good.2.2.1.1 HP5.out.1.hx X HX64.out.2
              intro V hV
              have HPV : Hid (PI W0 V p rb (M) (xs) (ra) (rm) (rc)) := HP5.out.1.below hV
              clear hV
              go_wp2
              refine ⟨⟨i + 1, _, _, _, _, _, by simp, HT.out, HLN.out.2, HPV.out⟩, ?_⟩
              have := HT.out
              simp only [intOf]
              omega
            · obtain ⟨wa, hwa⟩ : ∃ wa, wr.alloc (.cells #[.int .i64 0, .int .i64 X, .int .i64 y2, .int .i64 y3, .int .i64 y4] 36) = wa := ⟨_, rfl⟩
              obtain ⟨ag, hag⟩ : ∃ ag, wr.heap.size = ag := ⟨_, rfl⟩
              have HA : Hid (Blk wa ag 36 [iv 0, iv X, iv y2, iv y3, iv y4] ∧ PI W0 wa p rb M xs ra rm rc ∧ ag ≠ p ∧ ag ≠ rb) := by
                rw [← hwa, ← hag]
                exact ⟨Blk.new wr #[iv 0, iv X, iv y2, iv y3, iv y4] 36, HPA.out _, by have := HPP.out.1; omega, by have := HPP.out.2.1; omega⟩
              have HE := he
              clear he
              obtain ⟨a0, a1, a2, a3, a4, _⟩ := five_at HA.out.1
              go_wp2_with fail
              have HF := st_hit2 HA.out.2.1.st X HX64.out.2
              rw [HE] at HF
              refine HF.mono ?_
              rintro e w3 ⟨rfl, s3, g3⟩
              have HS3 : Hid (St W0 w3 p (M)) := s3
              have HRB3 : Hid (Blk w3 rb 31 [iv M.b, iv M.r, iv M.n, iv M.u, .slice ra rm rc]) := HA.out.2.1.rblk.kept g3 (by have := HPP.out.2.2.1; simp; omega)
              have HRD3 : Hid (Rd w3 3 1 ra rm (xs.map iv)) := rd_kept HA.out.2.1.rd g3 HA.out.2.1.st.at_ (by decide)
              have HA3 : Hid (Blk w3 ag 36 [iv 0, iv X, iv y2, iv y3, iv y4]) := HA.out.1.kept g3 (by have := HA.out.2.2.1; simp; omega)
              have HGD : Hid (M.good ∧ Hx M xs) := ⟨HA.out.2.1.st.good, HA.out.2.1.hx⟩
              obtain ⟨d0, d1, d2, d3, d4, e0⟩ := five_at HRB3.out
              obtain ⟨b0, b1, b2, b3, b4, _⟩ := five_at HA3.out
              clear HF s3 g3 c0 c1 c2 c3 c4 hwa hag a0 a1 a2 a3 a4
              go_wp2_with fail
              have HG2 := rhit_181 (cap := rc) HRD3.out HPP.out.2.2.2.1 HGD.out.1 HGD.out.2 X HX64.out.2 h0 h1 h2
              skip
              refine HG2.mono ?_
              rintro e w4 ⟨rfl, hb4⟩
              have HS4 : Hid (St W0 w4 p (M)) := HS3.out.below hb4
              have HRB4 : Hid (Blk w4 rb 31 [iv M.b, iv M.r, iv M.n, iv M.u, .slice ra rm rc]) := HRB3.out.below hb4 HRB3.out.lt
              have HRD4 : Hid (Rd w4 3 1 (ra) (rm) ((xs).map iv)) := HRD3.out.below hb4 (Nat.le_refl _)
              have HX4 : Hid (Hx (M) (xs)) := HGD.out.2
              have HA4 : Hid (Blk w4 ag 36 [iv 0, iv X, iv y2, iv y3, iv y4]) := HA3.out.below hb4 HA3.out.lt
              obtain ⟨p0, p1, p2, p3, p4, r0⟩ := five_at HRB4.out
              clear HG2 hb4 d0 d1 d2 d3 d4 e0 b0 b1 b2 b3 b4
              obtain ⟨w5, hw5⟩ : ∃ w5, w5 = ((((w4.setCell ⟨rb, 0, none⟩ (iv (M).b)).setCell ⟨rb, 1, none⟩ (iv (M).r)).setCell ⟨rb, 2, none⟩ (iv (M).n)).setCell ⟨rb, 3, none⟩ (iv (M).u)).setCell ⟨rb, 4, none⟩ (.slice (ra) (rm) (rc)) := ⟨_, rfl⟩
              have HP5 : Hid (PI W0 w5 p rb (M) (xs) (ra) (rm) (rc) ∧ w4.grownBy w5 (some rb)) := PI.store HS4.out HRB4.out rfl HA.out.2.1.rle HRD4.out HX4.out hw5
              have HA5 : Hid (w5.cell? ⟨ag, 1, none⟩ = some (iv X) ∧ ag < w5.heap.size) := by
                have h6 := HA4.out.kept HP5.out.2 (by have := HA.out.2.2.2; simp; omega)
                exact ⟨h6.cell rfl, h6.lt⟩
              go_wp2_with fail
              try rw [← hw5]
              clear hw5 p0 p1 p2 p3 p4 r0
              have HLN : Hid ((rm) ≤ 1000 ∧ (rm) ≤ i + 1) := ⟨HPP.out.2.2.2.1, by have := HPP.out.2.2.2.2; omega⟩
              refine plays_region (h := (M).hitsOf X) HP5.out.1.rblk HA5.out ?h19 ?h20 ?h21 ?_
              case h19 =>
                intro V hV
                exact (st_used2 (HP5.out.1.st.below hV)).mono fun _ _ ⟨h1, h2⟩ => ⟨h1, by rw [← h2]; exact Below.refl _ _⟩
              case h20 =>
                intro V hV
                exact (hits_is (HP5.out.1.st.below hV).at_ HP5.out.1.st.good.2.2.1.1 X HX64.out.2).mono fun _ _ ⟨h1, k, h2⟩ => ⟨h1, by rw [h2]; exact ⟨rfl, rfl, rfl, Nat.le_refl _, fun _ _ => rfl⟩⟩
              case h21 =>
                intro V hV
                exact rlast_is (M := M) (HP5.out.1.rd.below hV (Nat.le_refl _)) (by have := HLN.out.1; omega) HP5.out.1.st.good.2.2.1.1 HP5.out.1.hx X HX64.out.2
              intro V hV
              have HPV : Hid (PI W0 V p rb (M) (xs) (ra) (rm) (rc)) := HP5.out.1.below hV
              clear hV
              go_wp2
              refine ⟨⟨i + 1, _, _, _, _, _, by simp, HT.out, HLN.out.2, HPV.out⟩, ?_⟩
              have := HT.out
              simp only [intOf]
              omega
            · obtain ⟨wa, hwa⟩ : ∃ wa, wr.alloc (.cells #[.int .i64 0, .int .i64 X, .int .i64 y2, .int .i64 y3, .int .i64 y4] 36) = wa := ⟨_, rfl⟩
              obtain ⟨ag, hag⟩ : ∃ ag, wr.heap.size = ag := ⟨_, rfl⟩
              have HA : Hid (Blk wa ag 36 [iv 0, iv X, iv y2, iv y3, iv y4] ∧ PI W0 wa p rb M xs ra rm rc ∧ ag ≠ p ∧ ag ≠ rb) := by
                rw [← hwa, ← hag]
                exact ⟨Blk.new wr #[iv 0, iv X, iv y2, iv y3, iv y4] 36, HPA.out _, by have := HPP.out.1; omega, by have := HPP.out.2.1; omega⟩
              have HE := he
              clear he
              obtain ⟨a0, a1, a2, a3, a4, _⟩ := five_at HA.out.1
              go_wp2_with fail
              have HF := st_hit2 HA.out.2.1.st X HX64.out.2
              rw [HE] at HF
              refine HF.mono ?_
              rintro e w3 ⟨rfl, s3, g3⟩
              have HS3 : Hid (St W0 w3 p ({ M with l := X / M.n, h := M.hitsOf X + 1 })) := s3
              have HRB3 : Hid (Blk w3 rb 31 [iv M.b, iv M.r, iv M.n, iv M.u, .slice ra rm rc]) := HA.out.2.1.rblk.kept g3 (by have := HPP.out.2.2.1; simp; omega)
              have HRD3 : Hid (Rd w3 3 1 ra rm (xs.map iv)) := rd_kept HA.out.2.1.rd g3 HA.out.2.1.st.at_ (by decide)
              have HA3 : Hid (Blk w3 ag 36 [iv 0, iv X, iv y2, iv y3, iv y4]) := HA.out.1.kept g3 (by have := HA.out.2.2.1; simp; omega)
              have HGD : Hid (M.good ∧ Hx M xs) := ⟨HA.out.2.1.st.good, HA.out.2.1.hx⟩
              obtain ⟨d0, d1, d2, d3, d4, e0⟩ := five_at HRB3.out
              obtain ⟨b0, b1, b2, b3, b4, _⟩ := five_at HA3.out
              clear HF s3 g3 c0 c1 c2 c3 c4 hwa hag a0 a1 a2 a3 a4
              go_wp2_with fail
              have HG2 := rhit_ok (cap := rc) HRD3.out HPP.out.2.2.2.1 HGD.out.1 HGD.out.2 X HX64.out.2 h0 h1 h2
              skip
              refine HG2.mono ?_
              rintro e w4 ⟨ra2, rc2, rfl, hb4, hrd4⟩
              have HS4 : Hid (St W0 w4 p ({ M with l := X / M.n, h := M.hitsOf X + 1 })) := HS3.out.below hb4
              have HRB4 : Hid (Blk w4 rb 31 [iv M.b, iv M.r, iv M.n, iv M.u, .slice ra rm rc]) := HRB3.out.below hb4 HRB3.out.lt
              have HRD4 : Hid (Rd w4 3 1 (ra2) (rm + 1) ((xs ++ [X]).map iv)) := hrd4
              have HX4 : Hid (Hx ({ M with l := X / M.n, h := M.hitsOf X + 1 }) (xs ++ [X])) := HGD.out.2.hit h0 HX64.out.2 h1
              have HA4 : Hid (Blk w4 ag 36 [iv 0, iv X, iv y2, iv y3, iv y4]) := HA3.out.below hb4 HA3.out.lt
              obtain ⟨p0, p1, p2, p3, p4, r0⟩ := five_at HRB4.out
              clear HG2 hb4 d0 d1 d2 d3 d4 e0 b0 b1 b2 b3 b4
              obtain ⟨w5, hw5⟩ : ∃ w5, w5 = ((((w4.setCell ⟨rb, 0, none⟩ (iv ({ M with l := X / M.n, h := M.hitsOf X + 1 }).b)).setCell ⟨rb, 1, none⟩ (iv ({ M with l := X / M.n, h := M.hitsOf X + 1 }).r)).setCell ⟨rb, 2, none⟩ (iv ({ M with l := X / M.n, h := M.hitsOf X + 1 }).n)).setCell ⟨rb, 3, none⟩ (iv ({ M with l := X / M.n, h := M.hitsOf X + 1 }).u)).setCell ⟨rb, 4, none⟩ (.slice (ra2) (rm + 1) (rc2)) := ⟨_, rfl⟩
              have HP5 : Hid (PI W0 w5 p rb ({ M with l := X / M.n, h := M.hitsOf X + 1 }) (xs ++ [X]) (ra2) (rm + 1) (rc2) ∧ w4.grownBy w5 (some rb)) := PI.store HS4.out HRB4.out rfl HA.out.2.1.rle HRD4.out HX4.out hw5
              have HA5 : Hid (w5.cell? ⟨ag, 1, none⟩ = some (iv X) ∧ ag < w5.heap.size) := by
                have h6 := HA4.out.kept HP5.out.2 (by have := HA.out.2.2.2; simp; omega)
                exact ⟨h6.cell rfl, h6.lt⟩
              go_wp2_with fail
              try rw [← hw5]
              clear hw5 p0 p1 p2 p3 p4 r0
              have HLN : Hid ((rm + 1) ≤ 1000 ∧ (rm + 1) ≤ i + 1) := ⟨by have := HPP.out.2.2.2.2; have := HQ3.out; have := HT.out; omega, by have := HPP.out.2.2.2.2; omega⟩
              refine plays_region (h := ({ M with l := X / M.n, h := M.hitsOf X + 1 }).hitsOf X) HP5.out.1.rblk HA5.out ?h19 ?h20 ?h21 ?_
              case h19 =>
                intro V hV
                exact (st_used2 (HP5.out.1.st.below hV)).mono fun _ _ ⟨h1, h2⟩ => ⟨h1, by rw [← h2]; exact Below.refl _ _⟩
              case h20 =>
                intro V hV
                exact (hits_is (HP5.out.1.st.below hV).at_ HP5.out.1.st.good.2.2.1.1 X HX64.out.2).mono fun _ _ ⟨h1, k, h2⟩ => ⟨h1, by rw [h2]; exact ⟨rfl, rfl, rfl, Nat.le_refl _, fun _ _ => rfl⟩⟩
              case h21 =>
                intro V hV
                exact rlast_is (M := { M with l := X / M.n, h := M.hitsOf X + 1 }) (HP5.out.1.rd.below hV (Nat.le_refl _)) (by have := HLN.out.1; omega) HP5.out.1.st.good.2.2.1.1 HP5.out.1.hx X HX64.out.2
              intro V hV
              have HPV : Hid (PI W0 V p rb ({ M with l := X / M.n, h := M.hitsOf X + 1 }) (xs ++ [X]) (ra2) (rm + 1) (rc2)) := HP5.out.1.below hV
              clear hV
              go_wp2
              refine ⟨⟨i + 1, _, _, _, _, _, by simp, HT.out, HLN.out.2, HPV.out⟩, ?_⟩
              have := HT.out
              simp only [intOf]
              omega
          · by_cases hK1 : K = 1
            · subst hK1
              obtain ⟨wa, hwa⟩ : ∃ wa, wr.alloc (.cells #[.int .i64 1, .int .i64 X, .int .i64 y2, .int .i64 y3, .int .i64 y4] 36) = wa := ⟨_, rfl⟩
              obtain ⟨ag, hag⟩ : ∃ ag, wr.heap.size = ag := ⟨_, rfl⟩
              have HA : Hid (Blk wa ag 36 [iv 1, iv X, iv y2, iv y3, iv y4] ∧ PI W0 wa p rb M xs ra rm rc ∧ ag ≠ p ∧ ag ≠ rb) := by
                rw [← hwa, ← hag]
                exact ⟨Blk.new wr #[iv 1, iv X, iv y2, iv y3, iv y4] 36, HPA.out _, by have := HPP.out.1; omega, by have := HPP.out.2.1; omega⟩
              obtain ⟨c, M2, HE⟩ : ∃ c M2, M.charge X = (c, M2) := ⟨_, _, rfl⟩
              have HXM : Hid (Hx M2 xs) := by have := hx_charge HA.out.2.1.hx X; rw [HE] at this; exact this
              obtain ⟨a0, a1, a2, a3, a4, _⟩ := five_at HA.out.1
              go_wp2_with fail
              have HF := st_charge2 HA.out.2.1.st X
              rw [HE] at HF
              refine HF.mono ?_
              rintro e w3 ⟨rfl, s3, g3⟩
              have HS3 : Hid (St W0 w3 p (M2)) := s3
              have HRB3 : Hid (Blk w3 rb 31 [iv M.b, iv M.r, iv M.n, iv M.u, .slice ra rm rc]) := HA.out.2.1.rblk.kept g3 (by have := HPP.out.2.2.1; simp; omega)
              have HRD3 : Hid (Rd w3 3 1 ra rm (xs.map iv)) := rd_kept HA.out.2.1.rd g3 HA.out.2.1.st.at_ (by decide)
              have HA3 : Hid (Blk w3 ag 36 [iv 1, iv X, iv y2, iv y3, iv y4]) := HA.out.1.kept g3 (by have := HA.out.2.2.1; simp; omega)
              have HGD : Hid (M.good ∧ Hx M xs) := ⟨HA.out.2.1.st.good, HA.out.2.1.hx⟩
              obtain ⟨d0, d1, d2, d3, d4, e0⟩ := five_at HRB3.out
              obtain ⟨b0, b1, b2, b3, b4, _⟩ := five_at HA3.out
              clear HF s3 g3 c0 c1 c2 c3 c4 hwa hag a0 a1 a2 a3 a4
              go_wp2_with fail
              have HG2 := rcharge_is HGD.out.1 ra rm rc X w3
              rw [HE] at HG2
              refine HG2.mono ?_
              rintro e w4 ⟨rfl, hb4⟩
              have HS4 : Hid (St W0 w4 p (M2)) := HS3.out.below hb4
              have HRB4 : Hid (Blk w4 rb 31 [iv M.b, iv M.r, iv M.n, iv M.u, .slice ra rm rc]) := HRB3.out.below hb4 HRB3.out.lt
              have HRD4 : Hid (Rd w4 3 1 (ra) (rm) ((xs).map iv)) := HRD3.out.below hb4 (Nat.le_refl _)
              have HX4 : Hid (Hx (M2) (xs)) := HXM.out
              have HA4 : Hid (Blk w4 ag 36 [iv 1, iv X, iv y2, iv y3, iv y4]) := HA3.out.below hb4 HA3.out.lt
              obtain ⟨p0, p1, p2, p3, p4, r0⟩ := five_at HRB4.out
              clear HG2 hb4 d0 d1 d2 d3 d4 e0 b0 b1 b2 b3 b4
              obtain ⟨w5, hw5⟩ : ∃ w5, w5 = ((((w4.setCell ⟨rb, 0, none⟩ (iv (M2).b)).setCell ⟨rb, 1, none⟩ (iv (M2).r)).setCell ⟨rb, 2, none⟩ (iv (M2).n)).setCell ⟨rb, 3, none⟩ (iv (M2).u)).setCell ⟨rb, 4, none⟩ (.slice (ra) (rm) (rc)) := ⟨_, rfl⟩
              have HP5 : Hid (PI W0 w5 p rb (M2) (xs) (ra) (rm) (rc) ∧ w4.grownBy w5 (some rb)) := PI.store HS4.out HRB4.out rfl HA.out.2.1.rle HRD4.out HX4.out hw5
              have HA5 : Hid (w5.cell? ⟨ag, 1, none⟩ = some (iv X) ∧ ag < w5.heap.size) := by
                have h6 := HA4.out.kept HP5.out.2 (by have := HA.out.2.2.2; simp; omega)
                exact ⟨h6.cell rfl, h6.lt⟩
              go_wp2_with fail
              try rw [← hw5]
              clear hw5 p0 p1 p2 p3 p4 r0
              have HLN : Hid ((rm) ≤ 1000 ∧ (rm) ≤ i + 1) := ⟨HPP.out.2.2.2.1, by have := HPP.out.2.2.2.2; omega⟩
              refine plays_region (h := (M2).hitsOf X) HP5.out.1.rblk HA5.out ?h19 ?h20 ?h21 ?_
              case h19 =>
                intro V hV
                exact (st_used2 (HP5.out.1.st.below hV)).mono fun _ _ ⟨h1, h2⟩ => ⟨h1, by rw [← h2]; exact Below.refl _ _⟩
              case h20 =>
                intro V hV
                exact (hits_is (HP5.out.1.st.below hV).at_ HP5.out.1.st.good.2.2.1.1 X HX64.out.2).mono fun _ _ ⟨h1, k, h2⟩ => ⟨h1, by rw [h2]; exact ⟨rfl, rfl, rfl, Nat.le_refl _, fun _ _ => rfl⟩⟩
              case h21 =>
                intro V hV
                exact rlast_is (M := M2) (HP5.out.1.rd.below hV (Nat.le_refl _)) (by have := HLN.out.1; omega) HP5.out.1.st.good.2.2.1.1 HP5.out.1.hx X HX64.out.2
              intro V hV
              have HPV : Hid (PI W0 V p rb (M2) (xs) (ra) (rm) (rc)) := HP5.out.1.below hV
              clear hV
              go_wp2
              refine ⟨⟨i + 1, _, _, _, _, _, by simp, HT.out, HLN.out.2, HPV.out⟩, ?_⟩
              have := HT.out
              simp only [intOf]
              omega
            · by_cases hK2 : K = 2
              · subst hK2
                obtain ⟨wa, hwa⟩ : ∃ wa, wr.alloc (.cells #[.int .i64 2, .int .i64 X, .int .i64 y2, .int .i64 y3, .int .i64 y4] 36) = wa := ⟨_, rfl⟩
                obtain ⟨ag, hag⟩ : ∃ ag, wr.heap.size = ag := ⟨_, rfl⟩
                have HA : Hid (Blk wa ag 36 [iv 2, iv X, iv y2, iv y3, iv y4] ∧ PI W0 wa p rb M xs ra rm rc ∧ ag ≠ p ∧ ag ≠ rb) := by
                  rw [← hwa, ← hag]
                  exact ⟨Blk.new wr #[iv 2, iv X, iv y2, iv y3, iv y4] 36, HPA.out _, by have := HPP.out.1; omega, by have := HPP.out.2.1; omega⟩
                obtain ⟨c, M2, HE⟩ : ∃ c M2, M.refund X = (c, M2) := ⟨_, _, rfl⟩
                have HXM : Hid (Hx M2 xs) := by have := hx_refund HA.out.2.1.hx X; rw [HE] at this; exact this
                obtain ⟨a0, a1, a2, a3, a4, _⟩ := five_at HA.out.1
                go_wp2_with fail
                have HF := st_refund2 HA.out.2.1.st X
                rw [HE] at HF
                refine HF.mono ?_
                rintro e w3 ⟨rfl, s3, g3⟩
                have HS3 : Hid (St W0 w3 p (M2)) := s3
                have HRB3 : Hid (Blk w3 rb 31 [iv M.b, iv M.r, iv M.n, iv M.u, .slice ra rm rc]) := HA.out.2.1.rblk.kept g3 (by have := HPP.out.2.2.1; simp; omega)
                have HRD3 : Hid (Rd w3 3 1 ra rm (xs.map iv)) := rd_kept HA.out.2.1.rd g3 HA.out.2.1.st.at_ (by decide)
                have HA3 : Hid (Blk w3 ag 36 [iv 2, iv X, iv y2, iv y3, iv y4]) := HA.out.1.kept g3 (by have := HA.out.2.2.1; simp; omega)
                have HGD : Hid (M.good ∧ Hx M xs) := ⟨HA.out.2.1.st.good, HA.out.2.1.hx⟩
                obtain ⟨d0, d1, d2, d3, d4, e0⟩ := five_at HRB3.out
                obtain ⟨b0, b1, b2, b3, b4, _⟩ := five_at HA3.out
                clear HF s3 g3 c0 c1 c2 c3 c4 hwa hag a0 a1 a2 a3 a4
                go_wp2_with fail
                have HG2 := rrefund_is HGD.out.1 ra rm rc X w3
                rw [HE] at HG2
                refine HG2.mono ?_
                rintro e w4 ⟨rfl, hb4⟩
                have HS4 : Hid (St W0 w4 p (M2)) := HS3.out.below hb4
                have HRB4 : Hid (Blk w4 rb 31 [iv M.b, iv M.r, iv M.n, iv M.u, .slice ra rm rc]) := HRB3.out.below hb4 HRB3.out.lt
                have HRD4 : Hid (Rd w4 3 1 (ra) (rm) ((xs).map iv)) := HRD3.out.below hb4 (Nat.le_refl _)
                have HX4 : Hid (Hx (M2) (xs)) := HXM.out
                have HA4 : Hid (Blk w4 ag 36 [iv 2, iv X, iv y2, iv y3, iv y4]) := HA3.out.below hb4 HA3.out.lt
                obtain ⟨p0, p1, p2, p3, p4, r0⟩ := five_at HRB4.out
                clear HG2 hb4 d0 d1 d2 d3 d4 e0 b0 b1 b2 b3 b4
                obtain ⟨w5, hw5⟩ : ∃ w5, w5 = ((((w4.setCell ⟨rb, 0, none⟩ (iv (M2).b)).setCell ⟨rb, 1, none⟩ (iv (M2).r)).setCell ⟨rb, 2, none⟩ (iv (M2).n)).setCell ⟨rb, 3, none⟩ (iv (M2).u)).setCell ⟨rb, 4, none⟩ (.slice (ra) (rm) (rc)) := ⟨_, rfl⟩
                have HP5 : Hid (PI W0 w5 p rb (M2) (xs) (ra) (rm) (rc) ∧ w4.grownBy w5 (some rb)) := PI.store HS4.out HRB4.out rfl HA.out.2.1.rle HRD4.out HX4.out hw5
                have HA5 : Hid (w5.cell? ⟨ag, 1, none⟩ = some (iv X) ∧ ag < w5.heap.size) := by
                  have h6 := HA4.out.kept HP5.out.2 (by have := HA.out.2.2.2; simp; omega)
                  exact ⟨h6.cell rfl, h6.lt⟩
                go_wp2_with fail
                try rw [← hw5]
                clear hw5 p0 p1 p2 p3 p4 r0
                have HLN : Hid ((rm) ≤ 1000 ∧ (rm) ≤ i + 1) := ⟨HPP.out.2.2.2.1, by have := HPP.out.2.2.2.2; omega⟩
                refine plays_region (h := (M2).hitsOf X) HP5.out.1.rblk HA5.out ?h19 ?h20 ?h21 ?_
                case h19 =>
                  intro V hV
                  exact (st_used2 (HP5.out.1.st.below hV)).mono fun _ _ ⟨h1, h2⟩ => ⟨h1, by rw [← h2]; exact Below.refl _ _⟩
                case h20 =>
                  intro V hV
                  exact (hits_is (HP5.out.1.st.below hV).at_ HP5.out.1.st.good.2.2.1.1 X HX64.out.2).mono fun _ _ ⟨h1, k, h2⟩ => ⟨h1, by rw [h2]; exact ⟨rfl, rfl, rfl, Nat.le_refl _, fun _ _ => rfl⟩⟩
                case h21 =>
                  intro V hV
                  exact rlast_is (M := M2) (HP5.out.1.rd.below hV (Nat.le_refl _)) (by have := HLN.out.1; omega) HP5.out.1.st.good.2.2.1.1 HP5.out.1.hx X HX64.out.2
                intro V hV
                have HPV : Hid (PI W0 V p rb (M2) (xs) (ra) (rm) (rc)) := HP5.out.1.below hV
                clear hV
                go_wp2
                refine ⟨⟨i + 1, _, _, _, _, _, by simp, HT.out, HLN.out.2, HPV.out⟩, ?_⟩
                have := HT.out
                simp only [intOf]
                omega
              · have q10 : (K == 0) = false := by simpa using hK0
                have q11 : (K == 1) = false := by simpa using hK1
                have q12 : (K == 2) = false := by simpa using hK2
                clear hK0 hK1 hK2
                cases hk : okL y2 y3 y4
                · obtain ⟨wa, hwa⟩ : ∃ wa, wr.alloc (.cells #[.int .i64 K, .int .i64 X, .int .i64 y2, .int .i64 y3, .int .i64 y4] 36) = wa := ⟨_, rfl⟩
                  obtain ⟨ag, hag⟩ : ∃ ag, wr.heap.size = ag := ⟨_, rfl⟩
                  have HA : Hid (Blk wa ag 36 [iv K, iv X, iv y2, iv y3, iv y4] ∧ PI W0 wa p rb M xs ra rm rc ∧ ag ≠ p ∧ ag ≠ rb) := by
                    rw [← hwa, ← hag]
                    exact ⟨Blk.new wr #[iv K, iv X, iv y2, iv y3, iv y4] 36, HPA.out _, by have := HPP.out.1; omega, by have := HPP.out.2.1; omega⟩
                  have HE : M.set y2 y3 y4 = (2, M) := by unfold Mt.set; rw [hk]; rfl
                  obtain ⟨a0, a1, a2, a3, a4, _⟩ := five_at HA.out.1
                  go_wp2_with fail
                  have HF := st_set2 HA.out.2.1.st y2 y3 y4
                  rw [HE] at HF
                  refine HF.mono ?_
                  rintro e w3 ⟨rfl, s3, g3⟩
                  have HS3 : Hid (St W0 w3 p (M)) := s3
                  have HRB3 : Hid (Blk w3 rb 31 [iv M.b, iv M.r, iv M.n, iv M.u, .slice ra rm rc]) := HA.out.2.1.rblk.kept g3 (by have := HPP.out.2.2.1; simp; omega)
                  have HRD3 : Hid (Rd w3 3 1 ra rm (xs.map iv)) := rd_kept HA.out.2.1.rd g3 HA.out.2.1.st.at_ (by decide)
                  have HA3 : Hid (Blk w3 ag 36 [iv K, iv X, iv y2, iv y3, iv y4]) := HA.out.1.kept g3 (by have := HA.out.2.2.1; simp; omega)
                  have HGD : Hid (M.good ∧ Hx M xs) := ⟨HA.out.2.1.st.good, HA.out.2.1.hx⟩
                  obtain ⟨d0, d1, d2, d3, d4, e0⟩ := five_at HRB3.out
                  obtain ⟨b0, b1, b2, b3, b4, _⟩ := five_at HA3.out
                  clear HF s3 g3 c0 c1 c2 c3 c4 hwa hag a0 a1 a2 a3 a4
                  go_wp2_with fail
                  have HG2 := rset_is (M := M) ra rm rc y2 y3 y4 w3
                  rw [HE, hk] at HG2
                  simp only [Bool.false_eq_true, if_false] at HG2
                  refine HG2.mono ?_
                  rintro e w4 ⟨rfl, hb4⟩
                  have HS4 : Hid (St W0 w4 p (M)) := HS3.out.below hb4
                  have HRB4 : Hid (Blk w4 rb 31 [iv M.b, iv M.r, iv M.n, iv M.u, .slice ra rm rc]) := HRB3.out.below hb4 HRB3.out.lt
                  have HRD4 : Hid (Rd w4 3 1 (ra) (rm) ((xs).map iv)) := HRD3.out.below hb4 (Nat.le_refl _)
                  have HX4 : Hid (Hx (M) (xs)) := HGD.out.2
                  have HA4 : Hid (Blk w4 ag 36 [iv K, iv X, iv y2, iv y3, iv y4]) := HA3.out.below hb4 HA3.out.lt
                  obtain ⟨p0, p1, p2, p3, p4, r0⟩ := five_at HRB4.out
                  clear HG2 hb4 d0 d1 d2 d3 d4 e0 b0 b1 b2 b3 b4
                  obtain ⟨w5, hw5⟩ : ∃ w5, w5 = ((((w4.setCell ⟨rb, 0, none⟩ (iv (M).b)).setCell ⟨rb, 1, none⟩ (iv (M).r)).setCell ⟨rb, 2, none⟩ (iv (M).n)).setCell ⟨rb, 3, none⟩ (iv (M).u)).setCell ⟨rb, 4, none⟩ (.slice (ra) (rm) (rc)) := ⟨_, rfl⟩
                  have HP5 : Hid (PI W0 w5 p rb (M) (xs) (ra) (rm) (rc) ∧ w4.grownBy w5 (some rb)) := PI.store HS4.out HRB4.out rfl HA.out.2.1.rle HRD4.out HX4.out hw5
                  have HA5 : Hid (w5.cell? ⟨ag, 1, none⟩ = some (iv X) ∧ ag < w5.heap.size) := by
                    have h6 := HA4.out.kept HP5.out.2 (by have := HA.out.2.2.2; simp; omega)
                    exact ⟨h6.cell rfl, h6.lt⟩
                  go_wp2_with fail
                  try rw [← hw5]
                  clear hw5 p0 p1 p2 p3 p4 r0
                  have HLN : Hid ((rm) ≤ 1000 ∧ (rm) ≤ i + 1) := ⟨HPP.out.2.2.2.1, by have := HPP.out.2.2.2.2; omega⟩
                  refine plays_region (h := (M).hitsOf X) HP5.out.1.rblk HA5.out ?h19 ?h20 ?h21 ?_
                  case h19 =>
                    intro V hV
                    exact (st_used2 (HP5.out.1.st.below hV)).mono fun _ _ ⟨h1, h2⟩ => ⟨h1, by rw [← h2]; exact Below.refl _ _⟩
                  case h20 =>
                    intro V hV
                    exact (hits_is (HP5.out.1.st.below hV).at_ HP5.out.1.st.good.2.2.1.1 X HX64.out.2).mono fun _ _ ⟨h1, k, h2⟩ => ⟨h1, by rw [h2]; exact ⟨rfl, rfl, rfl, Nat.le_refl _, fun _ _ => rfl⟩⟩
                  case h21 =>
                    intro V hV
                    exact rlast_is (M := M) (HP5.out.1.rd.below hV (Nat.le_refl _)) (by have := HLN.out.1; omega) HP5.out.1.st.good.2.2.1.1 HP5.out.1.hx X HX64.out.2
                  intro V hV
                  have HPV : Hid (PI W0 V p rb (M) (xs) (ra) (rm) (rc)) := HP5.out.1.below hV
                  clear hV
                  go_wp2
                  refine ⟨⟨i + 1, _, _, _, _, _, by simp, HT.out, HLN.out.2, HPV.out⟩, ?_⟩
                  have := HT.out
                  simp only [intOf]
                  omega
                · obtain ⟨wa, hwa⟩ : ∃ wa, wr.alloc (.cells #[.int .i64 K, .int .i64 X, .int .i64 y2, .int .i64 y3, .int .i64 y4] 36) = wa := ⟨_, rfl⟩
                  obtain ⟨ag, hag⟩ : ∃ ag, wr.heap.size = ag := ⟨_, rfl⟩
                  have HA : Hid (Blk wa ag 36 [iv K, iv X, iv y2, iv y3, iv y4] ∧ PI W0 wa p rb M xs ra rm rc ∧ ag ≠ p ∧ ag ≠ rb) := by
                    rw [← hwa, ← hag]
                    exact ⟨Blk.new wr #[iv K, iv X, iv y2, iv y3, iv y4] 36, HPA.out _, by have := HPP.out.1; omega, by have := HPP.out.2.1; omega⟩
                  obtain ⟨M2, hM2⟩ : ∃ M2 : Mt, M2 = { b := y2, r := y3, n := y4, u := M.u, l := 0, h := 0 } := ⟨_, rfl⟩
                  have HE : M.set y2 y3 y4 = (0, M2) := by unfold Mt.set; rw [hk, hM2]; rfl
                  have HXM : Hid (Hx M2 []) := by rw [hM2]; exact Hx.nil rfl rfl
                  clear hM2
                  obtain ⟨a0, a1, a2, a3, a4, _⟩ := five_at HA.out.1
                  go_wp2_with fail
                  have HF := st_set2 HA.out.2.1.st y2 y3 y4
                  rw [HE] at HF
                  refine HF.mono ?_
                  rintro e w3 ⟨rfl, s3, g3⟩
                  have HS3 : Hid (St W0 w3 p (M2)) := s3
                  have HRB3 : Hid (Blk w3 rb 31 [iv M.b, iv M.r, iv M.n, iv M.u, .slice ra rm rc]) := HA.out.2.1.rblk.kept g3 (by have := HPP.out.2.2.1; simp; omega)
                  have HRD3 : Hid (Rd w3 3 1 ra rm (xs.map iv)) := rd_kept HA.out.2.1.rd g3 HA.out.2.1.st.at_ (by decide)
                  have HA3 : Hid (Blk w3 ag 36 [iv K, iv X, iv y2, iv y3, iv y4]) := HA.out.1.kept g3 (by have := HA.out.2.2.1; simp; omega)
                  have HGD : Hid (M.good ∧ Hx M xs) := ⟨HA.out.2.1.st.good, HA.out.2.1.hx⟩
                  obtain ⟨d0, d1, d2, d3, d4, e0⟩ := five_at HRB3.out
                  obtain ⟨b0, b1, b2, b3, b4, _⟩ := five_at HA3.out
                  clear HF s3 g3 c0 c1 c2 c3 c4 hwa hag a0 a1 a2 a3 a4
                  go_wp2_with fail
                  have HG2 := rset_is (M := M) ra rm rc y2 y3 y4 w3
                  rw [HE, hk] at HG2
                  simp only [if_true] at HG2
                  refine HG2.mono ?_
                  rintro e w4 ⟨rfl, hb4⟩
                  have HS4 : Hid (St W0 w4 p (M2)) := HS3.out.below hb4
                  have HRB4 : Hid (Blk w4 rb 31 [iv M.b, iv M.r, iv M.n, iv M.u, .slice ra rm rc]) := HRB3.out.below hb4 HRB3.out.lt
                  have HRD4 : Hid (Rd w4 3 1 (none) (0) (([]).map iv)) := Rd.nil _ _ _ _
                  have HX4 : Hid (Hx (M2) ([])) := HXM.out
                  have HA4 : Hid (Blk w4 ag 36 [iv K, iv X, iv y2, iv y3, iv y4]) := HA3.out.below hb4 HA3.out.lt
                  obtain ⟨p0, p1, p2, p3, p4, r0⟩ := five_at HRB4.out
                  clear HG2 hb4 d0 d1 d2 d3 d4 e0 b0 b1 b2 b3 b4
                  obtain ⟨w5, hw5⟩ : ∃ w5, w5 = ((((w4.setCell ⟨rb, 0, none⟩ (iv (M2).b)).setCell ⟨rb, 1, none⟩ (iv (M2).r)).setCell ⟨rb, 2, none⟩ (iv (M2).n)).setCell ⟨rb, 3, none⟩ (iv (M2).u)).setCell ⟨rb, 4, none⟩ (.slice (none) (0) (0)) := ⟨_, rfl⟩
                  have HP5 : Hid (PI W0 w5 p rb (M2) ([]) (none) (0) (0) ∧ w4.grownBy w5 (some rb)) := PI.store HS4.out HRB4.out rfl HA.out.2.1.rle HRD4.out HX4.out hw5
                  have HA5 : Hid (w5.cell? ⟨ag, 1, none⟩ = some (iv X) ∧ ag < w5.heap.size) := by
                    have h6 := HA4.out.kept HP5.out.2 (by have := HA.out.2.2.2; simp; omega)
                    exact ⟨h6.cell rfl, h6.lt⟩
                  go_wp2_with fail
                  try rw [← hw5]
                  clear hw5 p0 p1 p2 p3 p4 r0
                  have HLN : Hid ((0) ≤ 1000 ∧ (0) ≤ i + 1) := ⟨by omega, by omega⟩
                  refine plays_region (h := (M2).hitsOf X) HP5.out.1.rblk HA5.out ?h19 ?h20 ?h21 ?_
                  case h19 =>
                    intro V hV
                    exact (st_used2 (HP5.out.1.st.below hV)).mono fun _ _ ⟨h1, h2⟩ => ⟨h1, by rw [← h2]; exact Below.refl _ _⟩
                  case h20 =>
                    intro V hV
                    exact (hits_is (HP5.out.1.st.below hV).at_ HP5.out.1.st.good.2.2.1.1 X HX64.out.2).mono fun _ _ ⟨h1, k, h2⟩ => ⟨h1, by rw [h2]; exact ⟨rfl, rfl, rfl, Nat.le_refl _, fun _ _ => rfl⟩⟩
                  case h21 =>
                    intro V hV
                    exact rlast_is (M := M2) (HP5.out.1.rd.below hV (Nat.le_refl _)) (by have := HLN.out.1; omega) HP5.out.1.st.good.2.2.1.1 HP5.out.1.hx X HX64.out.2
                  intro V hV
                  have HPV : Hid (PI W0 V p rb (M2) ([]) (none) (0) (0)) := HP5.out.1.below hV
                  clear hV
                  go_wp2
                  refine ⟨⟨i + 1, _, _, _, _, _, by simp, HT.out, HLN.out.2, HPV.out⟩, ?_⟩
                  have := HT.out
                  simp only [intOf]
                  omega
#print axioms plays_law
end Go.Proofs.Ytbkkdjafcmnliaa.Oct
