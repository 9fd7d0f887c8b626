/-
  Layer 16 (token): TokenNone.
-/
import Derived.Test.YtjeahlfmapacfaaDoorBks
import Derived.Test.YtjeahlfmapacfaaDoorTkn
namespace Go.Proofs.YtjeahlfmapacfaaDoor.Oct
open Go.RowKit Sha
set_option linter.unusedSimpArgs false
set_option linter.unusedVariables false

theorem BkAt.other {w w' : World} {b m m' : Nat} {S : List UInt8} {G : List Gr} {l : Kv} (h : BkAt w b m S G) (hm' : MP w m' l) (hne : m ≠ m') (hg : w.grownBy w' (some m')) : BkAt w' b m S G := by
  obtain ⟨a, n, c, h1, h2, h3⟩ := h.sec
  have hbm : b ≠ m' := fun e => by subst e; exact mp_not_cells hm' (h1.cell (i := 0) rfl)
  refine ⟨⟨a, n, c, h1.kept hg (by simp; omega), ?_, h3⟩, h.map.same (hg.block m h.map.lt (by simp; omega)), h.few, h.ok⟩
  refine ⟨h2.1, h2.2.1, h2.2.2.1, h2.2.2.2.1, fun hp => ?_⟩
  obtain ⟨sb, off, e1, e2, e3⟩ := h2.2.2.2.2 hp
  refine ⟨sb, off, e1, Nat.lt_of_lt_of_le e2 hg.size, fun i cc hcc => ?_⟩
  have hne2 : sb ≠ m' := fun e => by subst e; exact mp_not_cells hm' (e3 i cc hcc)
  exact (World.cell?_of_block (a := ⟨sb, off + i, none⟩) (hg.block sb e2 (by simp; omega))).trans (e3 i cc hcc)
theorem idx_mod (N : Int) (L : Nat) (h : 0 < L) : ∃ i : Nat, (IntKind.u64.wrap N).tmod (L : Int) = (i : Int) ∧ i < L := by
  have h0 : 0 ≤ IntKind.u64.wrap N := by rw [IntKind.wrap_u64]; omega
  have h1 : (IntKind.u64.wrap N).tmod (L : Int) = IntKind.u64.wrap N % (L : Int) := Int.tmod_eq_emod_of_nonneg h0
  have h2 := Int.emod_nonneg (IntKind.u64.wrap N) (show (L : Int) ≠ 0 by omega)
  have h3 := Int.emod_lt_of_pos (IntKind.u64.wrap N) (show (0 : Int) < L by omega)
  exact ⟨(IntKind.u64.wrap N % (L : Int)).toNat, by rw [h1]; omega, by omega⟩
theorem iss_50 {u : BA} {G : List Gr} (h : issE [] u 0 50 ≠ 0) : u.data.toList = [] ∨ (46 : UInt8) ∈ u.data.toList := by
  refine Classical.byContradiction fun h1 => h ?_
  simp only [not_or] at h1
  have hnb : ¬ badU u 0 50 := by unfold badU; simp only [not_or]; exact ⟨h1.1, h1.2, by omega, by omega⟩
  unfold issE
  rw [if_neg hnb, if_neg (by omega), if_neg (by simp)]
set_option maxRecDepth 100000 in
set_option maxHeartbeats 2000000 in
theorem none_law {w : World} (q : BooksV) (hq : q.at w) (u : BA) (hu : u.size ≤ 140737488355328) (N : Int) (hN : -9223372036854775808 ≤ N ∧ N ≤ 9223372036854775807) (hV : VT w) : Calls Tryd.prog 5 #[.agg q.cells.toArray, .string u, iv N] w fun e w' => e = .returned (.bool true) ∧ Below w.heap.size w w' := by
  obtain ⟨⟨a1, n1, p1⟩, ⟨a2, n2, p2⟩⟩ := q
  obtain ⟨⟨S1, hS1⟩, S2, hS2⟩ := hq
  have HV : Hid (VT w) := hV
  have HI : Hid (In w a1 n1 p1 S1 ∧ In w a2 n2 p2 S2) := ⟨hS1, hS2⟩
  have z1 : (n1 : Int) ≤ 140737488355328 := by have : n1 ≤ _ := hS1.2.2.1; omega
  have z2 : (n2 : Int) ≤ 140737488355328 := by have : n2 ≤ _ := hS2.2.2.1; omega
  have z3 : (u.size : Int) ≤ 140737488355328 := by omega
  show Calls Tryd.prog 5 #[.agg #[.slice a1 n1 p1, .slice a2 n2 p2], .string u, iv N] w _
  obtain ⟨d, hd⟩ : ∃ d, w.heap.size = d := ⟨_, rfl⟩
  obtain ⟨A, hA⟩ : ∃ A, w.alloc (.cells #[.slice a1 n1 p1, .slice a2 n2 p2] 51) = A := ⟨_, rfl⟩
  have hk : Blk A d 51 [.slice a1 n1 p1, .slice a2 n2 p2] := by rw [← hA, ← hd]; exact Blk.new w _ _
  have HD : Hid (Below w.heap.size w A ∧ d < A.heap.size) := ⟨by rw [← hA]; exact below_al _ _, hk.lt⟩
  have c0 : A.cell? ⟨d, 0, none⟩ = some (.slice a1 n1 p1) := hk.cell rfl
  have c1 : A.cell? ⟨d, 1, none⟩ = some (.slice a2 n2 p2) := hk.cell rfl
  clear hV hS1 hS2 hk hu
  go_enter Tryd.func5, Tryd.ntmps5
  go_wp2_with fail
  refine no1 HD.out.2 c0 c1 ?_
  intro A1 hA1
  have H0 : Hid (Below w.heap.size w A1) := below_tr HD.out.1 hA1
  clear hA1 c0 c1 hA hd
  by_cases hb1 : (1000 : Int) < (n1 : Int) + (n2 : Int) + (u.size : Int)
  · skip
    go_wp2_with fail
    refine (lives_is A1 (HV.out.below H0.out)).mono ?_
    rintro e WL ⟨rfl, hbL⟩
    have HBL : Hid (Below w.heap.size w WL) := below_tr H0.out hbL
    clear hbL
    go_wp2
    go_ret
    exact ⟨rfl, HBL.out⟩
  have q1000 : (n1 : Int) + (n2 : Int) + (u.size : Int) ≤ 1000 := by omega
  have HZ : Hid (n1 ≤ 1000 ∧ n2 ≤ 1000 ∧ u.size ≤ 1000) := ⟨by omega, by omega, by omega⟩
  clear hb1
  go_wp2_with fail
  refine (newtok_is (HI.out.1.below H0.out) (by have := HZ.out; omega)).mono ?_
  rintro e W1 ⟨b1, m1, rfl, hB1, hbl1, hm1⟩
  have H1 : Hid (BkAt W1 b1 m1 S1 [] ∧ Below w.heap.size w W1 ∧ w.heap.size ≤ m1) := ⟨hB1, below_tr H0.out hbl1, Nat.le_trans H0.out.size hm1⟩
  clear hB1 hbl1 hm1
  go_wp2_with fail
  refine (newtok_is (HI.out.2.below H1.out.2.1) (by have := HZ.out; omega)).mono ?_
  rintro e W2 ⟨b2, m2, rfl, hB2, hbl2, hm2⟩
  have H2 : Hid (BkAt W2 b1 m1 S1 [] ∧ BkAt W2 b2 m2 S2 [] ∧ Below w.heap.size w W2 ∧ w.heap.size ≤ m1 ∧ w.heap.size ≤ m2 ∧ W1.heap.size ≤ m2 ∧ m1 < W1.heap.size ∧ BkAt W1 b1 m1 S1 []) := ⟨H1.out.1.below hbl2, hB2, below_tr H1.out.2.1 hbl2, H1.out.2.2, Nat.le_trans H1.out.2.1.size hm2, hm2, H1.out.1.map.lt, H1.out.1⟩
  clear hB2 hbl2 hm2
  go_wp2_with fail
  refine (issue_is H2.out.1 (HV.out.below H2.out.2.2.1) u (by have := HZ.out; omega) 0 50).mono ?_
  intro e W3 hi
  rcases hi with ⟨hne, rfl, hb3⟩ | ⟨h0, X, hX, rfl, hB3, hg3⟩
  · obtain ⟨E, hE⟩ : ∃ E, issE [] u 0 50 = E := ⟨_, rfl⟩
    have HE : Hid (issE [] u 0 50 ≠ 0 ∧ issE [] u 0 50 = E) := ⟨hne, hE⟩
    rw [hE] at hne ⊢
    have hne2 : (E != 0) = true := by simpa using hne
    have H3 : Hid (BkAt W3 b2 m2 S2 [] ∧ Below w.heap.size w W3) := ⟨H2.out.2.1.below hb3, below_tr H2.out.2.2.1 hb3⟩
    clear hb3 hE hne
    go_wp2_with fail
    refine (issue_is H3.out.1 (HV.out.below H3.out.2) u (by have := HZ.out; omega) 0 50).mono ?_
    intro e W4 hi
    have hi2 : e = .returned (.tuple #[.string e0, iv E]) ∧ Below W3.heap.size W3 W4 := by
      rcases hi with ⟨_, h1, h2⟩ | ⟨h0, _⟩
      · rw [HE.out.2] at h1; exact ⟨h1, h2⟩
      · exact absurd h0 HE.out.1
    obtain ⟨rfl, hb4⟩ := hi2
    have H4 : Hid (Below w.heap.size w W4) := below_tr H3.out.2 hb4
    have hEE : (E != E) = false := by simp
    clear hi hb4
    by_cases h1 : u.data.toList = []
    · have e1 : u.toList.isEmpty = true := by rw [toList_d, h1]; rfl
      clear h1
      go_wp2_with fail
      refine (lives_is W4 (HV.out.below H4.out)).mono ?_
      rintro e WL ⟨rfl, hbL⟩
      have HBL : Hid (Below w.heap.size w WL) := below_tr H4.out hbL
      clear hbL
      go_wp2
      go_ret
      exact ⟨rfl, HBL.out⟩
    have e1 : u.toList.isEmpty = false := by rw [toList_d]; cases hh : u.data.toList with | nil => exact absurd hh h1 | cons _ _ => rfl
    have HP : Hid (decide ((46 : UInt8) ∈ u.data.toList) = true) := by
      rcases iss_50 (G := []) HE.out.1 with h | h
      · exact absurd h h1
      · show _ = _; simpa using h
    clear h1
    go_wp2_with fail
    refine (point_is u (by have := HZ.out; omega) W4 true HP.out).mono ?_
    rintro e W5 ⟨rfl, rfl⟩
    go_wp2_with fail
    refine (lives_is W4 (HV.out.below H4.out)).mono ?_
    rintro e WL ⟨rfl, hbL⟩
    have HBL : Hid (Below w.heap.size w WL) := below_tr H4.out hbL
    clear hbL
    go_wp2
    go_ret
    exact ⟨rfl, HBL.out⟩
  · have H3 : Hid (BkAt W3 b1 m1 S1 [⟨u, 50, false⟩] ∧ BkAt W3 b2 m2 S2 [] ∧ Below w.heap.size w W3) := ⟨hB3, H2.out.2.1.other H2.out.1.map (by have := H2.out.2.2.2.2.2; omega) hg3, below_gr H2.out.2.2.1 hg3 H2.out.2.2.2.1⟩
    have HX : Hid (X.data.toList = keyG S1 0 ⟨u, 50, false⟩ ∧ issE [] u 0 50 = 0) := ⟨hX, h0⟩
    clear h0 hX hB3 hg3
    go_wp2_with fail
    refine (issue_is H3.out.2.1 (HV.out.below H3.out.2.2) u (by have := HZ.out; omega) 0 50).mono ?_
    intro e W4 hi
    obtain ⟨Y, hY, rfl, hB4, hg4⟩ : ∃ Y : BA, Y.data.toList = keyG S2 0 ⟨u, 50, false⟩ ∧ e = .returned (.tuple #[.string Y, iv 0]) ∧ BkAt W4 b2 m2 S2 [⟨u, 50, false⟩] ∧ W3.grownBy W4 (some m2) := by
      rcases hi with ⟨h0, _⟩ | ⟨_, Y, h1, h2, h3, h4⟩
      · exact absurd HX.out.2 h0
      · exact ⟨Y, h1, h2, h3, h4⟩
    have H6 : Hid (BkAt W4 b1 m1 S1 [⟨u, 50, false⟩] ∧ Below w.heap.size w W4) := ⟨H3.out.1.other H3.out.2.1.map (by have := H2.out.2.2.2.2.2; omega) hg4, below_gr H3.out.2.2 hg4 H2.out.2.2.2.2.1⟩
    have zk : ∀ S : List UInt8, (keyG S 0 ⟨u, 50, false⟩).length ≤ u.size + 200 ∧ 0 < (keyG S 0 ⟨u, 50, false⟩).length := fun S => ⟨key_len (g := ⟨u, 50, false⟩) (by omega) (by show 50 ≤ _; omega), by unfold keyG txtT sealT; rw [List.length_append, List.length_cons]; omega⟩
    have HXY : Hid (X.data.toList = keyG S1 0 ⟨u, 50, false⟩ ∧ Y.data.toList = keyG S2 0 ⟨u, 50, false⟩ ∧ X.size ≤ 20000 ∧ Y.size ≤ 20000) := by
      have e1 : X.data.toList.length = X.size := rfl
      have e2 : Y.data.toList.length = Y.size := rfl
      have k1 := (zk S1).1
      have k2 := (zk S2).1
      have := HZ.out.2.2
      rw [← HX.out.1] at k1
      rw [← hY] at k2
      exact ⟨HX.out.1, hY, by omega, by omega⟩
    obtain ⟨XS, hXS⟩ : ∃ n, X.size = n := ⟨_, rfl⟩
    have HXS : Hid (X.size = XS ∧ 0 < XS ∧ XS ≤ 20000) := by
      have e1 : X.data.toList.length = X.size := rfl
      have k1 := (zk S1).2
      rw [← HX.out.1] at k1
      exact ⟨hXS, by omega, by have := HXY.out.2.2.1; omega⟩
    have qXS : (X.size : Int) = (XS : Int) := by omega
    have qXS2 : (XS : Int) ≤ 20000 := by have := HXS.out.2.2; omega
    have qXS3 : 0 < (XS : Int) := by have := HXS.out.2.1; omega
    have hXe : X.toList.isEmpty = false := by
      rw [toList_d]
      cases hh : X.data.toList with
      | nil => have e1 : X.data.toList.length = X.size := rfl; rw [hh] at e1; simp at e1; have := HXS.out; omega
      | cons _ _ => rfl
    clear hi hY hB4 hg4 zk hXS
    by_cases hXYe : X.data.toList = Y.data.toList
    · have HAT : Hid (atF S1 0 [⟨u, 50, false⟩] Y.data.toList = some ⟨u, 50, false⟩) := by
        show _ = _
        unfold atF
        rw [if_pos (by rw [← hXYe]; exact HXY.out.1.symm)]
      have eXY : (Y.toList == X.toList) = true := by rw [toList_d, toList_d, hXYe]; exact beq_self_eq_true _
      have euu : (u.toList != u.toList) = false := by simp
      clear hXYe
      go_wp2_with fail
      refine (check_tok H6.out.1 (HV.out.below H6.out.2) Y HXY.out.2.2.2 1 _ HAT.out u 0 rfl rfl).mono ?_
      rintro e W7 ⟨rfl, hb7⟩
      have H7 : Hid (BkAt W7 b1 m1 S1 [⟨u, 50, false⟩] ∧ Below w.heap.size w W7) := ⟨H6.out.1.below hb7, below_tr H6.out.2 hb7⟩
      clear hb7
      go_wp2_with (with_reducible change wpList _ _ _ ({ dst := some 96, op := _, type := _, pos := _, after := _, guard := _ } :: _) _ _; refine Hid.out ?_)
      show wpList _ _ _ _ _ _
      obtain ⟨cap, W8, hcv, HIN8, HFR8, HB8⟩ := label_free W7 X (by have := HXY.out.2.2.1; omega)
      rw [HXS.out.1] at hcv HIN8 HFR8
      refine wpList_conv rfl (.tmp 95) 9 22 rfl (.string X) _ rfl hcv ?_
      obtain ⟨g8, hg8⟩ : ∃ g, W7.heap.size = g := ⟨_, rfl⟩
      rw [hg8] at HIN8 HFR8 ⊢
      have H8 : Hid (BkAt W8 b1 m1 S1 [⟨u, 50, false⟩] ∧ Below w.heap.size w W8 ∧ w.heap.size ≤ g8) := ⟨H7.out.1.below HB8.out, below_tr H7.out.2 HB8.out, by rw [← hg8]; exact H7.out.2.size⟩
      clear hcv
      obtain ⟨i, hi⟩ : ∃ i : Nat, (IntKind.u64.wrap N).tmod (XS : Int) = (i : Int) ∧ i < XS := idx_mod N XS (by have := HXS.out; omega)
      have hi1 := hi.1
      have qi : (i : Int) < (XS : Int) := by omega
      have wi : IntKind.i64.wrap (i : Int) = (i : Int) := by rw [IntKind.wrap_i64]; have := HXS.out; omega
      have wu : IntKind.u64.wrap (XS : Int) = (XS : Int) := by rw [IntKind.wrap_u64]; have := HXS.out; omega
      obtain ⟨cb, hcb⟩ : ∃ c, X.data.toList[i]? = some c := ⟨_, List.getElem?_eq_getElem (by have e : X.data.toList.length = X.size := rfl; rw [e, HXS.out.1]; exact hi.2)⟩
      have cc : W8.cell? ⟨g8, i, none⟩ = some (bv (cb.toNat : Int)) := by
        obtain ⟨b', off, e1, e2, e3⟩ := HIN8.out.2.2.2.2 (by have := HXS.out; omega)
        cases e1
        have := e3 i cb hcb
        rwa [Nat.zero_add] at this
      have cf : W8.frozen? ⟨g8, i, none⟩ = false := HFR8.out i hi.2
      obtain ⟨xb, hxb⟩ : ∃ x : Nat, (cb ^^^ 1).toNat = x := ⟨_, rfl⟩
      have hx1 : bits BinOp.xor IntKind.u8 (cb.toNat : Int) 1 = (xb : Int) := by rw [xor1, hxb]
      obtain ⟨W9, hW9⟩ : ∃ W9, W8.setCell ⟨g8, i, none⟩ (bv (xb : Int)) = W9 := ⟨_, rfl⟩
      have hin9 : In W9 (some ⟨g8, 0, none⟩) XS cap (X.data.toList.set i (cb ^^^ 1)) := by rw [← hW9, ← hxb]; exact in_set HIN8.out hi.2 _
      have hb9 : Below w.heap.size w W9 := by rw [← hW9]; exact below_gr H8.out.2.1 (grown_setCell _ _ _ _) H8.out.2.2
      have hbk9 : BkAt W9 b1 m1 S1 [⟨u, 50, false⟩] := by
        have hb79 : Below W7.heap.size W7 W9 := by rw [← hW9]; exact below_gr HB8.out (grown_setCell _ _ _ _) (by rw [hg8]; exact Nat.le_refl _)
        exact H7.out.1.below hb79
      obtain ⟨Z, hZ⟩ : ∃ Z : BA, ⟨(X.data.toList.set i (cb ^^^ 1)).toArray⟩ = Z := ⟨_, rfl⟩
      have hcv9 := string_in Tryd.underlying22 Tryd.underlying5 Tryd.underlying9 hin9
      rw [hZ] at hcv9
      have hZL : Z.data.toList = X.data.toList.set i (cb ^^^ 1) := by rw [← hZ]
      have hZn : atF S1 0 [⟨u, 50, false⟩] Z.data.toList = none := by
        unfold atF
        rw [if_neg (fun e => set_ne hcb (by rw [← hZL, ← e]; exact HXY.out.1.symm))]
        rfl
      have zZ : Z.size ≤ 20000 := by
        have e1 : Z.data.toList.length = Z.size := rfl
        rw [hZL, List.length_set] at e1
        have e2 : X.data.toList.length = X.size := rfl
        have := HXS.out
        omega
      have H9 : Hid (BkAt W9 b1 m1 S1 [⟨u, 50, false⟩] ∧ Below w.heap.size w W9 ∧ atF S1 0 [⟨u, 50, false⟩] Z.data.toList = none ∧ Z.size ≤ 20000) := ⟨hbk9, hb9, hZn, zZ⟩
      have HIN9 : Hid (In W9 (some ⟨g8, 0, none⟩) XS cap (X.data.toList.set i (cb ^^^ 1)) ∧ (⟨(X.data.toList.set i (cb ^^^ 1)).toArray⟩ : BA) = Z) := ⟨hin9, hZ⟩
      clear hi hxb hcb hin9 hb9 hbk9 hZ hZL hZn zZ HIN8 HFR8 HB8
      go_wp2_with fail
      refine (check_tok H9.out.1 (HV.out.below H9.out.2.1) Z H9.out.2.2.2 1 _ H9.out.2.2.1 e0 160 rfl rfl).mono ?_
      rintro e W10 ⟨rfl, hb10⟩
      have H10 : Hid (BkAt W10 b1 m1 S1 [⟨u, 50, false⟩] ∧ Below w.heap.size w W10) := ⟨H9.out.1.below hb10, below_tr H9.out.2.1 hb10⟩
      have hcv10 := string_in Tryd.underlying22 Tryd.underlying5 Tryd.underlying9 (HIN9.out.1.below hb10)
      rw [HIN9.out.2] at hcv10
      clear hb10 hcv9
      go_wp2_with fail
      refine (revoke_is H10.out.1 (HV.out.below H10.out.2) Z H9.out.2.2.2).mono ?_
      intro e W11 hr
      obtain ⟨he, hr⟩ := hr
      have hre : revE (atF S1 0 [⟨u, 50, false⟩] Z.data.toList) = 160 := by rw [H9.out.2.2.1]; rfl
      rw [hre] at he hr
      subst he
      have hb11 : Below W10.heap.size W10 W11 := by
        rcases hr with ⟨_, h⟩ | ⟨h, _⟩
        · exact h
        · omega
      have H11 : Hid (BkAt W11 b1 m1 S1 [⟨u, 50, false⟩] ∧ Below w.heap.size w W11) := ⟨H10.out.1.below hb11, below_tr H10.out.2 hb11⟩
      clear hr hre hb11 hcv10
      go_wp2_with fail
      refine (len_is H11.out.1).mono ?_
      rintro e W12 ⟨rfl, rfl⟩
      rw [show (([⟨u, 50, false⟩] : List Gr).length : Int) = 1 from rfl]
      go_wp2_with fail
      refine (lives_is W11 (HV.out.below H11.out.2)).mono ?_
      rintro e WL ⟨rfl, hbL⟩
      have HBL : Hid (Below w.heap.size w WL) := below_tr H11.out.2 hbL
      clear hbL
      go_wp2
      go_ret
      exact ⟨rfl, HBL.out⟩
    · have HAT : Hid (atF S1 0 [⟨u, 50, false⟩] Y.data.toList = none) := by
        show _ = _
        unfold atF
        rw [if_neg (fun e => hXYe (by rw [HXY.out.1]; exact e))]
        rfl
      have eXY : (Y.toList == X.toList) = false := by rw [toList_d, toList_d, beq_eq_false_iff_ne]; exact fun e => hXYe e.symm
      clear hXYe
      go_wp2_with fail
      refine (check_tok H6.out.1 (HV.out.below H6.out.2) Y HXY.out.2.2.2 1 _ HAT.out e0 160 rfl rfl).mono ?_
      rintro e W7 ⟨rfl, hb7⟩
      have H7 : Hid (BkAt W7 b1 m1 S1 [⟨u, 50, false⟩] ∧ Below w.heap.size w W7) := ⟨H6.out.1.below hb7, below_tr H6.out.2 hb7⟩
      clear hb7
      go_wp2_with (with_reducible change wpList _ _ _ ({ dst := some 96, op := _, type := _, pos := _, after := _, guard := _ } :: _) _ _; refine Hid.out ?_)
      show wpList _ _ _ _ _ _
      obtain ⟨cap, W8, hcv, HIN8, HFR8, HB8⟩ := label_free W7 X (by have := HXY.out.2.2.1; omega)
      rw [HXS.out.1] at hcv HIN8 HFR8
      refine wpList_conv rfl (.tmp 95) 9 22 rfl (.string X) _ rfl hcv ?_
      obtain ⟨g8, hg8⟩ : ∃ g, W7.heap.size = g := ⟨_, rfl⟩
      rw [hg8] at HIN8 HFR8 ⊢
      have H8 : Hid (BkAt W8 b1 m1 S1 [⟨u, 50, false⟩] ∧ Below w.heap.size w W8 ∧ w.heap.size ≤ g8) := ⟨H7.out.1.below HB8.out, below_tr H7.out.2 HB8.out, by rw [← hg8]; exact H7.out.2.size⟩
      clear hcv
      obtain ⟨i, hi⟩ : ∃ i : Nat, (IntKind.u64.wrap N).tmod (XS : Int) = (i : Int) ∧ i < XS := idx_mod N XS (by have := HXS.out; omega)
      have hi1 := hi.1
      have qi : (i : Int) < (XS : Int) := by omega
      have wi : IntKind.i64.wrap (i : Int) = (i : Int) := by rw [IntKind.wrap_i64]; have := HXS.out; omega
      have wu : IntKind.u64.wrap (XS : Int) = (XS : Int) := by rw [IntKind.wrap_u64]; have := HXS.out; omega
      obtain ⟨cb, hcb⟩ : ∃ c, X.data.toList[i]? = some c := ⟨_, List.getElem?_eq_getElem (by have e : X.data.toList.length = X.size := rfl; rw [e, HXS.out.1]; exact hi.2)⟩
      have cc : W8.cell? ⟨g8, i, none⟩ = some (bv (cb.toNat : Int)) := by
        obtain ⟨b', off, e1, e2, e3⟩ := HIN8.out.2.2.2.2 (by have := HXS.out; omega)
        cases e1
        have := e3 i cb hcb
        rwa [Nat.zero_add] at this
      have cf : W8.frozen? ⟨g8, i, none⟩ = false := HFR8.out i hi.2
      obtain ⟨xb, hxb⟩ : ∃ x : Nat, (cb ^^^ 1).toNat = x := ⟨_, rfl⟩
      have hx1 : bits BinOp.xor IntKind.u8 (cb.toNat : Int) 1 = (xb : Int) := by rw [xor1, hxb]
      obtain ⟨W9, hW9⟩ : ∃ W9, W8.setCell ⟨g8, i, none⟩ (bv (xb : Int)) = W9 := ⟨_, rfl⟩
      have hin9 : In W9 (some ⟨g8, 0, none⟩) XS cap (X.data.toList.set i (cb ^^^ 1)) := by rw [← hW9, ← hxb]; exact in_set HIN8.out hi.2 _
      have hb9 : Below w.heap.size w W9 := by rw [← hW9]; exact below_gr H8.out.2.1 (grown_setCell _ _ _ _) H8.out.2.2
      have hbk9 : BkAt W9 b1 m1 S1 [⟨u, 50, false⟩] := by
        have hb79 : Below W7.heap.size W7 W9 := by rw [← hW9]; exact below_gr HB8.out (grown_setCell _ _ _ _) (by rw [hg8]; exact Nat.le_refl _)
        exact H7.out.1.below hb79
      obtain ⟨Z, hZ⟩ : ∃ Z : BA, ⟨(X.data.toList.set i (cb ^^^ 1)).toArray⟩ = Z := ⟨_, rfl⟩
      have hcv9 := string_in Tryd.underlying22 Tryd.underlying5 Tryd.underlying9 hin9
      rw [hZ] at hcv9
      have hZL : Z.data.toList = X.data.toList.set i (cb ^^^ 1) := by rw [← hZ]
      have hZn : atF S1 0 [⟨u, 50, false⟩] Z.data.toList = none := by
        unfold atF
        rw [if_neg (fun e => set_ne hcb (by rw [← hZL, ← e]; exact HXY.out.1.symm))]
        rfl
      have zZ : Z.size ≤ 20000 := by
        have e1 : Z.data.toList.length = Z.size := rfl
        rw [hZL, List.length_set] at e1
        have e2 : X.data.toList.length = X.size := rfl
        have := HXS.out
        omega
      have H9 : Hid (BkAt W9 b1 m1 S1 [⟨u, 50, false⟩] ∧ Below w.heap.size w W9 ∧ atF S1 0 [⟨u, 50, false⟩] Z.data.toList = none ∧ Z.size ≤ 20000) := ⟨hbk9, hb9, hZn, zZ⟩
      have HIN9 : Hid (In W9 (some ⟨g8, 0, none⟩) XS cap (X.data.toList.set i (cb ^^^ 1)) ∧ (⟨(X.data.toList.set i (cb ^^^ 1)).toArray⟩ : BA) = Z) := ⟨hin9, hZ⟩
      clear hi hxb hcb hin9 hb9 hbk9 hZ hZL hZn zZ HIN8 HFR8 HB8
      go_wp2_with fail
      refine (check_tok H9.out.1 (HV.out.below H9.out.2.1) Z H9.out.2.2.2 1 _ H9.out.2.2.1 e0 160 rfl rfl).mono ?_
      rintro e W10 ⟨rfl, hb10⟩
      have H10 : Hid (BkAt W10 b1 m1 S1 [⟨u, 50, false⟩] ∧ Below w.heap.size w W10) := ⟨H9.out.1.below hb10, below_tr H9.out.2.1 hb10⟩
      have hcv10 := string_in Tryd.underlying22 Tryd.underlying5 Tryd.underlying9 (HIN9.out.1.below hb10)
      rw [HIN9.out.2] at hcv10
      clear hb10 hcv9
      go_wp2_with fail
      refine (revoke_is H10.out.1 (HV.out.below H10.out.2) Z H9.out.2.2.2).mono ?_
      intro e W11 hr
      obtain ⟨he, hr⟩ := hr
      have hre : revE (atF S1 0 [⟨u, 50, false⟩] Z.data.toList) = 160 := by rw [H9.out.2.2.1]; rfl
      rw [hre] at he hr
      subst he
      have hb11 : Below W10.heap.size W10 W11 := by
        rcases hr with ⟨_, h⟩ | ⟨h, _⟩
        · exact h
        · omega
      have H11 : Hid (BkAt W11 b1 m1 S1 [⟨u, 50, false⟩] ∧ Below w.heap.size w W11) := ⟨H10.out.1.below hb11, below_tr H10.out.2 hb11⟩
      clear hr hre hb11 hcv10
      go_wp2_with fail
      refine (len_is H11.out.1).mono ?_
      rintro e W12 ⟨rfl, rfl⟩
      rw [show (([⟨u, 50, false⟩] : List Gr).length : Int) = 1 from rfl]
      go_wp2_with fail
      refine (lives_is W11 (HV.out.below H11.out.2)).mono ?_
      rintro e WL ⟨rfl, hbL⟩
      have HBL : Hid (Below w.heap.size w WL) := below_tr H11.out.2 hbL
      clear hbL
      go_wp2
      go_ret
      exact ⟨rfl, HBL.out⟩
#print axioms none_law
end Go.Proofs.YtjeahlfmapacfaaDoor.Oct
