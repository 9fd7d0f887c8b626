/-
  Layer 16 (token): TokenTaken.
-/
import Derived.Test.YtjeahlfmapacfaaDoorPnt
namespace Go.Proofs.YtjeahlfmapacfaaDoor.Oct
open Go.RowKit Sha
set_option linter.unusedSimpArgs false
set_option linter.unusedVariables false

theorem blk_ne {w : World} {d m : Nat} {t : TypeId} {x : Value} {L : List Value} {l : Kv} (h : Blk w d t (x :: L)) (hm : MP w m l) : d ≠ m := fun e => by subst e; exact mp_not_cells hm (h.cell (i := 0) rfl)
/-- what the law keeps: the call told, a book of its own -/
structure TK (w : World) (d b m : Nat) (q : ActV) (S : List UInt8) (G : List Gr) (wr : World) : Prop where
  bel : Below w.heap.size w wr
  act : Blk wr d 32 q.cells
  bk : BkAt wr b m S G
  le : w.heap.size ≤ m
theorem TK.below {w wr wr' : World} {d b m : Nat} {q : ActV} {S : List UInt8} {G : List Gr} (h : TK w d b m q S G wr) (hb : Below wr.heap.size wr wr') : TK w d b m q S G wr' := ⟨below_tr h.bel hb, h.act.below hb h.act.lt, h.bk.below hb, h.le⟩
theorem TK.turn {w wr wr' : World} {d b m : Nat} {q : ActV} {S : List UInt8} {G G' : List Gr} (h : TK w d b m q S G wr) (hg : wr.grownBy wr' (some m)) (hb : BkAt wr' b m S G') : TK w d b m q S G' wr' :=
  ⟨below_gr h.bel hg h.le, h.act.kept hg (by have := blk_ne h.act h.bk.map; simpa using this), hb, h.le⟩
set_option maxRecDepth 100000 in
set_option maxHeartbeats 2000000 in
theorem taken_law {w : World} {a a1 : Option Addr} {n cp n1 cp1 : Nat} {S : List UInt8} {us : List St1} (hS : In w a n cp S) (hU : SsR w a1 n1 us) (q : ActV) (hq : q.ok) (hV : VT w) : Calls Tryd.prog 4 #[.slice a n cp, .slice a1 n1 cp1, .agg q.cells.toArray] w fun e w' => e = .returned (.bool true) ∧ Below w.heap.size w w' := by
  have HV : Hid (VT w) := hV
  have HS : Hid (In w a n cp S) := hS
  have HU : Hid (SsR w a1 n1 us) := hU
  have qn : (n : Int) ≤ 140737488355328 := by have := hS.2.2.1; omega
  have qn1 : (n1 : Int) ≤ 140737488355328 := by have := hU.2.1; omega
  obtain ⟨kd, u, x, now, til, N, od⟩ := q
  obtain ⟨_, hqu, _, hqn, hqt, _⟩ := hq
  dsimp only at hqu hqn hqt
  have qu : (u.size : Int) ≤ 140737488355328 := by omega
  have HI : Hid (i64 now ∧ i64 til ∧ u.size ≤ 140737488355328) := ⟨hqn, hqt, hqu⟩
  show Calls Tryd.prog 4 #[.slice a n cp, .slice a1 n1 cp1, .agg #[iv kd, .string u, .string x, iv now, iv til, iv N, .bool od]] w _
  obtain ⟨d, hd⟩ : ∃ d, w.heap.size = d := ⟨_, rfl⟩
  obtain ⟨A, hA⟩ : ∃ A, w.alloc (.cells #[iv kd, .string u, .string x, iv now, iv til, iv N, .bool od] 32) = A := ⟨_, rfl⟩
  have HD : Hid (Below w.heap.size w A ∧ Blk A d 32 (ActV.cells ⟨kd, u, x, now, til, N, od⟩)) := ⟨by rw [← hA]; exact below_al _ _, by rw [← hA, ← hd]; exact Blk.new w _ _⟩
  have c1 : A.cell? ⟨d, 1, none⟩ = some (.string u) := HD.out.2.cell rfl
  clear hV hS hU hqu hqn hqt
  by_cases hb1 : (50 : Int) < (n1 : Int)
  · go_enter Tryd.func4, Tryd.ntmps4
    go_wp2_with fail
    refine (lives_is A (HV.out.below HD.out.1)).mono ?_
    rintro e WL ⟨rfl, hbL⟩
    have HBL : Hid (Below w.heap.size w WL) := below_tr HD.out.1 hbL
    clear hbL
    go_wp2
    go_ret
    exact ⟨rfl, HBL.out⟩
  have q50 : (n1 : Int) ≤ 50 := by omega
  by_cases hb2 : (1000 : Int) < (n : Int) + (u.size : Int)
  · clear hb1
    go_enter Tryd.func4, Tryd.ntmps4
    go_wp2_with fail
    refine (lives_is A (HV.out.below HD.out.1)).mono ?_
    rintro e WL ⟨rfl, hbL⟩
    have HBL : Hid (Below w.heap.size w WL) := below_tr HD.out.1 hbL
    clear hbL
    go_wp2
    go_ret
    exact ⟨rfl, HBL.out⟩
  have q1000 : (n : Int) + (u.size : Int) ≤ 1000 := by omega
  have HZ : Hid (n ≤ 1000 ∧ u.size ≤ 1000 ∧ n1 ≤ 50) := ⟨by omega, by omega, by omega⟩
  clear hb1 hb2 qu qn
  go_enter Tryd.func4, Tryd.ntmps4
  go_wp2_with fail
  refine (newtok_is (HS.out.below HD.out.1) (by have := HZ.out; omega)).mono ?_
  rintro e W1 ⟨b, m, rfl, hB1, hbl1, hm1⟩
  have H1 : Hid (TK w d b m ⟨kd, u, x, now, til, N, od⟩ S [] W1) := ⟨below_tr HD.out.1 hbl1, HD.out.2.below hbl1 HD.out.2.lt, hB1, Nat.le_trans HD.out.1.size hm1⟩
  clear hB1 hbl1 hm1 c1 hA hd
  go_wp2_with fail
  go_loopw [36] (fun i wr => ∃ k : Nat, i = iv (k : Int) ∧ (k : Int) ≤ (n1 : Int) ∧ Hid (∃ G, TK w d b m ⟨kd, u, x, now, til, N, od⟩ S G wr ∧ G.length ≤ k)) (fun i _ => n1 - (intOf i).toNat)
  case atStart => exact ⟨0, rfl, by omega, [], H1.out, by simp⟩
  case round =>
    obtain ⟨k, rfl, qk, HG⟩ := hrel
    obtain ⟨G, hTK, hGk⟩ := HG.out
    have HT : Hid (TK w d b m ⟨kd, u, x, now, til, N, od⟩ S G wr ∧ G.length ≤ k) := ⟨hTK, hGk⟩
    clear hTK hGk HG
    by_cases hk : k = n1
    · subst hk
      have HGL : Hid (G.length ≤ 50) := by have := HT.out.2; have := HZ.out.2.2; show G.length ≤ 50; omega
      have c1 : wr.cell? ⟨d, 1, none⟩ = some (.string u) := HT.out.1.act.cell rfl
      have c3 : wr.cell? ⟨d, 3, none⟩ = some (iv now) := HT.out.1.act.cell rfl
      have c4 : wr.cell? ⟨d, 4, none⟩ = some (iv til) := HT.out.1.act.cell rfl
      go_wp2_with fail
      refine (issue_is HT.out.1.bk (HV.out.below HT.out.1.bel) u (by have := HZ.out; omega) now til).mono ?_
      intro e W2 hi
      rcases hi with ⟨hne, rfl, hb2⟩ | ⟨h0, X, hX, rfl, hB2, hg2⟩
      · obtain ⟨E, hE⟩ : ∃ E, issE G u now til = E := ⟨_, rfl⟩
        rw [hE] at hne ⊢
        have H2 : Hid (TK w d b m ⟨kd, u, x, now, til, N, od⟩ S G W2) := HT.out.1.below hb2
        have hne2 : (E != 0) = true := by simpa using hne
        have HE : Hid (issE G u now til ≠ 0) := by show _ ≠ _; rw [hE]; exact hne
        have d1 : W2.cell? ⟨d, 1, none⟩ = some (.string u) := H2.out.act.cell rfl
        have d3 : W2.cell? ⟨d, 3, none⟩ = some (iv now) := H2.out.act.cell rfl
        have d4 : W2.cell? ⟨d, 4, none⟩ = some (iv til) := H2.out.act.cell rfl
        clear hb2 hE hne c1 c3 c4
        by_cases h1 : u.data.toList = []
        · have e1 : u.toList.isEmpty = true := by rw [toList_d, h1]; rfl
          clear h1
          go_wp2_with fail
          refine (lives_is W2 (HV.out.below H2.out.bel)).mono ?_
          rintro e WL ⟨rfl, hbL⟩
          have HBL : Hid (Below w.heap.size w WL) := below_tr H2.out.bel hbL
          clear hbL
          go_wp2
          go_ret
          exact ⟨rfl, HBL.out⟩
        have e1 : u.toList.isEmpty = false := by rw [toList_d]; cases hh : u.data.toList with | nil => exact absurd hh h1 | cons _ _ => rfl
        by_cases h3 : now < 0
        · clear h1
          go_wp2_with fail
          refine (lives_is W2 (HV.out.below H2.out.bel)).mono ?_
          rintro e WL ⟨rfl, hbL⟩
          have HBL : Hid (Below w.heap.size w WL) := below_tr H2.out.bel hbL
          clear hbL
          go_wp2
          go_ret
          exact ⟨rfl, HBL.out⟩
        have h3' : 0 ≤ now := by omega
        by_cases h4 : 1099511627776 < til
        · clear h1 h3
          go_wp2_with fail
          refine (lives_is W2 (HV.out.below H2.out.bel)).mono ?_
          rintro e WL ⟨rfl, hbL⟩
          have HBL : Hid (Below w.heap.size w WL) := below_tr H2.out.bel hbL
          clear hbL
          go_wp2
          go_ret
          exact ⟨rfl, HBL.out⟩
        have h4' : til ≤ 1099511627776 := by omega
        by_cases h5 : til ≤ now
        · clear h1 h3 h4
          go_wp2_with fail
          refine (lives_is W2 (HV.out.below H2.out.bel)).mono ?_
          rintro e WL ⟨rfl, hbL⟩
          have HBL : Hid (Below w.heap.size w WL) := below_tr H2.out.bel hbL
          clear hbL
          go_wp2
          go_ret
          exact ⟨rfl, HBL.out⟩
        have h5' : now < til := by omega
        have h6 : (46 : UInt8) ∈ u.data.toList := by
          refine Classical.byContradiction fun h6 => HE.out ?_
          have hnb : ¬ badU u now til := by unfold badU; simp only [not_or]; exact ⟨h1, h6, h3, h4⟩
          unfold issE
          rw [if_neg hnb, if_neg h5, if_neg (by have := HGL.out; omega)]
        have HP : Hid (decide ((46 : UInt8) ∈ u.data.toList) = true) := by show _ = _; simpa using h6
        clear h1 h3 h4 h5 h6
        go_wp2_with fail
        refine (point_is u (by have := HZ.out; omega) W2 true HP.out).mono ?_
        rintro e W3 ⟨rfl, rfl⟩
        go_wp2_with fail
        refine (lives_is W2 (HV.out.below H2.out.bel)).mono ?_
        rintro e WL ⟨rfl, hbL⟩
        have HBL : Hid (Below w.heap.size w WL) := below_tr H2.out.bel hbL
        clear hbL
        go_wp2
        go_ret
        exact ⟨rfl, HBL.out⟩
      · have hnb : ¬ badU u now til ∧ ¬ til ≤ now := by
          unfold issE at h0
          split at h0
          · omega
          · rename_i hnb
            refine ⟨hnb, fun h => ?_⟩
            rw [if_pos h] at h0
            omega
        have h3 : 0 ≤ now := by have := hnb.1; unfold badU at this; simp only [not_or] at this; omega
        have h4 : til ≤ 1099511627776 := by have := hnb.1; unfold badU at this; simp only [not_or] at this; omega
        have h5 : now < til := by omega
        obtain ⟨t, ht⟩ : ∃ t : Nat, til = (t : Int) := ⟨til.toNat, by omega⟩
        subst ht
        rw [Int.toNat_natCast] at hX hB2
        have hat : atF S 0 (G ++ [⟨u, t, false⟩]) X.data.toList = some ⟨u, t, false⟩ := at_last (by have := HGL.out; omega) hX
        have zX : X.size ≤ 20000 := by
          have e1 : X.data.toList.length = X.size := rfl
          rw [hX] at e1
          have := key_len (S := S) (k := G.length) (g := ⟨u, t, false⟩) (by have := HGL.out; omega) (by show t ≤ _; omega)
          have e2 : (Gr.mk u t false).u.size = u.size := rfl
          have := HZ.out.2.1
          omega
        have H2 : Hid (TK w d b m ⟨kd, u, x, now, (t : Int), N, od⟩ S (G ++ [⟨u, t, false⟩]) W2 ∧ X.size ≤ 20000 ∧ atF S 0 (G ++ [⟨u, t, false⟩]) X.data.toList = some ⟨u, t, false⟩) := ⟨HT.out.1.turn hg2 hB2, zX, hat⟩
        have d4 : W2.cell? ⟨d, 4, none⟩ = some (iv (t : Int)) := H2.out.1.act.cell rfl
        have hsub : IntKind.i64.wrap ((t : Int) - 1) = (t : Int) - 1 := by rw [IntKind.wrap_i64]; omega
        have HQ : Hid (now < (t : Int)) := h5
        clear h0 hX hB2 hg2 hnb hat zX c1 c3 c4
        have hsh1 : showE ⟨u, t, false⟩ ((t : Int) - 1) = 0 := by unfold showE; rw [if_neg (by simp), if_neg (by dsimp only; omega)]
        have hsh2 : showE ⟨u, t, false⟩ (t : Int) = 162 := by unfold showE; rw [if_neg (by simp), if_pos (by dsimp only; omega)]
        have HSH : Hid (showE ⟨u, t, false⟩ ((t : Int) - 1) = 0 ∧ showE ⟨u, t, false⟩ (t : Int) = 162) := ⟨hsh1, hsh2⟩
        clear hsh1 hsh2
        go_wp2_with fail
        refine (check_tok H2.out.1.bk (HV.out.below H2.out.1.bel) X H2.out.2.1 ((t : Int) - 1) _ H2.out.2.2 u 0 (by show (if _ then _ else _) = _; rw [if_pos HSH.out.1]) HSH.out.1).mono ?_
        rintro e W3 ⟨rfl, hb3⟩
        have H3 : Hid (TK w d b m ⟨kd, u, x, now, (t : Int), N, od⟩ S (G ++ [⟨u, t, false⟩]) W3) := H2.out.1.below hb3
        have e4 : W3.cell? ⟨d, 4, none⟩ = some (iv (t : Int)) := H3.out.act.cell rfl
        clear hb3 d4
        go_wp2_with fail
        refine (check_tok H3.out.bk (HV.out.below H3.out.bel) X H2.out.2.1 (t : Int) _ H2.out.2.2 e0 162 (by show (if _ then _ else _) = _; rw [if_neg (by rw [HSH.out.2]; omega)]) HSH.out.2).mono ?_
        rintro e W4 ⟨rfl, hb4⟩
        have H4 : Hid (TK w d b m ⟨kd, u, x, now, (t : Int), N, od⟩ S (G ++ [⟨u, t, false⟩]) W4) := H3.out.below hb4
        clear hb4 e4
        go_wp2_with fail
        refine (revoke_is H4.out.bk (HV.out.below H4.out.bel) X H2.out.2.1).mono ?_
        intro e W5 hr
        obtain ⟨he, hr⟩ := hr
        have hre : revE (atF S 0 (G ++ [⟨u, t, false⟩]) X.data.toList) = 0 := by rw [H2.out.2.2]; rfl
        rw [hre] at he hr
        subst he
        obtain ⟨hB5, hg5⟩ : BkAt W5 b m S (revF S 0 (G ++ [⟨u, t, false⟩]) X.data.toList) ∧ W4.grownBy W5 (some m) := by
          rcases hr with ⟨h, _⟩ | ⟨_, h1, h2⟩
          · exact absurd rfl h
          · exact ⟨h1, h2⟩
        have H5 : Hid (TK w d b m ⟨kd, u, x, now, (t : Int), N, od⟩ S (revF S 0 (G ++ [⟨u, t, false⟩]) X.data.toList) W5 ∧ atF S 0 (revF S 0 (G ++ [⟨u, t, false⟩]) X.data.toList) X.data.toList = some ⟨u, t, true⟩) := ⟨H4.out.turn hg5 hB5, at_rev 0 _ H2.out.2.2⟩
        have f3 : W5.cell? ⟨d, 3, none⟩ = some (iv now) := H5.out.1.act.cell rfl
        clear hr hre hB5 hg5
        go_wp2_with fail
        refine (check_tok H5.out.1.bk (HV.out.below H5.out.1.bel) X H2.out.2.1 now _ H5.out.2 e0 161 rfl rfl).mono ?_
        rintro e W6 ⟨rfl, hb6⟩
        have H6 : Hid (TK w d b m ⟨kd, u, x, now, (t : Int), N, od⟩ S (revF S 0 (G ++ [⟨u, t, false⟩]) X.data.toList) W6) := H5.out.1.below hb6
        have g1 : W6.cell? ⟨d, 1, none⟩ = some (.string u) := H6.out.act.cell rfl
        have euu : (u.toList == u.toList) = true := beq_self_eq_true _
        clear hb6 f3
        go_wp2_with fail
        refine (revoke_is H6.out.bk (HV.out.below H6.out.bel) X H2.out.2.1).mono ?_
        intro e W7 hr
        obtain ⟨he, hr⟩ := hr
        have hre : revE (atF S 0 (revF S 0 (G ++ [⟨u, t, false⟩]) X.data.toList) X.data.toList) = 161 := by rw [H5.out.2]; rfl
        rw [hre] at he hr
        subst he
        have H7 : Hid (Below w.heap.size w W7) := by
          rcases hr with ⟨_, h⟩ | ⟨h, _⟩
          · exact below_tr H6.out.bel h
          · omega
        clear hr hre
        go_wp2_with fail
        refine (lives_is W7 (HV.out.below H7.out)).mono ?_
        rintro e WL ⟨rfl, hbL⟩
        have HBL : Hid (Below w.heap.size w WL) := below_tr H7.out hbL
        clear hbL
        go_wp2
        go_ret
        exact ⟨rfl, HBL.out⟩
    · have q5 : (k : Int) < (n1 : Int) := by omega
      obtain ⟨y, hy⟩ : ∃ y, us[k]? = some y := ⟨_, List.getElem?_eq_getElem (by rw [HU.out.1]; omega)⟩
      obtain ⟨ub, uo, rfl, hub, huc⟩ := HU.out.2.2.2 (by omega)
      have hc0 := huc k y hy 0 _ rfl
      rw [Nat.mul_one] at hc0
      have cu : wr.cell? ⟨ub, uo + k, none⟩ = some (.string y.s) := (HT.out.1.bel.cell (p := ⟨ub, uo + k, none⟩) hub).trans hc0
      have hyo := HU.out.2.2.1 y (List.mem_of_getElem? hy)
      obtain ⟨ys, hys⟩ : ∃ s, y.s = s := ⟨_, rfl⟩
      rw [hys] at cu
      have qys : (ys.size : Int) ≤ 140737488355328 := by have : y.s.size ≤ _ := hyo; rw [hys] at this; omega
      have HK : Hid (k < n1) := by show k < n1; omega
      clear hk hy hub huc hc0 hyo hys
      by_cases hsm : (ys.size : Int) < 1000
      · go_wp2_with fail
        refine (issue_is HT.out.1.bk (HV.out.below HT.out.1.bel) ys (by omega) 0 100).mono ?_
        intro e W2 hi
        obtain ⟨X, E, rfl, hg2, G', hB2, hl2⟩ := IsP.any HT.out.1.bk hi
        have H2 : Hid (TK w d b m ⟨kd, u, x, now, til, N, od⟩ S G' W2 ∧ G'.length ≤ k + 1) := ⟨HT.out.1.turn hg2 hB2, by have := HT.out.2; omega⟩
        clear hi hg2 hB2 hl2 cu
        go_wp2
        go_roundw
        case rel => exact ⟨k + 1, by simp, by have := HK.out; omega, G', H2.out.1, H2.out.2⟩
        case measure => have := HK.out; simp only [intOf]; omega
      · have hsm2 : (1000 : Int) ≤ (ys.size : Int) := by omega
        clear hsm
        go_wp2
        go_roundw
        case rel => exact ⟨k + 1, by simp, by have := HK.out; omega, G, HT.out.1, by have := HT.out.2; omega⟩
        case measure => have := HK.out; simp only [intOf]; omega
#print axioms taken_law
end Go.Proofs.YtjeahlfmapacfaaDoor.Oct
