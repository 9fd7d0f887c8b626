/-
  Layer 19 (audit): the law AuditPlays.
-/
import Derived.Test.YtmmpafaegmejlaaDoorPlr
namespace Go.Proofs.YtmmpafaegmejlaaDoor.Oct
open Go.RowKit Sha
set_option linter.unusedSimpArgs false
set_option linter.unusedVariables false

theorem CI.gr {w W W' : World} {B L c i g : Nat} {es : List En} {vl : Value} {a4 : Option Addr} {c4 : Nat} (h : CI w B L c i es vl a4 c4 W) (k : W.grownBy W' (some g)) (h1 : L ≠ g) (h2 : c ≠ g) (h3 : ∀ j, vl.ownBlock = some j → j ≠ g) (h4 : ∀ j, (Value.slice a4 es.length c4).ownBlock = some j → j ≠ g) (hg : w.heap.size ≤ g) : CI w B L c i es vl a4 c4 W' :=
  ⟨h.1.same (k.block L h.1.lg.lt (fun e => h1 (by cases e; rfl))) (k.block c h.1.ch.lt (fun e => h2 (by cases e; rfl))) (fun j hj => k.block j (h.1.row.lt hj).2 (fun e => h3 j hj (by cases e; rfl))), h.2.1.same (fun j hj => k.block j (h.2.1.lt hj).2 (fun e => h4 j hj (by cases e; rfl))), h.2.2.1, h.2.2.2.1, h.2.2.2.2.1, below_gr h.2.2.2.2.2.1 k hg, h.2.2.2.2.2.2.1, Nat.le_trans h.2.2.2.2.2.2.2 k.size⟩
/-- a row of one's own that is being spoilt -/
def SpI (W : World) (a : Option Addr) (m : Nat) (wq : World) : Prop := Below W.heap.size W wq ∧ (0 < m → ∃ p cur, a = some ⟨p, 0, none⟩ ∧ W.heap.size ≤ p ∧ Blk wq p 37 cur ∧ m * 36 ≤ cur.length)
theorem spI_of {W W' : World} {a : Option Addr} {c m : Nat} {l : List En} (h : OwE W' W.heap.size (.slice a m c) l) (hm : l.length = m) (hb : Below W.heap.size W W') : SpI W a m W' := by
  refine ⟨hb, fun hp => ?_⟩
  have hs := h.1.2
  rcases hs with ⟨h0, h1⟩ | ⟨g, cap, cur, h0, hB, hbl, hn, hc, hsz, ht⟩
  · omega
  · cases h0
    refine ⟨g, cur.toList, rfl, hB, hbl, ?_⟩
    have h2 := congrArg List.length ht
    rw [cellsE_len h.2, List.length_take] at h2
    rw [← hm]
    omega
set_option maxRecDepth 100000 in
set_option maxHeartbeats 8000000 in
theorem plays_law {w : World} {a : Option Addr} {n cap : Nat} {l : List ActV} (h : ArgA w a n cap l) (hk : KT w) (hs : ST w) : Calls Tryd.prog 3 #[.slice a n cap] w fun e w' => e = .returned (.bool true) ∧ Below w.heap.size w w' := by
  have HA : Hid (ArgA w a n cap l) := h
  have HK : Hid (KT w ∧ ST w) := ⟨hk, hs⟩
  have qn : (n : Int) ≤ 140737488355328 := by have := h.2.1; omega
  obtain ⟨Z9, hZ9, HZ9⟩ := zero29
  obtain ⟨Z, hZ, HZ⟩ := zero37
  have HZL : Hid (Z.length = 36) := by show _ = _; rw [HZ.out]; exact En.len zE_ok
  clear h hk hs HZ
  go_enter Tryd.func3, Tryd.ntmps3
  go_wp2_with fail
  refine (few_is HA.out).mono ?_
  rintro e X ⟨b, rfl, hbn, hbx⟩
  have HX : Hid (Below w.heap.size w X) := hbx
  clear hbx
  cases b
  · clear hbn
    go_wp2_with fail
    refine (lives_is X (HK.out.1.below HX.out) (HK.out.2.below HX.out)).mono ?_
    rintro e X2 ⟨rfl, hb2⟩
    have HF : Hid (Below w.heap.size w X2) := below_tr HX.out hb2
    clear hb2
    go_wp2
    go_ret
    exact ⟨rfl, HF.out⟩
  · have hn60 := hbn.out rfl
    clear hbn
    have HN60 : Hid (n ≤ 60) := hn60
    clear hn60
    go_wp2_with fail
    refine (new_log X).mono ?_
    rintro e X2 ⟨L0, k0, rfl, hlg, hb2⟩
    have H2 : Hid (CI w X.heap.size L0 k0 0 [] (.slice none 0 0) none 0 X2) := ⟨hlg.out, OwE.nil _ _, (fun g hg => nomatch hg), Nat.le_refl _, (fun j hj => absurd hj (Nat.not_lt_zero j)), below_tr HX.out hb2, HX.out.size, hb2.size⟩
    clear hlg hb2
    obtain ⟨B, hB⟩ : ∃ B, X.heap.size = B := ⟨_, rfl⟩
    rw [hB] at H2
    clear hB HX
    go_wp2
    go_loopw [22, 3, 4] (fun u t s wr => ∃ (i : Nat) (L c : Nat) (es : List En) (vl : Value) (a4 : Option Addr) (c4 m : Nat), u = iv (i : Int) ∧ t = .pointer (some ⟨L, 0, none⟩) ∧ s = .slice a4 m c4 ∧ Hid (i ≤ n ∧ es.length = m ∧ CI w B L c i es vl a4 c4 wr)) (fun u _ _ _ => n - (intOf u).toNat)
    case atStart => exact ⟨0, L0, k0, [], _, none, 0, 0, rfl, rfl, rfl, Nat.zero_le _, rfl, H2.out⟩
    case round =>
      clear H2 k0
      obtain ⟨W0, hW0⟩ : ∃ W0, W0 = wr := ⟨_, rfl⟩
      subst hW0
      obtain ⟨i, L, c, es, vl, a4, c4, m, rfl, rfl, rfl, HI⟩ := hrel
      by_cases hi : i = n
      · subst hi
        have HKW : Hid (KT W0 ∧ ST W0) := ⟨HK.out.1.below HI.out.2.2.2.2.2.2.2.1, HK.out.2.below HI.out.2.2.2.2.2.2.2.1⟩
        go_wp2_with fail
        refine (entries_is HI.out.2.2.1).mono ?_
        rintro e W3 ⟨v7, rfl, ho7, hb3⟩
        have H3 : Hid (EsR W3 v7 es ∧ CI w B L c i es vl a4 c4 W3) := ⟨ho7.out.esr, HI.out.2.2.below hb3⟩
        clear ho7 hb3
        go_wp2_with fail
        have hsm := same_is H3.out.1 H3.out.2.2.1.esr (by have := H3.out.2.1.len; omega) (by have := H3.out.2.1.len; omega) true ⟨fun _ => rfl, fun _ => rfl⟩
        rw [HI.out.2.1] at hsm
        refine hsm.mono ?_
        clear hsm
        rintro e W4 ⟨rfl, hb4⟩
        have H4 : Hid (Below w.heap.size w W4) := below_tr H3.out.2.2.2.2.2.2.1 hb4
        clear hb4
        go_wp2_with fail
        refine (lives_is W4 (HK.out.1.below H4.out) (HK.out.2.below H4.out)).mono ?_
        rintro e W5 ⟨rfl, hb5⟩
        have HF : Hid (Below w.heap.size w W5) := below_tr H4.out hb5
        clear hb5
        go_wp2
        go_ret
        exact ⟨rfl, HF.out⟩
      · have hlt : i < n := by have := HI.out.1; omega
        have q1 : (i : Int) < (n : Int) := by omega
        obtain ⟨x, hx⟩ : ∃ x, l[i]? = some x := ⟨_, List.getElem?_eq_getElem (by rw [HA.out.1]; exact hlt)⟩
        obtain ⟨b, off, rfl, hb, hel⟩ := HA.out.2.2.2 (by omega)
        have hok := HA.out.2.2.1 x (List.mem_of_getElem? hx)
        have HX : Hid (W0.rangeAt b (off + i * 4) x.cells ∧ i < n ∧ x.ok) := ⟨rangeAt_same (hel i x hx) (HI.out.2.2.2.2.2.2.2.1.block b hb), hlt, hok⟩
        obtain ⟨g6, hg6⟩ : ∃ g, W0.heap.size = g := ⟨_, rfl⟩
        have HG6 : Hid (W0.heap.size = g6) := hg6
        clear hi hlt hx hel hb hok
        go_wp2_with (with_reducible change wpList _ _ _ ({ dst := some 25, op := _, type := _, pos := _, after := _, guard := _ } :: _) _ _; refine Hid.out ?_)
        show wpList _ _ _ _ _ _
        refine wpList_load_mid rfl 29 (.tmp 24) rfl b (off + i * 4) rfl x.cells _ HX.out.1 Tryd.underlying29 rfl (size29 x) ?_
        go_wp2_with (with_reducible change wpList _ _ _ ({ dst := none, op := Op.store 29 _ _, type := _, pos := _, after := _, guard := _ } :: _) _ _; refine Hid.out ?_)
        show wpList _ _ _ _ _ _
        refine wpList_store_blk rfl 29 (.tmp 6) (.tmp 25) rfl g6 0 29 Z9 x.cells rfl rfl (by rw [← HG6.out]; exact Blk.new W0 _ _) (by rw [HZ9.out]; exact Nat.le_refl _) (size29 x) x.one ?_
        intro W1 hx1 hg1
        have H1 : Hid (CI w B L c i es vl a4 c4 W1 ∧ Blk W1 g6 29 x.cells ∧ KT W1 ∧ ST W1 ∧ c < g6 ∧ (∀ j, vl.ownBlock = some j → j < g6) ∧ es.length = m) := by
          have hb1 : Below W0.heap.size W0 W1 := below_gr (below_al W0 _) hg1.out (by rw [HG6.out]; exact Nat.le_refl _)
          have h := HI.out.2.2.below hb1
          exact ⟨h, blk_all hx1.out (by rw [HZ9.out]; rfl), HK.out.1.below h.2.2.2.2.2.1, HK.out.2.below h.2.2.2.2.2.1, by rw [← HG6.out]; exact HI.out.2.2.1.ch.lt, fun j hj => by rw [← HG6.out]; exact (HI.out.2.2.1.row.lt hj).2, HI.out.2.1⟩
        have c3 : W1.cell? ⟨g6, 3, none⟩ = some (.bool x.again) := H1.out.2.1.cell rfl
        clear hx1 hg1 hg6
        have HQ : Hid (i < n ∧ x.ok) := ⟨HX.out.2.1, HX.out.2.2⟩
        clear HX HI HG6
        obtain ⟨ag, hag⟩ : ∃ ag, x.again = ag := ⟨_, rfl⟩
        rw [hag] at c3
        clear hag
        cases ag
        · have HNG : Hid (g6 ≠ c ∧ (∀ j, vl.ownBlock = some j → j ≠ g6)) := ⟨by have := H1.out.2.2.2.2.1; omega, fun j hj => by have := H1.out.2.2.2.2.2.1 j hj; omega⟩
          have HC : Hid (CI w B L c i es vl a4 c4 W1 ∧ Blk W1 g6 29 x.cells ∧ KT W1 ∧ ST W1 ∧ es.length = m) := ⟨H1.out.1, H1.out.2.1, H1.out.2.2.1, H1.out.2.2.2.1, H1.out.2.2.2.2.2.2⟩
          clear H1
          have c0 : W1.cell? ⟨g6, 0, none⟩ = some (iv x.tick) := HC.out.2.1.cell rfl
          have c1 : W1.cell? ⟨g6, 1, none⟩ = some (.string x.who) := HC.out.2.1.cell rfl
          have c2' : W1.cell? ⟨g6, 2, none⟩ = some (.string x.what) := HC.out.2.1.cell rfl
          go_wp2_with fail
          refine (append_is HC.out.1.1 HC.out.2.2.1 HC.out.2.2.2.1 HC.out.1.2.2.2.2.2.2.2 x.tick x.who x.what HQ.out.2.2.1 HQ.out.2.2.2 HQ.out.2.1.2).mono ?_
          intro e W2 hap
          have he := hap.1
          subst he
          obtain ⟨vb, hj⟩ := HC.out.1.app2 hap
          obtain ⟨-, v2', -, -, hkeep⟩ := hap
          obtain ⟨q, hq⟩ : ∃ q, nxE es x.tick x.who x.what = q := ⟨_, rfl⟩
          have hqok : q.1.ok := by rw [← hq]; exact nxE_ok HC.out.1.1.row.2 HQ.out.2.2.1 HQ.out.2.2.2 HQ.out.2.1.2 (by have := HC.out.1.1.len; omega)
          rw [hq] at hj ⊢
          obtain ⟨y, k⟩ := q
          obtain ⟨fs, hfs⟩ : ∃ fs, lA es (y, k) = fs := ⟨_, rfl⟩
          rw [hfs] at hj
          have HJ : Hid (CK w B L c i es fs vb a4 c4 W2 ∧ Blk W2 g6 29 x.cells ∧ y.ok ∧ nxE es x.tick x.who x.what = (y, k) ∧ lA es (y, k) = fs) := ⟨hj, hkeep.blk HC.out.2.1 (fun hk => hk.elim (fun h => HNG.out.1 h) (fun h => HNG.out.2 _ h rfl)), hqok, hq, hfs⟩
          clear hj hkeep hq hqok hfs c0 c1 c2'
          dsimp only
          obtain ⟨g9, hg9⟩ : ∃ g, W2.heap.size = g := ⟨_, rfl⟩
          have HG9 : Hid (W2.heap.size = g9) := hg9
          go_wp2_with (with_reducible change wpList _ _ _ ({ dst := none, op := Op.store 37 _ _, type := _, pos := _, after := _, guard := _ } :: _) _ _; refine Hid.out ?_)
          show wpList _ _ _ _ _ _
          refine wpList_store_blk rfl 37 (.tmp 9) (.tmp 50) rfl g9 0 37 Z y.cells rfl rfl (by rw [← HG9.out]; exact Blk.new W2 _ _) (by rw [HZL.out, En.len HJ.out.2.2.1]; exact Nat.le_refl _) (info37 HJ.out.2.2.1) (En.one _) ?_
          intro W3 hx3 hg3
          obtain ⟨W4, hW4⟩ : ∃ W, W3.alloc (.cells Z.toArray 37) = W := ⟨_, rfl⟩
          obtain ⟨g11, hg11⟩ : ∃ g, W3.heap.size = g := ⟨_, rfl⟩
          have H4 : Hid (CK w B L c i es fs vb a4 c4 W4 ∧ Blk W4 g6 29 x.cells ∧ Blk W4 g9 37 y.cells ∧ Blk W4 g11 37 Z ∧ g9 < g11 ∧ CK w B L c i es fs vb a4 c4 W3 ∧ W3.heap.size = g11 ∧ W4.heap.size = g11 + 1) := by
            have hb3 : Below W2.heap.size W2 W3 := below_gr (below_al W2 _) hg3.out (by rw [HG9.out]; exact Nat.le_refl _)
            have h9 : Blk W3 g9 37 y.cells := blk_all hx3.out (by rw [HZL.out, En.len HJ.out.2.2.1])
            have hb4 : Below W3.heap.size W3 W4 := by rw [← hW4]; exact below_al _ _
            have h6 := HJ.out.2.1.below hb3 HJ.out.2.1.lt
            exact ⟨(HJ.out.1.below hb3).below hb4, h6.below hb4 h6.lt, h9.below hb4 h9.lt, by rw [← hW4, ← hg11]; exact Blk.new W3 _ _, by rw [← hg11]; exact h9.lt, HJ.out.1.below hb3, hg11, by rw [← hW4, ← hg11]; simp⟩
          have c0 : W4.cell? ⟨g6, 0, none⟩ = some (iv x.tick) := H4.out.2.1.cell rfl
          have c1 : W4.cell? ⟨g6, 1, none⟩ = some (.string x.who) := H4.out.2.1.cell rfl
          have c2' : W4.cell? ⟨g6, 2, none⟩ = some (.string x.what) := H4.out.2.1.cell rfl
          clear hx3 hg3 hg9
          go_wp2_with fail
          have hra := refAppend_is H4.out.1.1.2.1.esr (by have := H4.out.1.1.2.2.2.1; have := H4.out.1.1.2.2.2.2.1; have := HQ.out.1; have := HN60.out; omega) (rz_of_ok HC.out.1.2.2.2.2.1) (tick_ok HC.out.1.2.2.2.2.1) x.tick x.who x.what HQ.out.2.2.1 HQ.out.2.2.2 HQ.out.2.1.2
          rw [HJ.out.2.2.2.1] at hra
          have hem := HC.out.2.2.2.2
          subst hem
          refine hra.mono ?_
          clear hra
          rintro e W5 ⟨v5, rfl, hv5, hb5⟩
          have hno : ∀ j, v5.ownBlock = some j → j ≠ g11 := fun j hj => by
            rcases hv5 with ⟨rfl, _⟩ | ho
            · have := (H4.out.2.2.2.2.2.1.1.2.1.lt hj).2; have := H4.out.2.2.2.2.2.2.1; omega
            · have := (ho.lt hj).1; have := H4.out.2.2.2.2.2.2.2; omega
          obtain ⟨a5, c5, rfl, hci⟩ := H4.out.1.ref HJ.out.2.2.2.2 hb5 hv5
          have H5 : Hid (CI w B L c (i + 1) fs vb a5 c5 W5 ∧ Blk W5 g9 37 y.cells ∧ Blk W5 g11 37 Z ∧ (∀ j, (Value.slice a5 fs.length c5).ownBlock = some j → j ≠ g11)) := ⟨hci, H4.out.2.2.1.below hb5 H4.out.2.2.1.lt, H4.out.2.2.2.1.below hb5 H4.out.2.2.2.1.lt, hno⟩
          clear hno hci hv5 hb5 c0 c1 c2' hW4 hg11
          dsimp only
          obtain ⟨k5, hk5⟩ : ∃ k, fs.length = k := ⟨_, rfl⟩
          rw [hk5]
          go_wp2_with (with_reducible change wpList _ _ _ ({ dst := none, op := Op.store 37 _ _, type := _, pos := _, after := _, guard := _ } :: _) _ _; refine Hid.out ?_)
          show wpList _ _ _ _ _ _
          refine wpList_store_blk rfl 37 (.tmp 11) (.tmp 62) rfl g11 0 37 Z y.cells rfl rfl H5.out.2.2.1 (by rw [HZL.out, En.len HJ.out.2.2.1]; exact Nat.le_refl _) (info37 HJ.out.2.2.1) (En.one _) ?_
          intro W6 hx6 hg6'
          have H6 : Hid (CI w B L c (i + 1) fs vb a5 c5 W6 ∧ Blk W6 g9 37 y.cells ∧ Blk W6 g11 37 y.cells ∧ KT W6 ∧ ST W6 ∧ fs.length = k5) := by
            have hk3 := H4.out.2.2.2.2.2.1.1
            have h3s := H4.out.2.2.2.2.2.2.1
            have hci : CI w B L c (i + 1) fs vb a5 c5 W6 := H5.out.1.gr hg6'.out (by have := hk3.1.lg.lt; omega) (by have := hk3.1.ch.lt; omega) (fun j hj => by have := (hk3.1.row.lt hj).2; omega) H5.out.2.2.2 (by have := hk3.2.2.2.2.2.2.1.size; omega)
            exact ⟨hci, H5.out.2.1.kept hg6'.out (fun e => by cases e; have := H4.out.2.2.2.2.1; omega), blk_all hx6.out (by rw [HZL.out, En.len HJ.out.2.2.1]), HK.out.1.below hci.2.2.2.2.2.1, HK.out.2.below hci.2.2.2.2.2.1, hk5⟩
          have HY : Hid y.ok := HJ.out.2.2.1
          clear hx6 hg6' H5 H4 HJ
          go_wp2_with (with_reducible change wpList _ _ _ ({ dst := some 64, op := _, type := _, pos := _, after := _, guard := _ } :: _) _ _; refine Hid.out ?_)
          show wpList _ _ _ _ _ _
          refine wpList_load_mid rfl 37 (.tmp 9) rfl g9 0 rfl y.cells _ H6.out.2.1.range0 Tryd.underlying37 rfl (info37 HY.out) ?_
          go_wp2_with (with_reducible change wpList _ _ _ ({ dst := some 65, op := _, type := _, pos := _, after := _, guard := _ } :: _) _ _; refine Hid.out ?_)
          show wpList _ _ _ _ _ _
          refine wpList_load_mid rfl 37 (.tmp 11) rfl g11 0 rfl y.cells _ H6.out.2.2.1.range0 Tryd.underlying37 rfl (info37 HY.out) ?_
          have hne := ne_en y HY.out
          obtain ⟨D, hD⟩ : ∃ D, hdE fs = D := ⟨_, rfl⟩
          have HD : Hid (hdE fs = D ∧ D.length = 32) := ⟨hD, by rw [← hD]; exact hdE_len fs⟩
          clear hD
          go_wp2_with fail
          refine (headL_is H6.out.1.1 H6.out.2.2.2.1 H6.out.2.2.2.2.1 D HD.out.1).mono ?_
          rintro e W7 ⟨rfl, hb7⟩
          have H7 : Hid (CI w B L c (i + 1) fs vb a5 c5 W7) := H6.out.1.below hb7
          clear hb7 hne
          go_wp2_with fail
          have hrh := refHead_is H7.out.2.1.esr (by have := H7.out.1.len; omega) (rz_of_ok H7.out.2.2.2.2.1) D HD.out.1
          rw [H6.out.2.2.2.2.2] at hrh
          refine hrh.mono ?_
          clear hrh
          rintro e W8 ⟨rfl, hb8⟩
          have H8 : Hid (CI w B L c (i + 1) fs vb a5 c5 W8) := H7.out.below hb8
          clear hb8 H7
          have hnz : ∀ W, (binOp .neq 35 (.agg (U D).toArray) (.agg (U D).toArray)).run Tryd.prog W = .ok (.bool false) W := fun W => by rw [neHb D D HD.out.2 HD.out.2 W, decide_eq_true rfl]; rfl
          go_wp2_with fail
          refine (entries_is H8.out.1).mono ?_
          rintro e W9 ⟨v13, rfl, ho13, hb9⟩
          obtain ⟨a13, c13, rfl⟩ := ow_slice ho13.out
          have hes13 := ho13.out.esr
          have hsp0 := ho13.out
          rw [hk5] at hsp0
          have hsp := spI_of hsp0 hk5 hb9
          have H9 : Hid (SpI W8 a13 k5 W9 ∧ CI w B L c (i + 1) fs vb a5 c5 W9 ∧ EsR W9 (.slice a13 fs.length c13) fs) := ⟨hsp, H8.out.below hb9, hes13⟩
          clear ho13 hb9 hes13 hsp hsp0 hnz
          go_wp2_with fail
          have hsm := same_is H9.out.2.2 H9.out.2.1.2.1.esr (by have := H9.out.2.1.1.len; omega) (by have := H9.out.2.1.1.len; omega) true ⟨fun _ => rfl, fun _ => rfl⟩
          rw [H6.out.2.2.2.2.2] at hsm
          refine hsm.mono ?_
          clear hsm
          rintro e WA ⟨rfl, hbA⟩
          have HA2 : Hid (SpI W8 a13 k5 WA) := by
            refine ⟨below_tr H9.out.1.1 hbA, fun hp => ?_⟩
            obtain ⟨p, cur, e1, e2, e3, e4⟩ := H9.out.1.2 hp
            exact ⟨p, cur, e1, e2, e3.below hbA e3.lt, e4⟩
          have qk5 : (k5 : Int) ≤ 5000 := by have := H8.out.1.len; have := H6.out.2.2.2.2.2; omega
          clear hbA H9
          go_wp2
          go_loopw [87] (fun u wq => ∃ j : Nat, u = iv (j : Int) ∧ Hid (j ≤ k5 ∧ SpI W8 a13 k5 wq)) (fun u _ => k5 - (intOf u).toNat)
          case atStart => exact ⟨0, rfl, Nat.zero_le _, HA2.out⟩
          case round =>
            clear HA2
            obtain ⟨j, rfl, HJ2⟩ := hrel
            by_cases hj : j = k5
            · subst hj
              have HF : Hid (i + 1 ≤ n ∧ fs.length = j ∧ CI w B L c (i + 1) fs vb a5 c5 wr) := ⟨HQ.out.1, H6.out.2.2.2.2.2, H8.out.below HJ2.out.2.1⟩
              go_wp2
              go_roundw
              case rel => exact ⟨i + 1, L, c, fs, vb, a5, c5, j, rfl, rfl, rfl, HF.out⟩
              case measure => show n - (i + 1) < n - i; have := HQ.out.1; omega
            · have hjm : j < k5 := by have := HJ2.out.1; omega
              have q2 : (j : Int) < (k5 : Int) := by omega
              obtain ⟨p, cur, rfl, hp1, hp2, hp3⟩ := HJ2.out.2.2 (by omega)
              have HP : Hid (W8.heap.size ≤ p ∧ Blk wr p 37 cur ∧ k5 * 36 ≤ cur.length ∧ j < k5) := ⟨hp1, hp2, hp3, hjm⟩
              clear hj hjm hp1 hp2 hp3
              go_wp2_with (with_reducible change wpList _ _ _ ({ dst := none, op := Op.store 9 _ _, type := _, pos := _, after := _, guard := _ } :: _) _ _; refine Hid.out ?_)
              show wpList _ _ _ _ _ _
              refine wpList_store1 rfl 9 (.tmp 93) _ rfl p (j * 36 + 3) 37 cur (.string ⟨#[115, 112, 111, 105, 108, 116]⟩) rfl rfl HP.out.2.1 (by have := HP.out.2.2.1; have := HP.out.2.2.2; omega) (by kernel_rfl) rfl rfl ?_
              intro WB hxB hgB
              have HF : Hid (j + 1 ≤ k5 ∧ SpI W8 (some ⟨p, 0, none⟩) k5 WB) := by
                refine ⟨HP.out.2.2.2, below_gr HJ2.out.2.1 hgB.out HP.out.1, fun _ => ⟨p, _, rfl, HP.out.1, hxB.out, ?_⟩⟩
                have h1 := HP.out.2.2.1
                have h2 := HP.out.2.2.2
                rw [List.length_append, List.length_append, List.length_take, List.length_drop, List.length_singleton]
                omega
              clear hxB hgB
              go_wp2
              go_roundw
              case rel => exact ⟨j + 1, rfl, HF.out⟩
              case measure => show k5 - (j + 1) < k5 - j; have := HP.out.2.2.2; omega
        · go_wp2_with fail
          refine (entries_is H1.out.1.1).mono ?_
          rintro e Y1 ⟨v7, rfl, ho7, hb3⟩
          have HY1 : Hid (EsR Y1 v7 es ∧ Below W1.heap.size W1 Y1) := ⟨ho7.out.esr, hb3⟩
          clear ho7 hb3 c3
          go_wp2_with fail
          refine (load_is HY1.out.1 H1.out.1.1.sz H1.out.1.1.len (H1.out.2.2.1.below HY1.out.2) (H1.out.2.2.2.1.below HY1.out.2)).mono ?_
          intro e Y2 hld
          rcases hld with ⟨⟨j, hj1, hj2⟩, _⟩ | ⟨_, L2, c2, vl2, rfl, hlg, hb4⟩
          · exact absurd (H1.out.1.2.2.2.2.1 j hj1) hj2
          have hcl := (H1.out.1.below HY1.out.2).load hb4 hlg
          have hbb := below_tr HY1.out.2 hb4
          have HNG : Hid (g6 ≠ c2 ∧ (∀ j, vl2.ownBlock = some j → j ≠ g6)) := by
            have h6 := H1.out.2.1.lt
            have h7 := HY1.out.2.size
            exact ⟨by have := hlg.bc; omega, fun j hj => by have := (hlg.row.lt hj).1; omega⟩
          have HC : Hid (CI w B L2 c2 i es vl2 a4 c4 Y2 ∧ Blk Y2 g6 29 x.cells ∧ KT Y2 ∧ ST Y2 ∧ es.length = m) := ⟨hcl, H1.out.2.1.below hbb H1.out.2.1.lt, H1.out.2.2.1.below hbb, H1.out.2.2.2.1.below hbb, H1.out.2.2.2.2.2.2⟩
          clear hlg hb4 hcl hbb HY1 H1
          dsimp only
          have c0 : Y2.cell? ⟨g6, 0, none⟩ = some (iv x.tick) := HC.out.2.1.cell rfl
          have c1 : Y2.cell? ⟨g6, 1, none⟩ = some (.string x.who) := HC.out.2.1.cell rfl
          have c2' : Y2.cell? ⟨g6, 2, none⟩ = some (.string x.what) := HC.out.2.1.cell rfl
          go_wp2_with fail
          refine (append_is HC.out.1.1 HC.out.2.2.1 HC.out.2.2.2.1 HC.out.1.2.2.2.2.2.2.2 x.tick x.who x.what HQ.out.2.2.1 HQ.out.2.2.2 HQ.out.2.1.2).mono ?_
          intro e W2 hap
          have he := hap.1
          subst he
          obtain ⟨vb, hj⟩ := HC.out.1.app2 hap
          obtain ⟨-, v2', -, -, hkeep⟩ := hap
          obtain ⟨q, hq⟩ : ∃ q, nxE es x.tick x.who x.what = q := ⟨_, rfl⟩
          have hqok : q.1.ok := by rw [← hq]; exact nxE_ok HC.out.1.1.row.2 HQ.out.2.2.1 HQ.out.2.2.2 HQ.out.2.1.2 (by have := HC.out.1.1.len; omega)
          rw [hq] at hj ⊢
          obtain ⟨y, k⟩ := q
          obtain ⟨fs, hfs⟩ : ∃ fs, lA es (y, k) = fs := ⟨_, rfl⟩
          rw [hfs] at hj
          have HJ : Hid (CK w B L2 c2 i es fs vb a4 c4 W2 ∧ Blk W2 g6 29 x.cells ∧ y.ok ∧ nxE es x.tick x.who x.what = (y, k) ∧ lA es (y, k) = fs) := ⟨hj, hkeep.blk HC.out.2.1 (fun hk => hk.elim (fun h => HNG.out.1 h) (fun h => HNG.out.2 _ h rfl)), hqok, hq, hfs⟩
          clear hj hkeep hq hqok hfs c0 c1 c2'
          dsimp only
          obtain ⟨g9, hg9⟩ : ∃ g, W2.heap.size = g := ⟨_, rfl⟩
          have HG9 : Hid (W2.heap.size = g9) := hg9
          go_wp2_with (with_reducible change wpList _ _ _ ({ dst := none, op := Op.store 37 _ _, type := _, pos := _, after := _, guard := _ } :: _) _ _; refine Hid.out ?_)
          show wpList _ _ _ _ _ _
          refine wpList_store_blk rfl 37 (.tmp 9) (.tmp 50) rfl g9 0 37 Z y.cells rfl rfl (by rw [← HG9.out]; exact Blk.new W2 _ _) (by rw [HZL.out, En.len HJ.out.2.2.1]; exact Nat.le_refl _) (info37 HJ.out.2.2.1) (En.one _) ?_
          intro W3 hx3 hg3
          obtain ⟨W4, hW4⟩ : ∃ W, W3.alloc (.cells Z.toArray 37) = W := ⟨_, rfl⟩
          obtain ⟨g11, hg11⟩ : ∃ g, W3.heap.size = g := ⟨_, rfl⟩
          have H4 : Hid (CK w B L2 c2 i es fs vb a4 c4 W4 ∧ Blk W4 g6 29 x.cells ∧ Blk W4 g9 37 y.cells ∧ Blk W4 g11 37 Z ∧ g9 < g11 ∧ CK w B L2 c2 i es fs vb a4 c4 W3 ∧ W3.heap.size = g11 ∧ W4.heap.size = g11 + 1) := by
            have hb3 : Below W2.heap.size W2 W3 := below_gr (below_al W2 _) hg3.out (by rw [HG9.out]; exact Nat.le_refl _)
            have h9 : Blk W3 g9 37 y.cells := blk_all hx3.out (by rw [HZL.out, En.len HJ.out.2.2.1])
            have hb4 : Below W3.heap.size W3 W4 := by rw [← hW4]; exact below_al _ _
            have h6 := HJ.out.2.1.below hb3 HJ.out.2.1.lt
            exact ⟨(HJ.out.1.below hb3).below hb4, h6.below hb4 h6.lt, h9.below hb4 h9.lt, by rw [← hW4, ← hg11]; exact Blk.new W3 _ _, by rw [← hg11]; exact h9.lt, HJ.out.1.below hb3, hg11, by rw [← hW4, ← hg11]; simp⟩
          have c0 : W4.cell? ⟨g6, 0, none⟩ = some (iv x.tick) := H4.out.2.1.cell rfl
          have c1 : W4.cell? ⟨g6, 1, none⟩ = some (.string x.who) := H4.out.2.1.cell rfl
          have c2' : W4.cell? ⟨g6, 2, none⟩ = some (.string x.what) := H4.out.2.1.cell rfl
          clear hx3 hg3 hg9
          go_wp2_with fail
          have hra := refAppend_is H4.out.1.1.2.1.esr (by have := H4.out.1.1.2.2.2.1; have := H4.out.1.1.2.2.2.2.1; have := HQ.out.1; have := HN60.out; omega) (rz_of_ok HC.out.1.2.2.2.2.1) (tick_ok HC.out.1.2.2.2.2.1) x.tick x.who x.what HQ.out.2.2.1 HQ.out.2.2.2 HQ.out.2.1.2
          rw [HJ.out.2.2.2.1] at hra
          have hem := HC.out.2.2.2.2
          subst hem
          refine hra.mono ?_
          clear hra
          rintro e W5 ⟨v5, rfl, hv5, hb5⟩
          have hno : ∀ j, v5.ownBlock = some j → j ≠ g11 := fun j hj => by
            rcases hv5 with ⟨rfl, _⟩ | ho
            · have := (H4.out.2.2.2.2.2.1.1.2.1.lt hj).2; have := H4.out.2.2.2.2.2.2.1; omega
            · have := (ho.lt hj).1; have := H4.out.2.2.2.2.2.2.2; omega
          obtain ⟨a5, c5, rfl, hci⟩ := H4.out.1.ref HJ.out.2.2.2.2 hb5 hv5
          have H5 : Hid (CI w B L2 c2 (i + 1) fs vb a5 c5 W5 ∧ Blk W5 g9 37 y.cells ∧ Blk W5 g11 37 Z ∧ (∀ j, (Value.slice a5 fs.length c5).ownBlock = some j → j ≠ g11)) := ⟨hci, H4.out.2.2.1.below hb5 H4.out.2.2.1.lt, H4.out.2.2.2.1.below hb5 H4.out.2.2.2.1.lt, hno⟩
          clear hno hci hv5 hb5 c0 c1 c2' hW4 hg11
          dsimp only
          obtain ⟨k5, hk5⟩ : ∃ k, fs.length = k := ⟨_, rfl⟩
          rw [hk5]
          go_wp2_with (with_reducible change wpList _ _ _ ({ dst := none, op := Op.store 37 _ _, type := _, pos := _, after := _, guard := _ } :: _) _ _; refine Hid.out ?_)
          show wpList _ _ _ _ _ _
          refine wpList_store_blk rfl 37 (.tmp 11) (.tmp 62) rfl g11 0 37 Z y.cells rfl rfl H5.out.2.2.1 (by rw [HZL.out, En.len HJ.out.2.2.1]; exact Nat.le_refl _) (info37 HJ.out.2.2.1) (En.one _) ?_
          intro W6 hx6 hg6'
          have H6 : Hid (CI w B L2 c2 (i + 1) fs vb a5 c5 W6 ∧ Blk W6 g9 37 y.cells ∧ Blk W6 g11 37 y.cells ∧ KT W6 ∧ ST W6 ∧ fs.length = k5) := by
            have hk3 := H4.out.2.2.2.2.2.1.1
            have h3s := H4.out.2.2.2.2.2.2.1
            have hci : CI w B L2 c2 (i + 1) fs vb a5 c5 W6 := H5.out.1.gr hg6'.out (by have := hk3.1.lg.lt; omega) (by have := hk3.1.ch.lt; omega) (fun j hj => by have := (hk3.1.row.lt hj).2; omega) H5.out.2.2.2 (by have := hk3.2.2.2.2.2.2.1.size; omega)
            exact ⟨hci, H5.out.2.1.kept hg6'.out (fun e => by cases e; have := H4.out.2.2.2.2.1; omega), blk_all hx6.out (by rw [HZL.out, En.len HJ.out.2.2.1]), HK.out.1.below hci.2.2.2.2.2.1, HK.out.2.below hci.2.2.2.2.2.1, hk5⟩
          have HY : Hid y.ok := HJ.out.2.2.1
          clear hx6 hg6' H5 H4 HJ
          go_wp2_with (with_reducible change wpList _ _ _ ({ dst := some 64, op := _, type := _, pos := _, after := _, guard := _ } :: _) _ _; refine Hid.out ?_)
          show wpList _ _ _ _ _ _
          refine wpList_load_mid rfl 37 (.tmp 9) rfl g9 0 rfl y.cells _ H6.out.2.1.range0 Tryd.underlying37 rfl (info37 HY.out) ?_
          go_wp2_with (with_reducible change wpList _ _ _ ({ dst := some 65, op := _, type := _, pos := _, after := _, guard := _ } :: _) _ _; refine Hid.out ?_)
          show wpList _ _ _ _ _ _
          refine wpList_load_mid rfl 37 (.tmp 11) rfl g11 0 rfl y.cells _ H6.out.2.2.1.range0 Tryd.underlying37 rfl (info37 HY.out) ?_
          have hne := ne_en y HY.out
          obtain ⟨D, hD⟩ : ∃ D, hdE fs = D := ⟨_, rfl⟩
          have HD : Hid (hdE fs = D ∧ D.length = 32) := ⟨hD, by rw [← hD]; exact hdE_len fs⟩
          clear hD
          go_wp2_with fail
          refine (headL_is H6.out.1.1 H6.out.2.2.2.1 H6.out.2.2.2.2.1 D HD.out.1).mono ?_
          rintro e W7 ⟨rfl, hb7⟩
          have H7 : Hid (CI w B L2 c2 (i + 1) fs vb a5 c5 W7) := H6.out.1.below hb7
          clear hb7 hne
          go_wp2_with fail
          have hrh := refHead_is H7.out.2.1.esr (by have := H7.out.1.len; omega) (rz_of_ok H7.out.2.2.2.2.1) D HD.out.1
          rw [H6.out.2.2.2.2.2] at hrh
          refine hrh.mono ?_
          clear hrh
          rintro e W8 ⟨rfl, hb8⟩
          have H8 : Hid (CI w B L2 c2 (i + 1) fs vb a5 c5 W8) := H7.out.below hb8
          clear hb8 H7
          have hnz : ∀ W, (binOp .neq 35 (.agg (U D).toArray) (.agg (U D).toArray)).run Tryd.prog W = .ok (.bool false) W := fun W => by rw [neHb D D HD.out.2 HD.out.2 W, decide_eq_true rfl]; rfl
          go_wp2_with fail
          refine (entries_is H8.out.1).mono ?_
          rintro e W9 ⟨v13, rfl, ho13, hb9⟩
          obtain ⟨a13, c13, rfl⟩ := ow_slice ho13.out
          have hes13 := ho13.out.esr
          have hsp0 := ho13.out
          rw [hk5] at hsp0
          have hsp := spI_of hsp0 hk5 hb9
          have H9 : Hid (SpI W8 a13 k5 W9 ∧ CI w B L2 c2 (i + 1) fs vb a5 c5 W9 ∧ EsR W9 (.slice a13 fs.length c13) fs) := ⟨hsp, H8.out.below hb9, hes13⟩
          clear ho13 hb9 hes13 hsp hsp0 hnz
          go_wp2_with fail
          have hsm := same_is H9.out.2.2 H9.out.2.1.2.1.esr (by have := H9.out.2.1.1.len; omega) (by have := H9.out.2.1.1.len; omega) true ⟨fun _ => rfl, fun _ => rfl⟩
          rw [H6.out.2.2.2.2.2] at hsm
          refine hsm.mono ?_
          clear hsm
          rintro e WA ⟨rfl, hbA⟩
          have HA2 : Hid (SpI W8 a13 k5 WA) := by
            refine ⟨below_tr H9.out.1.1 hbA, fun hp => ?_⟩
            obtain ⟨p, cur, e1, e2, e3, e4⟩ := H9.out.1.2 hp
            exact ⟨p, cur, e1, e2, e3.below hbA e3.lt, e4⟩
          have qk5 : (k5 : Int) ≤ 5000 := by have := H8.out.1.len; have := H6.out.2.2.2.2.2; omega
          clear hbA H9
          go_wp2
          go_loopw [87] (fun u wq => ∃ j : Nat, u = iv (j : Int) ∧ Hid (j ≤ k5 ∧ SpI W8 a13 k5 wq)) (fun u _ => k5 - (intOf u).toNat)
          case atStart => exact ⟨0, rfl, Nat.zero_le _, HA2.out⟩
          case round =>
            clear HA2
            obtain ⟨j, rfl, HJ2⟩ := hrel
            by_cases hj : j = k5
            · subst hj
              have HF : Hid (i + 1 ≤ n ∧ fs.length = j ∧ CI w B L2 c2 (i + 1) fs vb a5 c5 wr) := ⟨HQ.out.1, H6.out.2.2.2.2.2, H8.out.below HJ2.out.2.1⟩
              go_wp2
              go_roundw
              case rel => exact ⟨i + 1, L2, c2, fs, vb, a5, c5, j, rfl, rfl, rfl, HF.out⟩
              case measure => show n - (i + 1) < n - i; have := HQ.out.1; omega
            · have hjm : j < k5 := by have := HJ2.out.1; omega
              have q2 : (j : Int) < (k5 : Int) := by omega
              obtain ⟨p, cur, rfl, hp1, hp2, hp3⟩ := HJ2.out.2.2 (by omega)
              have HP : Hid (W8.heap.size ≤ p ∧ Blk wr p 37 cur ∧ k5 * 36 ≤ cur.length ∧ j < k5) := ⟨hp1, hp2, hp3, hjm⟩
              clear hj hjm hp1 hp2 hp3
              go_wp2_with (with_reducible change wpList _ _ _ ({ dst := none, op := Op.store 9 _ _, type := _, pos := _, after := _, guard := _ } :: _) _ _; refine Hid.out ?_)
              show wpList _ _ _ _ _ _
              refine wpList_store1 rfl 9 (.tmp 93) _ rfl p (j * 36 + 3) 37 cur (.string ⟨#[115, 112, 111, 105, 108, 116]⟩) rfl rfl HP.out.2.1 (by have := HP.out.2.2.1; have := HP.out.2.2.2; omega) (by kernel_rfl) rfl rfl ?_
              intro WB hxB hgB
              have HF : Hid (j + 1 ≤ k5 ∧ SpI W8 (some ⟨p, 0, none⟩) k5 WB) := by
                refine ⟨HP.out.2.2.2, below_gr HJ2.out.2.1 hgB.out HP.out.1, fun _ => ⟨p, _, rfl, HP.out.1, hxB.out, ?_⟩⟩
                have h1 := HP.out.2.2.1
                have h2 := HP.out.2.2.2
                rw [List.length_append, List.length_append, List.length_take, List.length_drop, List.length_singleton]
                omega
              clear hxB hgB
              go_wp2
              go_roundw
              case rel => exact ⟨j + 1, rfl, HF.out⟩
              case measure => show k5 - (j + 1) < k5 - j; have := HP.out.2.2.2; omega
#print axioms plays_law
end Go.Proofs.YtmmpafaegmejlaaDoor.Oct
