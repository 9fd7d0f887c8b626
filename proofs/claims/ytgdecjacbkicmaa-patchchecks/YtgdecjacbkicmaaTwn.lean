/-
  Layer 10 (patch): Twin of the reference, walked.
-/
import Derived.Test.YtgdecjacbkicmaaTwi
namespace Go.Proofs.Ytgdecjacbkicmaa.Oct
open Go.RowKit
set_option maxRecDepth 100000
set_option linter.unusedSimpArgs false
set_option linter.unusedVariables false

theorem TwI.free {w V : World} {p q : PV} {d g oc : Nat} {O : List OpV} (h : TwI w p d g oc q O V) (k : Nat) : V.frozen? ⟨g, k, none⟩ = false := by
  rcases h.row.2 with ⟨h0, h1⟩ | ⟨g', cap, cur, e, hB, hb, hn, hc, hs, ht⟩
  · cases h0
  · cases e
    have hk : Blk V g 51 cur.toList := by unfold Blk; rw [hb]
    exact hk.free k
def hsC (D : List Hs) : List Value := D.flatMap U
theorem hsC_len : ∀ {D : List Hs}, (∀ h ∈ D, h.length = 32) → (hsC D).length = D.length * 32
  | [], _ => rfl
  | x :: D, h => by
    have ih := hsC_len (D := D) (fun y hy => h y (by simp [hy]))
    show (U x ++ hsC D).length = _
    rw [List.length_append, U_length, h x (by simp), ih, List.length_cons]
    omega
theorem hsC_one (D : List Hs) : ∀ u ∈ hsC D, u.oneCell' = true := by
  intro u hu
  obtain ⟨o, _, h⟩ := List.mem_flatMap.1 hu
  exact U_one o u h
theorem hsC_get : ∀ {D : List Hs} {i : Nat} {x : Hs}, (∀ h ∈ D, h.length = 32) → D[i]? = some x → ∀ j v, (U x)[j]? = some v → (hsC D)[i * 32 + j]? = some v
  | [], i, o, _, h => by simp at h
  | x :: D, 0, o, hok, h => by
    simp at h
    subst h
    intro j v hv
    show (U x ++ hsC D)[0 * 32 + j]? = some v
    rw [Nat.zero_mul, Nat.zero_add, List.getElem?_append_left (List.getElem?_eq_some_iff.1 hv).1]
    exact hv
  | x :: D, i + 1, o, hok, h => by
    simp at h
    intro j v hv
    have ih := hsC_get (fun y hy => hok y (by simp [hy])) h j v hv
    show (U x ++ hsC D)[(i + 1) * 32 + j]? = some v
    rw [List.getElem?_append_right (by rw [U_length, hok x (by simp)]; omega), U_length, hok x (by simp), show (i + 1) * 32 + j - 32 = i * 32 + j by omega]
    exact ih
theorem hsC_range {w : World} {g : Nat} : ∀ {D : List Hs} {off : Nat}, (∀ h ∈ D, h.length = 32) → (∀ i x, D[i]? = some x → w.rangeAt g (off + i * 32) (U x)) → w.rangeAt g off (hsC D)
  | [], off, _, _ => fun j v hj => by simp [hsC] at hj
  | x :: D, off, hok, h => by
    have hl : (U x).length = 32 := by rw [U_length]; exact hok x (by simp)
    have h0 := h 0 x rfl
    have ih := hsC_range (D := D) (off := off + 32) (fun y hy => hok y (by simp [hy])) (fun i e he => by
      have := h (i + 1) e (by simpa using he)
      rw [show off + (i + 1) * 32 = off + 32 + i * 32 by omega] at this
      exact this)
    intro j v hj
    change (U x ++ hsC D)[j]? = some v at hj
    by_cases hlt : j < 32
    · rw [List.getElem?_append_left (by omega)] at hj
      have := h0 j v hj
      simpa using this
    · rw [List.getElem?_append_right (by omega), hl] at hj
      have := ih (j - 32) v hj
      rw [show off + 32 + (j - 32) = off + j by omega] at this
      exact this
theorem hsR_row {w : World} {B g n c : Nat} {D : List Hs} (h : w.ownsRow B 47 32 (.slice (some ⟨g, 0, none⟩) n c) n (hsC D)) (hD : ∀ h ∈ D, h.length = 32) (hn : D.length = n) : HsR w (some ⟨g, 0, none⟩) n D := by
  refine ⟨hn, hD, fun hp => ?_⟩
  rcases h.2 with ⟨h0, h1⟩ | ⟨g', cap, cur, e, hB, hb, hn2, hc, hs, ht⟩
  · cases h0
  · cases e
    have hk : Blk w g 47 cur.toList := by unfold Blk; rw [hb]
    refine ⟨g, 0, rfl, hk.lt, fun i x hi j v hv => ?_⟩
    have h2 := hsC_get hD hi j v hv
    rw [← ht, List.getElem?_take] at h2
    split at h2
    · rw [Nat.zero_add]; exact hk.cell h2
    · cases h2
theorem strs_row {w : World} {B g n c : Nat} {ts : List BA} (h : w.ownsRow B 9 1 (.slice (some ⟨g, 0, none⟩) n c) n (ts.map Value.string)) (hn : ts.length = n) : Strs w (some ⟨g, 0, none⟩) n ts := by
  refine ⟨hn, fun hp => ?_⟩
  rcases h.2 with ⟨h0, h1⟩ | ⟨g', cap, cur, e, hB, hb, hn2, hc, hs, ht⟩
  · cases h0
  · cases e
    have hk : Blk w g 9 cur.toList := by unfold Blk; rw [hb]
    refine ⟨g, 0, rfl, hk.lt, fun i x hi => ?_⟩
    have h2 : (ts.map Value.string)[i]? = some (.string x) := by rw [List.getElem?_map, hi]; rfl
    rw [← ht, List.getElem?_take] at h2
    split at h2
    · rw [Nat.zero_add]; exact hk.cell h2
    · cases h2
theorem zero25 (W : World) : (zeroValue 25).run Try.prog W = .ok (.agg p00.cells.toArray) W := by kernel_rfl
set_option maxHeartbeats 4000000 in
theorem twin_is (w : World) (p : PV) (h : PR w p) (hz : p.dn ≤ 1000 ∧ p.on ≤ 1000 ∧ ∀ o ∈ p.O, o.ln ≤ 1000) : Calls Try.prog 9 #[.agg p.cells.toArray] w fun e w' => ∃ q, e = .returned (.agg q.cells.toArray) ∧ Hid (PR w' q ∧ Tw p q) ∧ Below w.heap.size w w' := by
  have HP : Hid (PR w p ∧ p.dn ≤ 1000 ∧ p.on ≤ 1000 ∧ (∀ o ∈ p.O, o.ln ≤ 1000)) := ⟨h, hz.1, hz.2.1, hz.2.2⟩
  obtain ⟨d, hd⟩ : ∃ d, w.heap.size = d := ⟨_, rfl⟩
  obtain ⟨Wa, hWa⟩ : ∃ W, w.alloc (.cells p.cells.toArray 25) = W := ⟨_, rfl⟩
  obtain ⟨d2, hd2⟩ : ∃ d, Wa.heap.size = d := ⟨_, rfl⟩
  obtain ⟨W0, hW0⟩ : ∃ W, Wa.alloc (.cells p00.cells.toArray 25) = W := ⟨_, rfl⟩
  have ba : Below w.heap.size w Wa := by rw [← hWa]; exact below_al _ _
  have bb : Below Wa.heap.size Wa W0 := by rw [← hW0]; exact below_al _ _
  have ka : Blk Wa d 25 p.cells := by rw [← hWa, ← hd]; exact Blk.new w _ _
  have k0 : Blk W0 d 25 p.cells := ka.below bb ka.lt
  have k2 : Blk W0 d2 25 p00.cells := by rw [← hW0, ← hd2]; exact Blk.new Wa _ _
  have hdd : d < d2 := by rw [← hd2]; exact ka.lt
  have H0 : Hid (Below w.heap.size w W0 ∧ Blk W0 d 25 p.cells ∧ Blk W0 d2 25 p00.cells ∧ w.heap.size = d ∧ d < d2) := ⟨below_tr ba bb, k0, k2, hd, hdd⟩
  have hzz := zero25
  have qdn : (p.dn : Int) ≤ 1000 := by have := hz.1; omega
  have qon : (p.on : Int) ≤ 1000 := by have := hz.2.1; omega
  have c3 : W0.cell? ⟨d, 3, none⟩ = some (.slice p.da p.dn p.dc) := k0.cell rfl
  clear h hz ba bb ka k0 k2 hdd
  go_enter Try.func9, Try.ntmps9
  go_wp2_with (with_reducible change wpList _ _ _ ({ dst := some 5, op := _, type := _, pos := _, after := _, guard := _ } :: _) _ _; refine Hid.out ?_)
  show wpList _ _ _ _ _ _
  refine wpList_bs0 rfl 22 rfl _ (rb22 W0) ?_
  obtain ⟨g3, x3, W1, hr1, ho1, hb1, hlo1, hlt1, hc1⟩ := app_new (t := 22) Try.underlying22 inf47 (by omega) W0 p.da p.dn p.dc (hsC p.D) (by rw [hsC_len HP.out.1.deps.2.1, HP.out.1.deps.1]) (hsC_one _) (fun hp => by
    obtain ⟨gg, off, e1, e2, e3⟩ := (HP.out.1.deps.below H0.out.1).2.2 hp
    refine ⟨_, e1, fun j u hj => ?_⟩
    rw [Addr.add_lit]
    exact hsC_range HP.out.1.deps.2.1 e3 j u hj) (by have := HP.out.2.1; omega) (by have := HP.out.2.1; omega) 22
  obtain ⟨r0, hr0⟩ : ∃ r, W0.heap.size = r := ⟨_, rfl⟩
  obtain ⟨V0, hV0⟩ : ∃ V, W0.alloc (.cells #[] 47) = V := ⟨_, rfl⟩
  have v3 : V0.cell? ⟨d, 3, none⟩ = some (.slice p.da p.dn p.dc) := by rw [← hV0]; exact (H0.out.2.1.alloc _).cell rfl
  rw [hr0, hV0] at hr1
  rw [hr0, hV0]
  have H1 : Hid (Below W0.heap.size W0 W1 ∧ HsR W1 (some ⟨g3, 0, none⟩) p.dn p.D ∧ g3 < W1.heap.size ∧ p.dn ≤ x3 ∧ x3 ≤ maxLen ∧ d2 < g3) := ⟨hb1, hsR_row ho1 HP.out.1.deps.2.1 HP.out.1.deps.1, hlt1, hc1.1, hc1.2, by have := H0.out.2.2.1.lt; omega⟩
  clear ho1 hb1 hlo1 hlt1 hc1 hV0 c3 hWa hW0
  go_wp2_with (with_reducible change wpList _ _ _ ({ dst := some 8, op := _, type := _, pos := _, after := _, guard := _ } :: _) _ _; refine Hid.out ?_)
  show wpList _ _ _ _ _ _
  refine wpList_apd (t := 22) rfl (.tmp 5) (.tmp 7) rfl hr1 rfl rfl ?_
  have w3 : W1.cell? ⟨d, 3, none⟩ = some (.slice p.da p.dn p.dc) := (H0.out.2.1.below H1.out.1 H0.out.2.1.lt).cell rfl
  have f3 : W1.frozen? ⟨d, 3, none⟩ = false := (H0.out.2.1.below H1.out.1 H0.out.2.1.lt).free 3
  obtain ⟨W2, hW2⟩ : ∃ W, W1.setCell ⟨d, 3, none⟩ (.slice (some ⟨g3, 0, none⟩) p.dn x3) = W := ⟨_, rfl⟩
  obtain ⟨q, hq⟩ : ∃ q : PV, { p with da := some ⟨g3, 0, none⟩, dc := x3 } = q := ⟨_, rfl⟩
  have H2 : Hid (Below w.heap.size w W2 ∧ Blk W2 d 25 q.cells ∧ Blk W2 d2 25 p00.cells ∧ HsR W2 (some ⟨g3, 0, none⟩) p.dn p.D ∧ g3 < W2.heap.size ∧ d2 < g3) := by
    have hg : W1.grownBy W2 (some d) := by rw [← hW2]; exact grown_setCell _ _ _ _
    have hds := H0.out.2.2.2.1
    refine ⟨below_gr (below_tr H0.out.1 H1.out.1) hg (by omega), ?_, (H0.out.2.2.1.below H1.out.1 H0.out.2.2.1.lt).kept hg (by have := H0.out.2.2.2.2; simp; omega), ?_, Nat.lt_of_lt_of_le H1.out.2.2.1 hg.size, H1.out.2.2.2.2.2⟩
    · have h3 := (H0.out.2.1.below H1.out.1 H0.out.2.1.lt).set 3 (.slice (some ⟨g3, 0, none⟩) p.dn x3)
      rw [hW2] at h3
      rw [← hq]
      exact h3
    · refine HsR.same H1.out.2.1 hg.size fun g2 off e => ?_
      cases e
      exact hg.block g3 H1.out.2.2.1 (by have := H1.out.2.2.2.2.2; have := H0.out.2.2.2.2; simp; omega)
  have HQ : Hid ({ p with da := some ⟨g3, 0, none⟩, dc := x3 } = q ∧ p.dn ≤ x3 ∧ x3 ≤ maxLen) := ⟨hq, H1.out.2.2.2.1, H1.out.2.2.2.2.1⟩
  have c4 : W2.cell? ⟨d, 4, none⟩ = some (.slice p.oa p.on p.oc) := by have := H2.out.2.1.cell (i := 4) (v := .slice p.oa p.on p.oc) (by rw [← hq]; rfl); exact this
  clear hr1 v3 H1 hr0 hq
  go_wp2_with (with_reducible change wpList _ _ _ ({ dst := some 10, op := _, type := _, pos := _, after := _, guard := _ } :: _) _ _; refine Hid.out ?_)
  show wpList _ _ _ _ _ _
  clear hW2 w3 f3
  refine wpList_bs0 rfl 23 rfl _ (rb23 W2) ?_
  obtain ⟨g, xo, W3, hr3, ho3, hb3, hlo3, hlt3, hc3⟩ := app_new (t := 23) Try.underlying23 inf51 (by omega) W2 p.oa p.on p.oc (cellsO p.O) (by rw [cellsO_len (fun o ho => (HP.out.1.ops.2.1 o ho).1), HP.out.1.ops.1]) (cellsO_one _) (fun hp => by
    obtain ⟨gg, off, e1, e2, e3⟩ := (HP.out.1.ops.below H2.out.1).2.2 hp
    refine ⟨_, e1, fun j u hj => ?_⟩
    rw [Addr.add_lit]
    exact cellsO_range (off := off) (g := gg) (fun o ho => (HP.out.1.ops.2.1 o ho).1) e3 j u hj) (by have := HP.out.2.2.1; omega) (by have := HP.out.2.2.1; omega) 23
  obtain ⟨r2, hr2⟩ : ∃ r, W2.heap.size = r := ⟨_, rfl⟩
  obtain ⟨V2, hV2⟩ : ∃ V, W2.alloc (.cells #[] 51) = V := ⟨_, rfl⟩
  have v4 : V2.cell? ⟨d, 4, none⟩ = some (.slice p.oa p.on p.oc) := by rw [← hV2]; have := (H2.out.2.1.alloc (.cells #[] 51)).cell (i := 4) (v := .slice p.oa p.on p.oc) (by rw [← HQ.out.1]; rfl); exact this
  rw [hr2, hV2] at hr3
  rw [hr2, hV2]
  have H3 : Hid (TwI w p d g xo q p.O W3 ∧ Blk W3 d2 25 p00.cells ∧ d2 < g ∧ p.on ≤ xo ∧ xo ≤ maxLen) := by
    have hgs : W2.heap.size ≤ g := hlo3
    refine ⟨⟨below_tr H2.out.1 hb3, H2.out.2.1.below hb3 H2.out.2.1.lt, by have := H2.out.2.1.lt; omega, by have := H2.out.1.size; omega, ?_, fun o ho => ⟨(HP.out.1.ops.2.1 o ho).1, ?_⟩, rfl, HP.out.1.ops.1, ?_, ?_⟩, H2.out.2.2.1.below hb3 H2.out.2.2.1.lt, by have := H2.out.2.2.1.lt; omega, hc3.1, hc3.2⟩
    · refine ⟨ho3.1, ?_⟩
      rcases ho3.2 with h0 | ⟨g', cap, cur, e, hB, hr⟩
      · exact .inl h0
      · exact .inr ⟨g', cap, cur, e, Nat.le_trans H2.out.1.size hB, hr⟩
    · refine ⟨((HP.out.1.ops.2.1 o ho).2.below H2.out.1).below hb3, fun hp x hx => .inl ?_⟩
      obtain ⟨b, off, e1, e2, _⟩ := (HP.out.1.ops.2.1 o ho).2.2 hp
      rw [e1] at hx
      cases hx
      exact e2
    · rw [← HQ.out.1]
      exact H2.out.2.2.2.1.below hb3
    · intro x hx
      rw [← HQ.out.1] at hx
      cases hx
      have := H2.out.2.2.2.2.1
      show g3 < g
      omega
  have H6 : Hid (d < d2 ∧ d2 < g3) := ⟨H0.out.2.2.2.2, H2.out.2.2.2.2.2⟩
  clear ho3 hb3 hlo3 hlt3 hc3 hV2 c4 H2
  go_wp2_with (with_reducible change wpList _ _ _ ({ dst := some 13, op := _, type := _, pos := _, after := _, guard := _ } :: _) _ _; refine Hid.out ?_)
  show wpList _ _ _ _ _ _
  refine wpList_apd (t := 23) rfl (.tmp 10) (.tmp 12) rfl hr3 rfl rfl ?_
  clear hr3 v4 hr2
  go_wp2_with fail
  go_loopw [4] (fun u wr => ∃ i : Nat, u = iv (i : Int) ∧ (i : Int) ≤ (p.on : Int) ∧ Hid (∃ O, TwI w p d g xo q O wr ∧ Blk wr d2 25 p00.cells)) (fun u _ => p.on - (intOf u).toNat)
  case atStart => exact ⟨0, rfl, by omega, p.O, H3.out.1, H3.out.2.1⟩
  case round =>
    obtain ⟨V, hV⟩ : ∃ V, V = wr := ⟨_, rfl⟩
    subst hV
    obtain ⟨i, rfl, qi, HI0⟩ := hrel
    obtain ⟨O, hT, hk2⟩ := HI0.out
    have HI : Hid (TwI w p d g xo q O V ∧ Blk V d2 25 p00.cells) := ⟨hT, hk2⟩
    clear HI0 hT hk2
    by_cases hi : i < p.on
    · obtain ⟨x, hx⟩ : ∃ x, O[i]? = some x := ⟨_, List.getElem?_eq_getElem (by rw [HI.out.1.len]; exact hi)⟩
      have hxo := HI.out.1.ok x (List.mem_of_getElem? hx)
      have hln : x.ln ≤ 1000 := by
        have hs : (p.O.map OpV.strip)[i]? = some x.strip := by
          have h1 : p.O.map OpV.strip = O.map OpV.strip := HI.out.1.al
          rw [h1, List.getElem?_map, hx]
          rfl
        rw [List.getElem?_map] at hs
        obtain ⟨y, hy, he⟩ := Option.map_eq_some_iff.1 hs
        have := HP.out.2.2.2 y (List.mem_of_getElem? hy)
        have := (strip_eq he).2.2.2.2.1
        omega
      have HX : Hid (i < p.on ∧ O[i]? = some x ∧ x.ok ∧ StN V w.heap.size g x ∧ x.ln ≤ 1000) := ⟨hi, hx, hxo.1, hxo.2, hln⟩
      have q1 : (i : Int) < (p.on : Int) := by omega
      obtain ⟨ln, hlnn⟩ : ∃ n, x.ln = n := ⟨_, rfl⟩
      have HLN : Hid (x.ln = ln) := hlnn
      have qln : (ln : Int) ≤ 1000 := by omega
      clear hxo hx hln hi qi hlnn
      go_wp2_with (with_reducible change wpList _ _ _ ({ dst := some 22, op := _, type := _, pos := _, after := _, guard := _ } :: _) _ _; refine Hid.out ?_)
      show wpList _ _ _ _ _ _
      refine wpList_bs0 rfl 31 rfl _ (rb31 V) ?_
      obtain ⟨gt, xt, V2, hrt, hot, hbt, hlot, hltt, hct⟩ := app_new (t := 31) Try.underlying31 inf9 (by omega) V x.la ln x.lc (x.ts.map Value.string) (by rw [List.length_map, HX.out.2.2.1.2.2.1, HLN.out, Nat.mul_one]) (fun u hu => by obtain ⟨s, _, rfl⟩ := List.mem_map.1 hu; rfl) (fun hp => by
        obtain ⟨b, off, e1, e2, e3⟩ := HX.out.2.2.2.1.1.2 (by rw [HLN.out]; exact hp)
        refine ⟨_, e1, fun j u hj => ?_⟩
        rw [Addr.add_lit]
        rw [List.getElem?_map] at hj
        obtain ⟨s, hs, rfl⟩ := Option.map_eq_some_iff.1 hj
        exact e3 j s hs) (by have := HX.out.2.2.2.2; have := HLN.out; omega) (by have := HX.out.2.2.2.2; have := HLN.out; omega) 31
      obtain ⟨r3, hr3⟩ : ∃ r, V.heap.size = r := ⟨_, rfl⟩
      obtain ⟨V1, hV1⟩ : ∃ V1, V.alloc (.cells #[] 9) = V1 := ⟨_, rfl⟩
      have hbV1 : Below V.heap.size V V1 := by rw [← hV1]; exact below_al _ _
      have t68 : V1.cell? ⟨g, i * 69 + 68, none⟩ = some (.slice x.la ln x.lc) := by rw [← HLN.out]; exact ((HI.out.1.below hbV1).at HX.out.2.1).1 68 _ (OpV.c68 HX.out.2.2.1)
      rw [hr3, hV1] at hrt
      rw [hr3, hV1]
      have H4 : Hid (TwI w p d g xo q O V2 ∧ Blk V2 d2 25 p00.cells ∧ Strs V2 (some ⟨gt, 0, none⟩) x.ln x.ts ∧ g < gt ∧ x.ln ≤ xt ∧ xt ≤ maxLen) := ⟨HI.out.1.below hbt, HI.out.2.below hbt HI.out.2.lt, by rw [HLN.out]; exact strs_row hot (by rw [HX.out.2.2.1.2.2.1, HLN.out]), by have := (HI.out.1.at HX.out.2.1).2; omega, by rw [HLN.out]; exact hct.1, hct.2⟩
      clear hot hbt hlot hltt hct hV1 hbV1
      go_wp2_with (with_reducible change wpList _ _ _ ({ dst := some 28, op := _, type := _, pos := _, after := _, guard := _ } :: _) _ _; refine Hid.out ?_)
      show wpList _ _ _ _ _ _
      refine wpList_apd (t := 31) rfl (.tmp 22) (.tmp 27) rfl hrt rfl rfl ?_
      have u68 : V2.cell? ⟨g, i * 69 + 68, none⟩ = some (.slice x.la ln x.lc) := by rw [← HLN.out]; exact (H4.out.1.at HX.out.2.1).1 68 _ (OpV.c68 HX.out.2.2.1)
      have fz := H4.out.1.free (i * 69 + 68)
      obtain ⟨V3, hV3⟩ : ∃ V3, V2.setCell ⟨g, i * 69 + 68, none⟩ (.slice (some ⟨gt, 0, none⟩) ln xt) = V3 := ⟨_, rfl⟩
      have H5 : Hid (TwI w p d g xo q (O.set i (x.put (some ⟨gt, 0, none⟩) xt)) V3 ∧ Blk V3 d2 25 p00.cells ∧ i < p.on) := by
        have h1 := H4.out.1.turn HX.out.2.1 (some ⟨gt, 0, none⟩) xt H4.out.2.2.1 (fun y hy => by cases hy; exact H4.out.2.2.2.1) ⟨H4.out.2.2.2.2.1, H4.out.2.2.2.2.2⟩
        rw [HLN.out, hV3] at h1
        refine ⟨h1, ?_, HX.out.1⟩
        rw [← hV3]
        exact H4.out.2.1.kept (grown_setCell V2 g _ _) (by have := H3.out.2.2.1; simp; omega)
      clear hrt t68 H4 HX hr3
      go_wp2
      go_roundw
      case rel => exact ⟨i + 1, by simp, by have := H5.out.2.2; omega, _, H5.out.1, H5.out.2.1⟩
      case measure => have := H5.out.2.2; simp only [intOf]; omega
    · have q1 : (p.on : Int) ≤ (i : Int) := by omega
      have c4 : V.cell? ⟨d, 4, none⟩ = some (.slice p.oa p.on p.oc) := by have := HI.out.1.bk.cell (i := 4) (v := .slice p.oa p.on p.oc) (by rw [← HQ.out.1]; rfl); exact this
      have f4 := HI.out.1.bk.free 4
      obtain ⟨V3, hV3⟩ : ∃ V3, V.setCell ⟨d, 4, none⟩ (.slice (some ⟨g, 0, none⟩) p.on xo) = V3 := ⟨_, rfl⟩
      obtain ⟨z, hz⟩ : ∃ z : PV, { q with oa := some ⟨g, 0, none⟩, oc := xo, O := O } = z := ⟨_, rfl⟩
      have hgg : V.grownBy V3 (some d) := by rw [← hV3]; exact grown_setCell _ _ _ _
      have hqq := HQ.out.1
      have H5 : Hid (Blk V3 d 25 z.cells ∧ Blk V3 d2 25 p00.cells ∧ Below w.heap.size w V3 ∧ (∀ V4, V3.grownBy V4 (some d2) → PR V4 z) ∧ Tw p z) := by
        have hb3 : Below w.heap.size w V3 := below_gr HI.out.1.bel hgg (by have := H0.out.2.2.2.1; omega)
        have hds := H0.out.2.2.2.1
        have hdd := H0.out.2.2.2.2
        refine ⟨?_, HI.out.2.kept hgg (by simp; omega), hb3, ?_, ?_⟩
        · have h3 := HI.out.1.bk.set 4 (.slice (some ⟨g, 0, none⟩) p.on xo)
          rw [hV3] at h3
          rw [← hz, ← hqq]
          rw [← hqq] at h3
          exact h3
        · intro V4 hg4
          have h6 := H6.out
          have hdeps := (HI.out.1.deps.gr hgg (fun x hx => by
            rw [← hqq] at hx
            cases hx
            show g3 ≠ d
            omega)).gr hg4 (fun x hx => by
            rw [← hqq] at hx
            cases hx
            show g3 ≠ d2
            omega)
          have hops := HI.out.1.ops (by omega) ⟨by omega, H3.out.2.2.1⟩ hgg hg4
          rw [← hqq] at hdeps
          rw [← hz, ← hqq]
          exact ⟨hdeps, hops, ⟨HQ.out.2.1, HQ.out.2.2⟩, ⟨H3.out.2.2.2.1, H3.out.2.2.2.2⟩, HP.out.1.zd, HP.out.1.zo, HP.out.1.za, HP.out.1.zn⟩
        · rw [← hz, ← hqq]
          exact ⟨rfl, rfl, rfl, rfl, rfl, rfl, HI.out.1.al⟩
      clear hi hz hgg hqq
      go_wp2_with (with_reducible change wpList _ _ _ ({ dst := some 33, op := _, type := _, pos := _, after := _, guard := _ } :: _) _ _; refine Hid.out ?_)
      show wpList _ _ _ _ _ _
      refine wpList_load_mid rfl 25 (.tmp 1) rfl d 0 rfl z.cells _ H5.out.1.range0 Try.underlying25 rfl (info25 z) ?_
      go_wp2_with (with_reducible change wpList _ _ _ ({ dst := none, op := Op.store 25 _ _, type := _, pos := _, after := _, guard := _ } :: _) _ _; refine Hid.out ?_)
      show wpList _ _ _ _ _ _
      refine wpList_store_blk rfl 25 (.tmp 2) (.tmp 33) rfl d2 0 25 p00.cells z.cells rfl rfl H5.out.2.1 (by show 0 + 5 ≤ 5; omega) (info25 z) z.one ?_
      intro V4 hx4 hg4
      have H7 : Hid (Blk V4 d2 25 z.cells ∧ PR V4 z ∧ Below w.heap.size w V4 ∧ Tw p z) := ⟨blk_all hx4.out rfl, H5.out.2.2.2.1 V4 hg4.out, below_gr H5.out.2.2.1 hg4.out (by have := H0.out.2.2.2; omega), H5.out.2.2.2.2⟩
      clear hx4 hg4
      go_wp2
      exact ret_c rfl rfl rfl H7.out.1 Try.underlying25 rfl (info25 z) ⟨z, rfl, ⟨H7.out.2.1, H7.out.2.2.2⟩, H7.out.2.2.1⟩
#print axioms twin_is
end Go.Proofs.Ytgdecjacbkicmaa.Oct
