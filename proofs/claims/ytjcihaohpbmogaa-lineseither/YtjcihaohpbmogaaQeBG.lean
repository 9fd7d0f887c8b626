/-
  Layer 11 (lines): Conflicts.
-/
import Derived.Test.YtjcihaohpbmogaaQeBF
/- Layer 11 (lines): Conflicts. -/
namespace Go.Proofs.Ytjcihaohpbmogaa.Oct
open Go.RowKit
set_option maxRecDepth 100000
set_option linter.unusedSimpArgs false
set_option linter.unusedVariables false
set_option linter.unusedSectionVars false

def Gm.alive (G : Gm) (vs : List Vx) (n : Nat) : Bool := match G.get (vs.getD n vTop) with
  | some l => decide (l.p.kills = [])
  | none => true
def Gm.conf (G : Gm) (vs : List Vx) : Int := (confR (flv G vs) (G.alive vs) vs.length (Gr.ordr (flv G vs) (List.range vs.length))).pairs
def Cf0 (N : Nat) : Cf := ⟨List.replicate (N * 8) 0, z8, 0, 0⟩
theorem foldl_take {α β : Type} (f : β → α → β) (b : β) (l : List α) (i : Nat) (x : α) (h : l[i]? = some x) : (l.take (i + 1)).foldl f b = f ((l.take i).foldl f b) x := by
  rw [List.take_add_one, h, List.foldl_append]
  rfl
theorem cf_len (fl : Nat → List Nat) (al : Nat → Bool) (c : Cf) (n : Nat) : (cfStep fl al c n).l.length = c.l.length ∧ (cfStep fl al c n).s.length = c.s.length := by
  unfold cfStep
  cases al n <;> simp [jn_len, putW_len]
theorem cfs_len (fl : Nat → List Nat) (al : Nat → Bool) : ∀ (R : List Nat) (c : Cf), (R.foldl (cfStep fl al) c).l.length = c.l.length ∧ (R.foldl (cfStep fl al) c).s.length = c.s.length
  | [], c => ⟨rfl, rfl⟩
  | n :: R, c => by
    have h1 := cfs_len fl al R (cfStep fl al c n)
    have h2 := cf_len fl al c n
    exact ⟨h1.1.trans h2.1, h1.2.trans h2.2⟩
theorem cf_pos (fl : Nat → List Nat) (al : Nat → Bool) (c : Cf) (n : Nat) (h : al n = true) : cfStep fl al c n = ⟨jn n (fl n) c.l, putW 0 n c.s, wrap64 (c.pairs + wrap64 (c.before - bothW (((jn n (fl n) c.l).drop (n * 8)).take 8) c.s 8)), wrap64 (c.before + 1)⟩ := by
  unfold cfStep
  rw [if_pos h]
theorem cf_neg (fl : Nat → List Nat) (al : Nat → Bool) (c : Cf) (n : Nat) (h : al n = false) : cfStep fl al c n = ⟨jn n (fl n) c.l, c.s, c.pairs, c.before⟩ := by
  unfold cfStep
  rw [if_neg (by rw [h]; decide)]
set_option maxHeartbeats 8000000 in
theorem conflicts_is {w : World} {p : Nat} {G : Gm} (h : GAt w p G) (F : Vx → Nat) (hF : G.acy F) : Calls Try.prog 25 #[.pointer (some ⟨p, 0, none⟩)] w fun e w' => ∃ vs, e = .returned (iv (G.conf vs)) ∧ Hid (G.rise vs) ∧ Hid (Below w.heap.size w w') := by
  have HG : Hid (GAt w p G ∧ G.acy F) := ⟨h, hF⟩
  have hz := zero80
  have hz5 := zero95
  clear h hF
  go_enter Try.func25, Try.ntmps25
  go_wp2_with fail
  refine (made_is HG.out.1).mono ?_
  rintro e w2 ⟨rfl, rfl⟩
  go_wp2_with fail
  refine (sheet_is HG.out.1).mono ?_
  rintro e W1 ⟨va, vc, la, lc, fa, fc, N, vs, rfl, HSG, HB⟩
  have H1 : Hid (Below w.heap.size w W1 ∧ ShR W1 G va la fa N vs ∧ N ≤ 512 ∧ vs.length = N) := by
    refine ⟨HB.out, HSG.out.1, ?_, HSG.out.1.1.1⟩
    have h1 := HSG.out.1.2.1.1.length_eq
    have h2 := HSG.out.1.1.1
    have h3 := HG.out.1.few
    simp [Gm.keys] at h1
    omega
  have q0 : (N : Int) ≤ 512 := by have := H1.out.2.2.1; omega
  clear HB HSG
  go_wp2_with (first
    | (with_reducible change wpList _ _ _ ({ dst := none, op := Op.store 80 _ _, type := _, pos := _, after := _, guard := _ } :: _) _ _
       refine Hid.out ?_)
    | fail)
  show wpList _ _ _ _ _ _
  refine wpList_store_fresh rfl 80 (.tmp 3) (.tmp 16) rfl (shc (.slice none 0 0) (.slice none 0 0) (.slice none 0 0)) (shc (.slice va N vc) (.slice la N lc) (.slice fa N fc)) 80 rfl rfl rfl (info80 _ _ _) (shc_one rfl rfl rfl) ?_
  obtain ⟨W3, hW3⟩ : ∃ W, W1.alloc (.cells (shc (.slice va N vc) (.slice la N lc) (.slice fa N fc)).toArray 80) = W := ⟨_, rfl⟩
  obtain ⟨d3, hd3⟩ : ∃ g, W1.heap.size = g := ⟨_, rfl⟩
  have H3 : Hid (Below w.heap.size w W3 ∧ Blk W3 d3 80 (shc (.slice va N vc) (.slice la N lc) (.slice fa N fc)) ∧ ShR W3 G va la fa N vs ∧ d3 < W3.heap.size) := by
    have hb : Below W1.heap.size W1 W3 := by rw [← hW3]; exact below_al _ _
    have hk : Blk W3 d3 80 (shc (.slice va N vc) (.slice la N lc) (.slice fa N fc)) := by rw [← hW3, ← hd3]; exact Blk.new W1 _ _
    exact ⟨below_tr H1.out.1 hb, hk, H1.out.2.1.below hb, hk.lt⟩
  rw [hW3, hd3]
  clear hW3 hd3 hz
  have c1 : W3.cell? ⟨d3, 1, none⟩ = some (.slice la N lc) := H3.out.2.1.cell rfl
  go_wp2_with (first
    | (with_reducible change wpList _ _ _ ({ dst := some 20, op := _, type := _, pos := _, after := _, guard := _ } :: _) _ _
       refine Hid.out ?_)
    | fail)
  show wpList _ _ _ _ _ _
  refine wpList_mkW rfl (.tmp 19) (.tmp 19) rfl N rfl rfl (by have := H1.out.2.2.1; omega) ?_
  intro W4 r1 r2
  obtain ⟨ga, hga⟩ : ∃ g, W3.heap.size = g := ⟨_, rfl⟩
  have H4 : Hid (Below W3.heap.size W3 W4 ∧ Blk W4 ga 95 (wsI (Cf0 N).l) ∧ Blk W4 d3 80 (shc (.slice va N vc) (.slice la N lc) (.slice fa N fc)) ∧ W3.heap.size = ga) := ⟨r2, by rw [← hga]; exact r1, H3.out.2.1.below r2 H3.out.2.2.2, hga⟩
  rw [hga]
  clear r1 r2 hga c1
  go_wp2_with (first
    | (with_reducible change wpList _ _ _ ({ dst := some 21, op := _, type := _, pos := _, after := _, guard := _ } :: _) _ _
       refine Hid.out ?_)
    | fail)
  show wpList _ _ _ _ _ _
  obtain ⟨W5, hW5⟩ : ∃ W, W4.alloc (.cells (wsI z8).toArray 95) = W := ⟨_, rfl⟩
  obtain ⟨d5, hd5⟩ : ∃ g, W4.heap.size = g := ⟨_, rfl⟩
  have H5 : Hid (Below W3.heap.size W3 W5 ∧ Blk W5 ga 95 (wsI (Cf0 N).l) ∧ Blk W5 d3 80 (shc (.slice va N vc) (.slice la N lc) (.slice fa N fc)) ∧ W3.heap.size = ga ∧ Blk W5 d5 95 (wsI (Cf0 N).s) ∧ ga < d5) := by
    have hb : Below W4.heap.size W4 W5 := by rw [← hW5]; exact below_al _ _
    refine ⟨H4.out.1.trans (hb.mono H4.out.1.size), H4.out.2.1.below hb H4.out.2.1.lt, H4.out.2.2.1.below hb H4.out.2.2.1.lt, H4.out.2.2.2, ?_, by rw [← hd5]; exact H4.out.2.1.lt⟩
    rw [← hW5, ← hd5]
    show Blk _ _ _ (wsI z8)
    simpa using Blk.new W4 (wsI z8).toArray 95
  rw [hW5, hd5]
  clear hW5 hd5 hz5 H4
  refine wpList_load_want rfl 80 (.tmp 3) rfl d3 0 rfl (shc (.slice va N vc) (.slice la N lc) (.slice fa N fc)) _ H5.out.2.2.1.range0 Try.underlying80 rfl (info80 _ _ _) ?_
  obtain ⟨R, hR⟩ : ∃ R, Gr.ordr (flv G vs) (List.range N) = R := ⟨_, rfl⟩
  have hln : ∀ n < N, ∀ k ∈ flv G vs n, k < N := fun n _ k hk => by rw [← H1.out.2.2.2]; exact fln_lt k hk
  have HA : Hid (∀ n < N, ∀ k ∈ flv G vs n, (fun n => F (vs.getD n vTop)) k < (fun n => F (vs.getD n vTop)) n) := by
    have h1 := acy_flv HG.out.2 H1.out.2.1.2.1
    rw [H1.out.2.2.2] at h1
    exact h1
  have HR : Hid (G.conf vs = (R.foldl (cfStep (flv G vs) (G.alive vs)) (Cf0 N)).pairs ∧ R.length = N ∧ (∀ k ∈ R, k < N) ∧ ∀ n < N, ∀ k ∈ flv G vs n, k < N) := by
    have h2 := Gr.ordr_told (from_N hln) (stays_N _ _) _ (rise_N HA.out) List.nodup_range
    rw [hR] at h2
    refine ⟨by unfold Gm.conf confR; rw [H1.out.2.2.2, hR]; rfl, by rw [h2.2.1, List.length_range], fun k hk => List.mem_range.1 ((h2.2.2 k).1 hk), hln⟩
  go_wp2_with fail
  have HO := hid_of (order_is W5 G va la fa vc lc fc N vs (H3.out.2.2.1.below H5.out.1) H1.out.2.2.1 HG.out.1.frs_len _ HA.out R hR)
  refine HO.out.mono ?_
  rintro e Y ⟨ra, rc, rfl, HC, HBY⟩
  have H6 : Hid (Below W3.heap.size W3 Y ∧ Blk Y ga 95 (wsI (Cf0 N).l) ∧ Blk Y d5 95 (wsI (Cf0 N).s) ∧ CR Y 3 ra N (ivs R)) := ⟨H5.out.1.trans (HBY.out.mono H5.out.1.size), H5.out.2.1.below HBY.out H5.out.2.1.lt, H5.out.2.2.2.2.1.below HBY.out H5.out.2.2.2.2.1.lt, HC.out⟩
  have HGA : Hid (W3.heap.size = ga ∧ ga < d5) := ⟨H5.out.2.2.2.1, H5.out.2.2.2.2.2⟩
  clear HC HBY HO H5 HA hR hln
  go_wp2
  go_loopw [24, 6, 7] (fun u pv bv wr => ∃ (i : Nat) (c : Cf), u = iv (i : Int) ∧ pv = iv c.pairs ∧ bv = iv c.before ∧ Hid (i ≤ N ∧ (R.take i).foldl (cfStep (flv G vs) (G.alive vs)) (Cf0 N) = c) ∧ Hid (Below W3.heap.size W3 wr ∧ Blk wr ga 95 (wsI c.l) ∧ Blk wr d5 95 (wsI c.s) ∧ CR wr 3 ra N (ivs R))) (fun u _ _ _ => N - (intOf u).toNat)
  case atStart => exact ⟨0, Cf0 N, rfl, rfl, rfl, ⟨Nat.zero_le _, rfl⟩, H6.out⟩
  case round =>
    obtain ⟨X, hX⟩ : ∃ X, X = wr := ⟨_, rfl⟩
    subst hX
    obtain ⟨i, c, rfl, rfl, rfl, HIN, HI⟩ := hrel
    clear H6
    by_cases hi : i < N
    · obtain ⟨n, hn⟩ : ∃ n, R[i]? = some n := ⟨_, List.getElem?_eq_getElem (by rw [HR.out.2.1]; exact hi)⟩
      have hnN : n < N := HR.out.2.2.1 n (List.mem_of_getElem? hn)
      obtain ⟨y, hy⟩ : ∃ y, vs[n]? = some y := ⟨_, List.getElem?_eq_getElem (by rw [H1.out.2.2.2]; exact hnN)⟩
      have hyk : y ∈ G.keys := H1.out.2.1.2.1.1.mem_iff.1 (List.mem_of_getElem? hy)
      obtain ⟨l, hl⟩ := Option.isSome_iff_exists.1 (get_some.trans (decide_eq_true hyk))
      have hl1 := get_mem hl
      have hyn : vs.getD n vTop = y := by rw [List.getD_eq_getElem?_getD, hy]; rfl
      have hfl : flv G vs n = fln vs (G.frs y) := by unfold flv; rw [hyn]
      have HX : Hid (i < N ∧ R[i]? = some n ∧ n < N ∧ l ∈ G.ls ∧ G.alive vs n = decide (l.p.kills = []) ∧ (G.ptrs vs)[n]? = some (.pointer (some ⟨l.blk, 0, none⟩))) := ⟨hi, hn, hnN, hl1.1, by unfold Gm.alive; rw [hyn, hl], by unfold Gm.ptrs; rw [List.getElem?_map, hy]; simp [hl, ptrOf]⟩
      have hcl := cfs_len (flv G vs) (G.alive vs) (R.take i) (Cf0 N)
      rw [HIN.out.2] at hcl
      have HCL : Hid (c.l.length = N * 8 ∧ c.s.length = 8) := ⟨by rw [hcl.1]; simp [Cf0], by rw [hcl.2]; rfl⟩
      have HSX := hid_of (H3.out.2.2.1.below HI.out.1)
      obtain ⟨g3, o3, rfl, hg3, hel3⟩ := HI.out.2.2.2.2 (by omega)
      obtain ⟨Fs, hF1, hF2, hF3⟩ := HSX.out.2.2.2
      obtain ⟨f, hf⟩ : ∃ f, Fs[n]? = some f := ⟨_, List.getElem?_eq_getElem (by rw [hF2]; exact hnN)⟩
      obtain ⟨g8, o8, rfl, hg8, hel8⟩ := hF1.2 (by omega)
      obtain ⟨f9, fc9, e9, hc9⟩ := hF3 n y f hy hf
      rw [← hfl] at e9 hc9
      subst e9
      have c3 : X.cell? ⟨g3, o3 + i, none⟩ = some (iv (n : Int)) := hel3 i _ (by unfold ivs; rw [List.getElem?_map, hn]; rfl)
      have c8 : X.cell? ⟨g8, o8 + n, none⟩ = some (.slice f9 (flv G vs n).length fc9) := hel8 n _ hf
      have HBX : Hid (Blk X d3 80 (shc (.slice va N vc) (.slice la N lc) (.slice (some ⟨g8, o8, none⟩) N fc))) := H3.out.2.1.below HI.out.1 H3.out.2.2.2
      have c2 : X.cell? ⟨d3, 2, none⟩ = some (.slice (some ⟨g8, o8, none⟩) N fc) := HBX.out.cell rfl
      obtain ⟨ks, hks⟩ : ∃ ks, flv G vs n = ks := ⟨_, rfl⟩
      have HK : Hid (flv G vs n = ks ∧ (∀ k ∈ ks, k < N) ∧ ks.length ≤ 100000) := by
        refine ⟨hks, by rw [← hks]; exact HR.out.2.2.2 n hnN, ?_⟩
        rw [← hks, hfl]
        have h1 : (fln vs (G.frs y)).length ≤ (G.frs y).length := List.length_filterMap_le _ _
        have h2 := HG.out.1.frs_len y
        omega
      rw [hks] at c8 hc9
      have HC9 := hid_of hc9
      have q1 : (i : Int) < (N : Int) := by omega
      have q2 : (n : Int) < (N : Int) := by omega
      have q5 : (ks.length : Int) ≤ 100000 := by have := HK.out.2.2; omega
      clear hel3 hel8 hF1 hF2 hF3 hf hn hy hyk hl hl1 hi hcl hyn hfl hks hc9 hnN
      go_wp2_with fail
      clear c2 c3 c8
      go_loopw [34] (fun u wr => ∃ j : Nat, u = iv (j : Int) ∧ Hid (j ≤ ks.length ∧ Below W3.heap.size W3 wr ∧ Blk wr ga 95 (wsI (jn n (ks.take j) c.l)) ∧ Blk wr d5 95 (wsI c.s) ∧ CR wr 3 (some ⟨g3, o3, none⟩) N (ivs R) ∧ CR wr 3 f9 ks.length (ivs ks))) (fun u _ => ks.length - (intOf u).toNat)
      case atStart => exact ⟨0, rfl, Nat.zero_le _, HI.out.1, HI.out.2.1, HI.out.2.2.1, HI.out.2.2.2, HC9.out⟩
      case round =>
        obtain ⟨Z, hZ⟩ : ∃ Z, Z = wr := ⟨_, rfl⟩
        subst hZ
        obtain ⟨j, rfl, HJ⟩ := hrel
        clear HI HC9 HBX HSX
        by_cases hj : j < ks.length
        · obtain ⟨k, hk⟩ : ∃ k, ks[j]? = some k := ⟨_, List.getElem?_eq_getElem hj⟩
          have hkN : k < N := HK.out.2.1 k (List.mem_of_getElem? hk)
          have HZ : Hid (j < ks.length ∧ ks[j]? = some k ∧ k < N) := ⟨hj, hk, hkN⟩
          obtain ⟨g9, o9, rfl, hg9, hel9⟩ := HJ.out.2.2.2.2.2.2 (by omega)
          have c9 : Z.cell? ⟨g9, o9 + j, none⟩ = some (iv (k : Int)) := hel9 j _ (by unfold ivs; rw [List.getElem?_map, hk]; rfl)
          have q3 : (k : Int) < (N : Int) := by omega
          have q4 : (j : Int) < (ks.length : Int) := by omega
          clear hel9 hk hkN hj
          go_wp2_with fail
          have HL : Hid ((jn n (ks.take j) c.l).length = N * 8 ∧ k < N ∧ n < N) := ⟨by rw [jn_len]; exact HCL.out.1, HZ.out.2.2, HX.out.2.2.1⟩
          refine cf13 (g := ga) (N := N) (n := n) (k := k) (l := jn n (ks.take j) c.l) HJ.out.2.2.1 HL q2 HX.out.2.2.1 q3 HZ.out.2.2 ?_
          intro V rv hk hx
          have hga := HGA.out
          have H7 : Hid (Below W3.heap.size W3 V ∧ Blk V ga 95 (wsI (orW (n * 8) (((jn n (ks.take j) c.l).drop (k * 8)).take 8) 8 (jn n (ks.take j) c.l))) ∧ Blk V d5 95 (wsI c.s) ∧ CR V 3 (some ⟨g3, o3, none⟩) N (ivs R) ∧ CR V 3 (some ⟨g9, o9, none⟩) ks.length (ivs ks)) := by
            have hne : ∀ g, (∃ C f, Z.heap[g]? = some (.cells C 3 f)) → ¬ g = ga := fun g ⟨C, f, h1⟩ e => by
              subst e
              have h2 := HJ.out.2.2.1
              unfold Blk at h2
              rw [h1] at h2
              cases h2
            refine ⟨HJ.out.2.1.trans (hk.toBelow HJ.out.2.1.size (fun k hk => by have := hga.1; omega)), hx, hk.blk HJ.out.2.2.2.1 (by have := hga.2; omega), HJ.out.2.2.2.2.1.same fun g off _ h1 => hk.block g ?_ (hne g h1), HJ.out.2.2.2.2.2.same fun g off _ h1 => hk.block g ?_ (hne g h1)⟩
            · obtain ⟨C, f, h2⟩ := h1; exact (Array.getElem?_eq_some_iff.1 h2).1
            · obtain ⟨C, f, h2⟩ := h1; exact (Array.getElem?_eq_some_iff.1 h2).1
          clear hk hx c9 hga
          go_wp2_with fail
          refine (put_is V ga (n * 8) k _ H7.out.2.1 (by rw [orW_len, jn_len, HCL.out.1]; have := HX.out.2.2.1; omega) (by have := HZ.out.2.2; have := H1.out.2.2.1; omega)).mono ?_
          rintro e V2 ⟨⟨rv2, rfl⟩, hk, hx⟩
          have hga := HGA.out
          have H8 : Hid (j + 1 ≤ ks.length ∧ Below W3.heap.size W3 V2 ∧ Blk V2 ga 95 (wsI (jn n (ks.take (j + 1)) c.l)) ∧ Blk V2 d5 95 (wsI c.s) ∧ CR V2 3 (some ⟨g3, o3, none⟩) N (ivs R) ∧ CR V2 3 (some ⟨g9, o9, none⟩) ks.length (ivs ks)) := by
            have hne : ∀ g, (∃ C f, V.heap[g]? = some (.cells C 3 f)) → ¬ g = ga := fun g ⟨C, f, h1⟩ e => by
              subst e
              have h2 := H7.out.2.1
              unfold Blk at h2
              rw [h1] at h2
              cases h2
            refine ⟨HZ.out.1, H7.out.1.trans (hk.toBelow H7.out.1.size (fun k hk => by have := hga.1; omega)), by rw [jn_take HZ.out.2.1]; exact hx, hk.blk H7.out.2.2.1 (by have := hga.2; omega), H7.out.2.2.2.1.same fun g off _ h1 => hk.block g ?_ (hne g h1), H7.out.2.2.2.2.same fun g off _ h1 => hk.block g ?_ (hne g h1)⟩
            · obtain ⟨C, f, h2⟩ := h1; exact (Array.getElem?_eq_some_iff.1 h2).1
            · obtain ⟨C, f, h2⟩ := h1; exact (Array.getElem?_eq_some_iff.1 h2).1
          clear hk hx hga H7 HJ
          go_wp2
          refine ⟨⟨j + 1, by simp, H8.out⟩, ?_⟩
          have := HZ.out.1; simp [intOf]; omega
        · have q4 : ¬ (j : Int) < (ks.length : Int) := by omega
          obtain rfl : j = ks.length := by have := HJ.out.1; omega
          obtain ⟨lc', hlc⟩ : ∃ l, jn n ks c.l = l := ⟨_, rfl⟩
          have HM : Hid (Below W3.heap.size W3 Z ∧ Blk Z ga 95 (wsI lc') ∧ Blk Z d5 95 (wsI c.s) ∧ CR Z 3 (some ⟨g3, o3, none⟩) N (ivs R) ∧ jn n (flv G vs n) c.l = lc' ∧ lc'.length = N * 8) := by
            have h1 := HJ.out.2.2.1
            rw [List.take_of_length_le (Nat.le_refl _), hlc] at h1
            refine ⟨HJ.out.2.1, h1, HJ.out.2.2.2.1, HJ.out.2.2.2.2.1, by rw [HK.out.1]; exact hlc, by rw [← hlc, jn_len]; exact HCL.out.1⟩
          clear HJ hj hlc
          obtain ⟨g7, o7, rfl, hg7, hel7⟩ := (H3.out.2.2.1.below HM.out.1).2.2.1.2 (by have := HX.out.1; omega)
          have c7 : Z.cell? ⟨g7, o7 + n, none⟩ = some (.pointer (some ⟨l.blk, 0, none⟩)) := hel7 n _ HX.out.2.2.2.2.2
          have c1 : Z.cell? ⟨d3, 1, none⟩ = some (.slice (some ⟨g7, o7, none⟩) N lc) := (H3.out.2.1.below HM.out.1 H3.out.2.2.2).cell rfl
          clear hel7 hg7
          go_wp2_with fail
          clear c1 c7
          have HGZ := hid_of (HG.out.1.below (below_tr H3.out.1 HM.out.1))
          refine (alive_is HGZ.out HX.out.2.2.2.1).mono ?_
          rintro e Z1 ⟨rfl, rfl⟩
          rw [← HX.out.2.2.2.2.1]
          cases hal : G.alive vs n with
          | false =>
            have HST : Hid (Below W3.heap.size W3 Z ∧ cfStep (flv G vs) (G.alive vs) c n = ⟨lc', c.s, c.pairs, c.before⟩) := ⟨HM.out.1, by rw [cf_neg _ _ _ _ hal, HM.out.2.2.2.2.1]⟩
            clear hal
            go_wp2
            refine ⟨⟨i + 1, cfStep (flv G vs) (G.alive vs) c n, by simp, by rw [HST.out.2], by rw [HST.out.2], ⟨HX.out.1, by rw [foldl_take _ _ _ _ _ HX.out.2.1, HIN.out.2]⟩, ?_⟩, ?_⟩
            · rw [HST.out.2]
              exact ⟨HM.out.1, HM.out.2.1, HM.out.2.2.1, HM.out.2.2.2.1⟩
            · have := HX.out.1; simp [intOf]; omega
          | true =>
            obtain ⟨B, hB⟩ : ∃ B, bothW ((lc'.drop (n * 8)).take 8) c.s 8 = B := ⟨_, rfl⟩
            have HST : Hid (cfStep (flv G vs) (G.alive vs) c n = ⟨lc', putW 0 n c.s, wrap64 (c.pairs + wrap64 (c.before - B)), wrap64 (c.before + 1)⟩) := by
              rw [cf_pos _ _ _ _ hal, HM.out.2.2.2.2.1, hB]
              rfl
            have HBB : Hid (bothW ((lc'.drop (n * 8)).take 8) c.s 8 = B) := hB
            clear hal hB
            go_wp2_with fail
            refine cf17 (g := ga) (d5 := d5) (N := N) (n := n) (l := lc') (s := c.s) ⟨HM.out.2.1.lt, HM.out.2.2.1.lt⟩ ⟨blk_words HM.out.2.1, HM.out.2.2.1.range0⟩ ⟨HM.out.2.2.2.2.2, HX.out.2.2.1, HCL.out.2⟩ HBB q2 HX.out.2.2.1 ?_
            intro V hb
            have H7 : Hid (Below W3.heap.size W3 V ∧ Blk V ga 95 (wsI lc') ∧ Blk V d5 95 (wsI c.s) ∧ CR V 3 (some ⟨g3, o3, none⟩) N (ivs R)) := ⟨HM.out.1.trans (hb.mono HM.out.1.size), HM.out.2.1.below hb HM.out.2.1.lt, HM.out.2.2.1.below hb HM.out.2.2.1.lt, HM.out.2.2.2.1.below hb⟩
            clear hb
            go_wp2_with fail
            refine (put_is V d5 0 n c.s H7.out.2.2.1 (by rw [HCL.out.2]; exact Nat.le_refl 8) (by have := HX.out.2.2.1; have := H1.out.2.2.1; omega)).mono ?_
            rintro e V2 ⟨⟨rv2, rfl⟩, hk, hx⟩
            have hga := HGA.out
            have H8 : Hid (Below W3.heap.size W3 V2 ∧ Blk V2 ga 95 (wsI lc') ∧ Blk V2 d5 95 (wsI (putW 0 n c.s)) ∧ CR V2 3 (some ⟨g3, o3, none⟩) N (ivs R)) := by
              refine ⟨H7.out.1.trans (hk.toBelow H7.out.1.size (fun k hk => by have := hga.1; have := hga.2; omega)), hk.blk H7.out.2.1 (by have := hga.2; omega), hx, H7.out.2.2.2.same fun g off _ h1 => hk.block g ?_ (fun e => ?_)⟩
              · obtain ⟨C, f, h2⟩ := h1; exact (Array.getElem?_eq_some_iff.1 h2).1
              · obtain ⟨C, f, h1⟩ := h1
                subst e
                have h2 := H7.out.2.2.1
                unfold Blk at h2
                rw [h1] at h2
                cases h2
            clear hk hx hga H7
            go_wp2
            refine ⟨⟨i + 1, _, by simp, ?_, ?_, ⟨HX.out.1, foldl_take _ _ _ _ _ HX.out.2.1⟩, ?_⟩, ?_⟩
            · rw [HIN.out.2, HST.out]
            · rw [HIN.out.2, HST.out]
            · rw [HIN.out.2, HST.out]
              exact H8.out
            · have := HX.out.1; simp [intOf]; omega
    · have q1 : ¬ (i : Int) < (N : Int) := by omega
      obtain rfl : i = N := by have := HIN.out.1; omega
      have HE : Hid (c.pairs = G.conf vs ∧ Below w.heap.size w X) := by
        refine ⟨?_, below_tr H3.out.1 HI.out.1⟩
        have h1 := HIN.out.2
        rw [List.take_of_length_le (by rw [HR.out.2.1]; exact Nat.le_refl _)] at h1
        rw [HR.out.1, h1]
      clear HI hi
      go_wp2
      go_ret
      exact ⟨vs, by rw [← HE.out.1]; rfl, H1.out.2.1.2.1, HE.out.2⟩
end Go.Proofs.Ytjcihaohpbmogaa.Oct
