/-
  Layer 11 (lines): Shown.
  Layer 11 (lines): Text; isAlive; counting ones.
  Layer 11 (lines): isAlive; ones.
-/
import Derived.Test.YtjcihaohpbmogaaQpAK
/- Layer 11 (lines): Shown. -/
namespace Go.Proofs.Ytjcihaohpbmogaa.Oct
open Go.RowKit
set_option maxRecDepth 100000
set_option linter.unusedSimpArgs false
set_option linter.unusedVariables false
set_option linter.unusedSectionVars false

/-- steps rise -/
def Gm.acy (G : Gm) (F : Vx → Nat) : Prop := ∀ l ∈ G.ls, ∀ u ∈ l.p.fr, u ∈ G.keys → F u < F l.p.v
def sxAt (G : Gm) (vs : List Vx) (n : Nat) : Sx := ⟨vs.getD n vTop, ((G.get (vs.getD n vTop)).map (·.p.t)).getD e0, ((G.get (vs.getD n vTop)).map (·.p.kills.length)).getD 0⟩
def Gm.shown (G : Gm) (vs : List Vx) : List Sx := (Gr.ordr (flv G vs) (List.range vs.length)).map (sxAt G vs)
theorem frs_mem {G : Gm} {v : Vx} {l : Ln} (h : G.get v = some l) : G.frs v = l.p.fr := by unfold Gm.frs; rw [h]
theorem acy_flv {G : Gm} {F : Vx → Nat} (h : G.acy F) {vs : List Vx} (hr : G.rise vs) : ∀ n < vs.length, ∀ k ∈ flv G vs n, (fun n => F (vs.getD n vTop)) k < (fun n => F (vs.getD n vTop)) n := by
  intro n hn k hk
  have hk2 := fln_lt k hk
  unfold flv fln at hk
  rw [List.mem_filterMap] at hk
  obtain ⟨u, hu, he⟩ := hk
  split at he
  · rename_i hm
    cases he
    have hg : vs.getD (vs.idxOf u) vTop = u := by
      rw [List.getD_eq_getElem?_getD, List.getElem?_eq_getElem (List.idxOf_lt_length_of_mem hm), List.getElem_idxOf]
      rfl
    have hx : vs.getD n vTop ∈ G.keys := by
      rw [List.getD_eq_getElem?_getD, List.getElem?_eq_getElem hn]
      exact hr.1.mem_iff.1 (List.getElem_mem hn)
    obtain ⟨l, hl⟩ := Option.isSome_iff_exists.1 (get_some.trans (decide_eq_true hx))
    have h1 := get_mem hl
    rw [frs_mem hl] at hu
    have h2 := h l h1.1 u hu (hr.1.mem_iff.1 hm)
    show F (vs.getD (vs.idxOf u) vTop) < F (vs.getD n vTop)
    rw [hg, ← h1.2]
    exact h2
  · cases he
theorem GAt.frs_len {w : World} {p : Nat} {G : Gm} (h : GAt w p G) (x : Vx) : (G.frs x).length ≤ 100000 := by
  unfold Gm.frs
  cases hg : G.get x with
  | none => simp
  | some l => exact (h.ok l (get_mem hg).1).len
theorem map_take_succ {α β : Type} (f : α → β) (l : List α) (i : Nat) (x : α) (h : l[i]? = some x) : (l.take i).map f ++ [f x] = (l.take (i + 1)).map f := by
  rw [List.take_add_one, h]
  simp
theorem OS.mono' {B : Nat} {w : World} {v : Value} {n m : Nat} {xs ys : List Sx} (h : OS B w v n xs) (e : n = m) (e2 : xs = ys) : OS B w v m ys := by subst e; subst e2; exact h
/-- the kills' number -/
theorem GAt.kills {w : World} {p : Nat} {G : Gm} (h : GAt w p G) {l : Ln} (hl : l ∈ G.ls) : ∀ V : World, (∀ k, l.kb = some k → V.heap[k]? = w.heap[k]?) → (Builtin.len_ #[84] 3 #[.map l.kb]).run Try.prog V = .ok (iv (l.p.kills.length : Int)) V := by
  intro V hV
  cases hk : l.kb with
  | none =>
    rw [(h.ok l hl).no hk]
    kernel_rfl
  | some k =>
    have h1 := (h.kl hl hk).same (hV k hk)
    have h2 := h1.len (t := 84) (E := 90) Try.underlying84 3
    rw [h2]
    simp [unitH]
set_option maxHeartbeats 8000000 in
theorem shown_isT {w : World} {p : Nat} {G : Gm} (h : GAt w p G) (F : Vx → Nat) (hF : G.acy F) : Calls Try.prog 17 #[.pointer (some ⟨p, 0, none⟩)] w fun e w' => ∃ a n c vs, e = .returned (.slice a n c) ∧ Hid (G.rise vs ∧ SsR w' a n (G.shown vs) ∧ ∀ g off, a = some ⟨g, off, none⟩ → w.heap.size ≤ g) ∧ Hid (Below w.heap.size w w') := by
  have HG : Hid (GAt w p G ∧ G.acy F) := ⟨h, hF⟩
  have hz := zero80
  clear h hF
  go_enter Try.func17, Try.ntmps17
  go_wp2_with fail
  refine (made_is HG.out.1).mono ?_
  rintro e w2 ⟨rfl, rfl⟩
  go_wp2_with fail
  refine (sheet_is HG.out.1).mono ?_
  rintro e W1 ⟨va, vc, la, lc, fa, fc, N, vs, rfl, HSG, HB⟩
  have H1 : Hid (Below w.heap.size w W1 ∧ ShR W1 G va la fa N vs ∧ N ≤ 512 ∧ vs.length = N) := by
    refine ⟨HB.out, HSG.out.1, ?_, HSG.out.1.1.1⟩
    have h1 := HSG.out.1.2.1.1.length_eq
    have h2 := HSG.out.1.1.1
    have h3 := HG.out.1.few
    simp [Gm.keys] at h1
    omega
  have q0 : (N : Int) ≤ 512 := by have := H1.out.2.2.1; omega
  clear HB HSG
  have i80 := info80 (.slice va N vc) (.slice la N lc) (.slice fa N fc)
  have o80 : ∀ v ∈ shc (.slice va N vc) (.slice la N lc) (.slice fa N fc), v.oneCell' = true := shc_one rfl rfl rfl
  go_wp2_with (first
    | (with_reducible change wpList _ _ _ ({ dst := none, op := Op.store 80 _ _, type := _, pos := _, after := _, guard := _ } :: _) _ _
       refine Hid.out ?_)
    | fail)
  show wpList _ _ _ _ _ _
  refine wpList_store_fresh rfl 80 (.tmp 3) (.tmp 12) rfl (shc (.slice none 0 0) (.slice none 0 0) (.slice none 0 0)) (shc (.slice va N vc) (.slice la N lc) (.slice fa N fc)) 80 rfl rfl rfl (info80 _ _ _) (shc_one rfl rfl rfl) ?_
  obtain ⟨W3, hW3⟩ : ∃ W, W1.alloc (.cells (shc (.slice va N vc) (.slice la N lc) (.slice fa N fc)).toArray 80) = W := ⟨_, rfl⟩
  obtain ⟨d3, hd3⟩ : ∃ g, W1.heap.size = g := ⟨_, rfl⟩
  have H3 : Hid (Below w.heap.size w W3 ∧ Blk W3 d3 80 (shc (.slice va N vc) (.slice la N lc) (.slice fa N fc)) ∧ ShR W3 G va la fa N vs ∧ d3 < W3.heap.size) := by
    have hb : Below W1.heap.size W1 W3 := by rw [← hW3]; exact below_al _ _
    have hk : Blk W3 d3 80 (shc (.slice va N vc) (.slice la N lc) (.slice fa N fc)) := by rw [← hW3, ← hd3]; exact Blk.new W1 _ _
    exact ⟨below_tr H1.out.1 hb, hk, H1.out.2.1.below hb, hk.lt⟩
  rw [hW3, hd3]
  clear hW3 hd3 hz i80 o80
  have c1 : W3.cell? ⟨d3, 1, none⟩ = some (.slice la N lc) := H3.out.2.1.cell rfl
  go_wp2_with (first
    | (with_reducible change wpList _ _ _ ({ dst := some 16, op := _, type := _, pos := _, after := _, guard := _ } :: _) _ _
       refine Hid.out ?_)
    | fail)
  show wpList _ _ _ _ _ _
  refine wpList_mkS rfl (.const (iv 0)) (.tmp 15) rfl W3.heap.size N rfl rfl (by have := H1.out.2.2.1; omega) (Nat.le_refl _) ?_
  intro W4 r1 r2
  obtain ⟨go, hgo⟩ : ∃ g, W3.heap.size = g := ⟨_, rfl⟩
  have H4 : Hid (Below W3.heap.size W3 W4 ∧ OS W3.heap.size W4 (.slice (some ⟨go, 0, none⟩) 0 N) 0 [] ∧ Blk W4 d3 80 (shc (.slice va N vc) (.slice la N lc) (.slice fa N fc))) := ⟨r2, by rw [hgo] at r1 ⊢; exact r1, H3.out.2.1.below r2 H3.out.2.2.2⟩
  rw [hgo]
  clear r1 r2 hgo c1
  go_wp2_with (first
    | (with_reducible change wpList _ _ _ ({ dst := some 17, op := _, type := _, pos := _, after := _, guard := _ } :: _) _ _
       refine wpList_load_want rfl 80 (.tmp 3) rfl d3 0 rfl (shc (.slice va N vc) (.slice la N lc) (.slice fa N fc)) _ H4.out.2.2.range0 Try.underlying80 rfl (info80 _ _ _) ?_)
    | fail)
  obtain ⟨R, hR⟩ : ∃ R, Gr.ordr (flv G vs) (List.range N) = R := ⟨_, rfl⟩
  have HA : Hid (∀ n < N, ∀ k ∈ flv G vs n, (fun n => F (vs.getD n vTop)) k < (fun n => F (vs.getD n vTop)) n) := by
    have h1 := acy_flv HG.out.2 H1.out.2.1.2.1
    rw [H1.out.2.2.2] at h1
    exact h1
  have HR : Hid (G.shown vs = R.map (sxAt G vs) ∧ R.length = N ∧ ∀ k ∈ R, k < N) := by
    have hln : ∀ n < N, ∀ k ∈ flv G vs n, k < N := fun n _ k hk => by rw [← H1.out.2.2.2]; exact fln_lt k hk
    have h2 := Gr.ordr_told (from_N hln) (stays_N _ _) _ (rise_N HA.out) List.nodup_range
    rw [hR] at h2
    refine ⟨by unfold Gm.shown; rw [H1.out.2.2.2, hR], by rw [h2.2.1, List.length_range], fun k hk => List.mem_range.1 ((h2.2.2 k).1 hk)⟩
  have HO := hid_of (order_is W4 G va la fa vc lc fc N vs (H3.out.2.2.1.below H4.out.1) H1.out.2.2.1 HG.out.1.frs_len _ HA.out R hR)
  refine HO.out.mono ?_
  rintro e Y ⟨ra, rc, rfl, HC, HBY⟩
  have H5 : Hid (Below W3.heap.size W3 Y ∧ OS W3.heap.size Y (.slice (some ⟨go, 0, none⟩) 0 N) 0 [] ∧ CR Y 3 ra N (ivs R)) := ⟨H4.out.1.trans (HBY.out.mono H4.out.1.size), H4.out.2.1.below HBY.out, HC.out⟩
  clear HC HBY HO H4 HA hR
  go_wp2
  go_loopw [20, 4] (fun u v wr => ∃ i : Nat, u = iv (i : Int) ∧ Hid (i ≤ N ∧ Below W3.heap.size W3 wr ∧ OS W3.heap.size wr v i ((R.take i).map (sxAt G vs)) ∧ CR wr 3 ra N (ivs R))) (fun u _ _ => N - (intOf u).toNat)
  case atStart => exact ⟨0, rfl, Nat.zero_le _, H5.out.1, H5.out.2.1, H5.out.2.2⟩
  case round =>
    obtain ⟨X, hX⟩ : ∃ X, X = wr := ⟨_, rfl⟩
    subst hX
    obtain ⟨i, rfl, HI⟩ := hrel
    clear H5
    by_cases hi : i < N
    · obtain ⟨n, hn⟩ : ∃ n, R[i]? = some n := ⟨_, List.getElem?_eq_getElem (by rw [HR.out.2.1]; exact hi)⟩
      have hnN : n < N := HR.out.2.2 n (List.mem_of_getElem? hn)
      obtain ⟨y, hy⟩ : ∃ y, vs[n]? = some y := ⟨_, List.getElem?_eq_getElem (by rw [H1.out.2.2.2]; exact hnN)⟩
      have hyk : y ∈ G.keys := H1.out.2.1.2.1.1.mem_iff.1 (List.mem_of_getElem? hy)
      obtain ⟨l, hl⟩ := Option.isSome_iff_exists.1 (get_some.trans (decide_eq_true hyk))
      have hl1 := get_mem hl
      have HX : Hid (i < N ∧ R[i]? = some n ∧ n < N ∧ vs[n]? = some y ∧ Vk y ∧ G.get y = some l ∧ l ∈ G.ls ∧ l.p.v = y) := ⟨hi, hn, hnN, hy, H1.out.2.1.1.2.1 y (List.mem_of_getElem? hy), hl, hl1.1, hl1.2⟩
      have HSX := hid_of (H3.out.2.2.1.below HI.out.2.1)
      obtain ⟨gb, off, rfl, hg, hel⟩ := H1.out.2.1.1.2.2 (by omega)
      obtain ⟨g3, o3, rfl, hg3, hel3⟩ := HI.out.2.2.2.2 (by omega)
      obtain ⟨g7, o7, rfl, hg7, hel7⟩ := HSX.out.2.2.1.2 (by omega)
      have c3 : X.cell? ⟨g3, o3 + i, none⟩ = some (iv (n : Int)) := hel3 i _ (by unfold ivs; rw [List.getElem?_map, hn]; rfl)
      have c7 : X.cell? ⟨g7, o7 + n, none⟩ = some (.pointer (some ⟨l.blk, 0, none⟩)) := hel7 n _ (by unfold Gm.ptrs; rw [List.getElem?_map, hy]; simp [hl, ptrOf])
      have HV := hid_of HSX.out.1
      obtain ⟨gb', off', e9, hg2, hel2⟩ := HV.out.2.2 (by omega)
      cases e9
      have HR9 : Hid (X.rangeAt gb (off + n * 33) y.cells) := hel2 n y hy
      have hbX := below_tr H3.out.1 HI.out.2.1
      have HGX := hid_of (HG.out.1.below hbX)
      have HBX : Hid (Blk X d3 80 (shc (.slice (some ⟨gb, off, none⟩) N vc) (.slice (some ⟨g7, o7, none⟩) N lc) (.slice fa N fc))) := H3.out.2.1.below HI.out.2.1 H3.out.2.2.2
      have c0 : X.cell? ⟨d3, 0, none⟩ = some (.slice (some ⟨gb, off, none⟩) N vc) := HBX.out.cell rfl
      have c1 : X.cell? ⟨d3, 1, none⟩ = some (.slice (some ⟨g7, o7, none⟩) N lc) := HBX.out.cell rfl
      have hlen : l.cells.length = 36 := by unfold Ln.cells; simp [Vx.len ((HG.out.1.ok l hl1.1).down.1)]
      have ct : X.cell? ⟨l.blk, 0, none⟩ = some (.string l.p.t) := (HGX.out.ln hl1.1).cell rfl
      have ck : X.cell? ⟨l.blk, 35, none⟩ = some (.map l.kb) := by
        refine (HGX.out.ln hl1.1).cell ?_
        unfold Ln.cells
        rw [List.getElem?_cons_succ, List.getElem?_cons_succ, List.getElem?_append_right (by rw [Vx.len ((HG.out.1.ok l hl1.1).down.1)]; exact Nat.le_refl 33), Vx.len ((HG.out.1.ok l hl1.1).down.1)]
        rfl
      have q1 : (i : Int) < (N : Int) := by omega
      have q2 : (n : Int) < (N : Int) := by omega
      have HLT : Hid (d3 < W3.heap.size ∧ gb < W3.heap.size ∧ l.blk < W3.heap.size ∧ (∀ k, l.kb = some k → k < W3.heap.size)) := by
        have h3 := HG.out.1.below H3.out.1
        refine ⟨H3.out.2.2.2, ?_, (h3.ln hl1.1).lt, fun k hk => (h3.kl hl1.1 hk).lt⟩
        obtain ⟨gb2, off2, e2, hg4, _⟩ := H3.out.2.2.1.1.2.2 (by omega)
        cases e2
        exact hg4
      have HK := hid_of (HGX.out.kills hl1.1)
      clear hel hel3 hel7 hel2 hbX hlen hg hg2 hg3 hg7 hn hy hyk hl hl1 hi
      go_wp2_with fail
      have hne : ∀ k, k < W3.heap.size → ¬ u4.ownBlock = some k := fun k hk e => by
        have := (HI.out.2.2.1.blk e).1
        omega
      have hsz := HI.out.2.1.size
      refine sh9 (B := W3.heap.size) (d3 := d3) (gb := gb) (off := off) (k := n) (kb := l.kb) (kn := l.p.kills.length) (on := i) (xs := (R.take i).map (sxAt G vs)) ⟨Nat.lt_of_lt_of_le HLT.out.1 hsz, hne _ HLT.out.1⟩ ⟨Nat.lt_of_lt_of_le HLT.out.2.1 hsz, hne _ HLT.out.2.1⟩ HR9 HX.out.2.2.2.2.1 ⟨Nat.lt_of_lt_of_le HLT.out.2.2.1 hsz, hne _ HLT.out.2.2.1⟩ c0 ct ck (fun V hV => HK.out V (fun k hk => hV.block k (Nat.lt_of_lt_of_le (HLT.out.2.2.2 k hk) hsz) (hne k (HLT.out.2.2.2 k hk)))) HI.out.2.2.1 (show i + 1 ≤ 1000000 by have := HX.out.1; have := H1.out.2.2.1; omega) hsz q2 HX.out.2.2.1 ?_
      rintro V r ov' ⟨hk, ho⟩
      have H9 : Hid (i + 1 ≤ N ∧ Below W3.heap.size W3 V ∧ OS W3.heap.size V ov' (i + 1) ((R.take (i + 1)).map (sxAt G vs)) ∧ CR V 3 (some ⟨g3, o3, none⟩) N (ivs R)) := by
        refine ⟨HX.out.1, ?_, ?_, ?_⟩
        · exact HI.out.2.1.trans (hk.toBelow HI.out.2.1.size (fun k hk => (HI.out.2.2.1.blk hk).1))
        · refine ho.mono' rfl ?_
          rw [← map_take_succ (sxAt G vs) R i n HX.out.2.1]
          congr 2
          unfold sxAt
          have e1 : vs.getD n vTop = y := by rw [List.getD_eq_getElem?_getD, HX.out.2.2.2.1]; rfl
          rw [e1, HX.out.2.2.2.2.2.1]
          rfl
        · refine HI.out.2.2.2.same fun g off _ ⟨C, f, h1⟩ => hk.block g (Array.getElem?_eq_some_iff.1 h1).1 (fun e => ?_)
          obtain ⟨_, C2, h2⟩ := HI.out.2.2.1.blk e
          rw [h1] at h2
          cases h2
      clear hk ho hne hsz c0 c1 c3 c7 ct ck
      go_wp2
      refine ⟨⟨i + 1, by simp, H9.out⟩, ?_⟩
      have := HX.out.1; simp [intOf]; omega
    · have q1 : ¬ (i : Int) < (N : Int) := by omega
      obtain rfl : i = N := by have := HI.out.1; omega
      obtain ⟨oa, oc, rfl, HSR, _, HTP⟩ := HI.out.2.2.1.read
      have HE : Hid (SsR X oa i (G.shown vs) ∧ Below w.heap.size w X ∧ ∀ g off, oa = some ⟨g, off, none⟩ → w.heap.size ≤ g) := by
        refine ⟨?_, below_tr H3.out.1 HI.out.2.1, fun g off e => ?_⟩
        · rw [HR.out.1]
          rw [List.take_of_length_le (by rw [HR.out.2.1]; exact Nat.le_refl _)] at HSR
          exact HSR
        · have := H3.out.1.size
          rcases HTP with h | ⟨g', h, hB⟩
          · rw [h] at e; cases e
          · rw [h] at e
            cases e
            omega
      clear HSR HTP HI hi
      go_wp2
      go_ret
      exact ⟨oa, i, ⟨oc, rfl⟩, ⟨vs, H1.out.2.1.2.1, HE.out.1, HE.out.2.2⟩, HE.out.2.1⟩
theorem shown_is {w : World} {p : Nat} {G : Gm} (h : GAt w p G) (F : Vx → Nat) (hF : G.acy F) : Calls Try.prog 17 #[.pointer (some ⟨p, 0, none⟩)] w fun e w' => ∃ a n c vs, e = .returned (.slice a n c) ∧ Hid (G.rise vs ∧ SsR w' a n (G.shown vs)) ∧ Hid (Below w.heap.size w w') := by
  refine (shown_isT h F hF).mono ?_
  rintro e w' ⟨a, n, c, vs, rfl, h1, h2⟩
  exact ⟨a, n, c, vs, rfl, ⟨h1.out.1, h1.out.2.1⟩, h2⟩
end Go.Proofs.Ytjcihaohpbmogaa.Oct

/- Layer 11 (lines): Text; isAlive; counting ones. -/
namespace Go.Proofs.Ytjcihaohpbmogaa.Oct
open Go.RowKit
set_option maxRecDepth 100000
set_option linter.unusedSimpArgs false
set_option linter.unusedVariables false
set_option linter.unusedSectionVars false

theorem one36 : One 36 9 16 := ⟨Try.underlying36, inf_of (by kernel_rfl), by omega⟩
theorem bs9 (s : BA) (W : World) : (Instr.buildSlice 36 1 #[(0, .string s)]).run Try.prog W = .ok (.slice (some ⟨W.heap.size, 0, none⟩) 1 1) (W.alloc (.cells [Value.string s].toArray 9)) := by kernel_rfl
theorem zval50 : ∃ Z : List Value, (∀ W, (zeroValue 50).run Try.prog W = .ok (.agg Z.toArray) W) ∧ Hid (Z.length = 35) := ⟨Sx.cells ⟨vTop, e0, 0⟩, fun W => by kernel_rfl, by rfl⟩
theorem Sx.text {x : Sx} (h : Sk x) : x.cells[33]? = some (.string x.t) := by
  unfold Sx.cells
  rw [List.getElem?_append_right (by rw [Vx.len h.1]; exact Nat.le_refl 33), Vx.len h.1]
  rfl
theorem Sx.kn {x : Sx} (h : Sk x) : x.cells[34]? = some (iv (x.k : Int)) := by
  unfold Sx.cells
  rw [List.getElem?_append_right (by rw [Vx.len h.1]; omega), Vx.len h.1]
  rfl
/-- the living lines' texts -/
def txs (l : List Sx) : List BA := (l.filter fun x => x.k == 0).map (·.t)
def strs (l : List BA) : List Value := l.map .string
theorem txs_take {l : List Sx} {i : Nat} {x : Sx} (h : l[i]? = some x) : txs (l.take (i + 1)) = txs (l.take i) ++ (if x.k = 0 then [x.t] else []) := by
  unfold txs
  rw [List.take_add_one, h, List.filter_append, List.map_append]
  congr 1
  by_cases hk : x.k = 0 <;> simp [hk]
theorem txs_len (l : List Sx) : (txs l).length ≤ l.length := by unfold txs; rw [List.length_map]; exact List.length_filter_le _ _
theorem ordr_le (fl : Nat → List Nat) (vs : List Nat) : (Gr.ordr fl vs).length ≤ vs.length := by
  unfold Gr.ordr
  have h : ∀ (k : Nat) (out : List Nat), (Gr.run fl vs k out).length ≤ out.length + k := by
    intro k
    induction k with
    | zero => intro out; unfold Gr.run; simp
    | succ k ih =>
      intro out
      unfold Gr.run
      cases Gr.nxt fl vs out with
      | none => simp
      | some n => have := ih (out ++ [n]); simp at this ⊢; omega
  have := h vs.length []
  simpa using this
set_option maxHeartbeats 8000000 in
theorem text_is {w : World} {p : Nat} {G : Gm} (h : GAt w p G) (F : Vx → Nat) (hF : G.acy F) : Calls Try.prog 24 #[.pointer (some ⟨p, 0, none⟩)] w fun e w' => ∃ a n c vs, e = .returned (.slice a n c) ∧ Hid (G.rise vs ∧ CR w' 9 a n (strs (txs (G.shown vs)))) ∧ Hid (Below w.heap.size w w') := by
  have HG : Hid (GAt w p G ∧ G.acy F) := ⟨h, hF⟩
  obtain ⟨Z, hZ, HZ⟩ := zval50
  clear h hF
  go_enter Try.func24, Try.ntmps24
  go_wp2_with fail
  refine (shown_is HG.out.1 F HG.out.2).mono ?_
  rintro e W1 ⟨a, n, c, vs, rfl, HS, HB⟩
  have H1 : Hid (Below w.heap.size w W1 ∧ G.rise vs ∧ SsR W1 a n (G.shown vs) ∧ n ≤ 512) := by
    refine ⟨HB.out, HS.out.1, HS.out.2, ?_⟩
    have h1 := HS.out.2.1
    have h2 := HS.out.1.1.length_eq
    have h3 := HG.out.1.few
    have h4 := ordr_le (flv G vs) (List.range vs.length)
    unfold Gm.shown at h1
    rw [List.length_map] at h1
    rw [List.length_range] at h4
    simp [Gm.keys] at h2
    omega
  have q0 : (n : Int) ≤ 512 := by have := H1.out.2.2.2; omega
  obtain ⟨L, hL⟩ : ∃ L, G.shown vs = L := ⟨_, rfl⟩
  have HL : Hid (G.shown vs = L) := hL
  rw [hL] at H1
  clear hL HB HS
  go_wp2
  go_loopw [9, 3] (fun u v wr => ∃ i : Nat, u = iv (i : Int) ∧ Hid (i ≤ n ∧ Below W1.heap.size W1 wr ∧ OC W1.heap.size wr 9 v (txs (L.take i)).length (strs (txs (L.take i))))) (fun u _ _ => n - (intOf u).toNat)
  case atStart => exact ⟨0, rfl, Nat.zero_le _, Below.refl _ _, OC.nil _ _ _⟩
  case round =>
    obtain ⟨X, hX⟩ : ∃ X, X = wr := ⟨_, rfl⟩
    subst hX
    obtain ⟨i, rfl, HI⟩ := hrel
    by_cases hi : i < n
    · obtain ⟨x, hx⟩ : ∃ x, L[i]? = some x := ⟨_, List.getElem?_eq_getElem (by rw [H1.out.2.2.1.1]; exact hi)⟩
      have HX : Hid (i < n ∧ L[i]? = some x ∧ Sk x) := ⟨hi, hx, H1.out.2.2.1.2.1 x (List.mem_of_getElem? hx)⟩
      obtain ⟨gb, off, rfl, hg, hel⟩ := H1.out.2.2.1.2.2 (by omega)
      have HR : Hid (X.rangeAt gb (off + i * 35) x.cells) := rangeAt_same (hel i x hx) (HI.out.2.1.block gb hg)
      have q1 : (i : Int) < (n : Int) := by omega
      clear hel hx hi hg
      go_wp2_with (first
        | (with_reducible change wpList _ _ _ ({ dst := some 12, op := _, type := _, pos := _, after := _, guard := _ } :: _) _ _
           refine wpList_load_want rfl 50 (.tmp 11) rfl gb (off + i * 35) rfl x.cells _ HR.out Try.underlying50 rfl (info50 HX.out.2.2) ?_)
        | (with_reducible change wpList _ _ _ ({ dst := none, op := Op.store 50 _ _, type := _, pos := _, after := _, guard := _ } :: _) _ _
           refine Hid.out ?_)
        | fail)
      show wpList _ _ _ _ _ _
      refine wpList_store_fresh rfl 50 (.tmp 5) (.tmp 12) rfl Z x.cells 50 rfl rfl (by rw [Sx.len HX.out.2.2, HZ.out]) (info50 HX.out.2.2) (Sx.one x) ?_
      obtain ⟨X2, hX2⟩ : ∃ W, X.alloc (.cells x.cells.toArray 50) = W := ⟨_, rfl⟩
      obtain ⟨d5, hd5⟩ : ∃ g, X.heap.size = g := ⟨_, rfl⟩
      have H2 : Hid (Below W1.heap.size W1 X2 ∧ OC W1.heap.size X2 9 u3 (txs (L.take i)).length (strs (txs (L.take i))) ∧ Blk X2 d5 50 x.cells) := by
        have hb : Below X.heap.size X X2 := by rw [← hX2]; exact below_al _ _
        exact ⟨HI.out.2.1.trans (hb.mono HI.out.2.1.size), HI.out.2.2.below hb, by rw [← hX2, ← hd5]; exact Blk.new _ _ _⟩
      rw [hX2, hd5]
      clear hX2 hd5 HR HI
      have c34 : X2.cell? ⟨d5, 34, none⟩ = some (iv (x.k : Int)) := H2.out.2.2.cell (Sx.kn HX.out.2.2)
      have c33 : X2.cell? ⟨d5, 33, none⟩ = some (.string x.t) := H2.out.2.2.cell (Sx.text HX.out.2.2)
      by_cases hk : x.k = 0
      · have q2 : (x.k : Int) = 0 := by omega
        rw [q2] at c34
        go_wp2_with (first
          | (with_reducible change wpList _ _ _ ({ dst := some 19, op := _, type := _, pos := _, after := _, guard := _ } :: _) _ _
             refine Hid.out ?_)
          | fail)
        show wpList _ _ _ _ _ _
        obtain ⟨X3, hX3⟩ : ∃ W, X2.alloc (.cells [Value.string x.t].toArray 9) = W := ⟨_, rfl⟩
        obtain ⟨z3, hz3⟩ : ∃ g, X2.heap.size = g := ⟨_, rfl⟩
        have H3 : Hid (Below W1.heap.size W1 X3 ∧ OC W1.heap.size X3 9 u3 (txs (L.take i)).length (strs (txs (L.take i))) ∧ Blk X3 z3 9 [.string x.t]) := by
          have hb : Below X2.heap.size X2 X3 := by rw [← hX3]; exact below_al _ _
          exact ⟨H2.out.1.trans (hb.mono H2.out.1.size), H2.out.2.1.below hb, by rw [← hX3, ← hz3]; exact Blk.new _ _ _⟩
        refine wpList_bs rfl 36 (.tmp 18) rfl (.string x.t) (.slice (some ⟨X2.heap.size, 0, none⟩) 1 1) rfl (X2.alloc (.cells [Value.string x.t].toArray 9)) (bs9 _ _) ?_
        rw [hX3, hz3]
        clear hX3 hz3 H2 c33 c34
        go_wp2_with (first
          | (with_reducible change wpList _ _ _ ({ dst := some 20, op := _, type := _, pos := _, after := _, guard := _ } :: _) _ _
             refine Hid.out ?_)
          | fail)
        show wpList _ _ _ _ _ _
        refine wpList_appc rfl one36 (.tmp 16) (.tmp 19) rfl W1.heap.size u3 _ _ z3 (.string x.t) rfl rfl H3.out.2.1 H3.out.2.2 rfl (by have h0 := txs_len (L.take i); rw [List.length_take] at h0; have := H1.out.2.2.2; have := HX.out.1; omega) H3.out.1.size ?_
        intro v' X4 r1 r2 r3
        have H4 : Hid (Below W1.heap.size W1 X4 ∧ OC W1.heap.size X4 9 v' (txs (L.take (i + 1))).length (strs (txs (L.take (i + 1))))) := by
          refine ⟨H3.out.1.grown r2 H3.out.1.size (fun k hk => (r3 k hk).1), ?_⟩
          rw [txs_take HX.out.2.1, if_pos hk, List.length_append]
          unfold strs
          rw [List.map_append]
          exact r1
        clear r1 r2 r3 H3
        go_wp2
        refine ⟨⟨i + 1, by simp, HX.out.1, H4.out.1, H4.out.2⟩, ?_⟩
        have := HX.out.1; simp [intOf]; omega
      · have q2 : ¬ (x.k : Int) = 0 := by omega
        have H4 : Hid (Below W1.heap.size W1 X2 ∧ OC W1.heap.size X2 9 u3 (txs (L.take (i + 1))).length (strs (txs (L.take (i + 1))))) := by
          refine ⟨H2.out.1, ?_⟩
          rw [txs_take HX.out.2.1, if_neg hk, List.append_nil]
          exact H2.out.2.1
        go_wp2
        refine ⟨⟨i + 1, by simp, HX.out.1, H4.out.1, H4.out.2⟩, ?_⟩
        have := HX.out.1; simp [intOf]; omega
    · have q1 : ¬ (i : Int) < (n : Int) := by omega
      obtain rfl : i = n := by have := HI.out.1; omega
      have HE : Hid (Below w.heap.size w X ∧ OC W1.heap.size X 9 u3 (txs L).length (strs (txs L))) := by
        have h1 := HI.out.2.2
        rw [List.take_of_length_le (by rw [H1.out.2.2.1.1]; exact Nat.le_refl _)] at h1
        exact ⟨below_tr H1.out.1 HI.out.2.1, h1⟩
      obtain ⟨oa, oc, rfl, HC, _⟩ := HE.out.2.read
      have HCC := hid_of HC
      clear HC HI
      go_wp2
      go_ret
      exact ⟨oa, _, ⟨oc, rfl⟩, ⟨vs, H1.out.2.1, by rw [HL.out]; exact HCC.out⟩, HE.out.1⟩
end Go.Proofs.Ytjcihaohpbmogaa.Oct

/- Layer 11 (lines): isAlive; ones. -/
namespace Go.Proofs.Ytjcihaohpbmogaa.Oct
open Go.RowKit
set_option maxRecDepth 100000
set_option linter.unusedSimpArgs false
set_option linter.unusedVariables false
set_option linter.unusedSectionVars false

theorem alive_is {w : World} {p : Nat} {G : Gm} (h : GAt w p G) {l : Ln} (hl : l ∈ G.ls) : Calls Try.prog 52 #[.pointer (some ⟨l.blk, 0, none⟩)] w fun e w' => e = .returned (.bool (decide (l.p.kills = []))) ∧ w = w' := by
  have hd := ((h.ok l hl).down).1
  have ck : w.cell? ⟨l.blk, 35, none⟩ = some (.map l.kb) := by
    refine (h.ln hl).cell ?_
    unfold Ln.cells
    rw [List.getElem?_cons_succ, List.getElem?_cons_succ, List.getElem?_append_right (by rw [Vx.len hd]; exact Nat.le_refl 33), Vx.len hd]
    rfl
  have hn := h.kills hl w (fun _ _ => rfl)
  generalize l.kb = kb at ck hn
  generalize l.blk = b at ck ⊢
  obtain ⟨B, hB⟩ : ∃ B, decide (l.p.kills = []) = B := ⟨_, rfl⟩
  rw [hB]
  obtain ⟨n, hk⟩ : ∃ n, l.p.kills.length = n := ⟨_, rfl⟩
  rw [hk] at hn
  have HB : Hid (decide (n = 0) = B) := by
    show decide (n = 0) = B
    rw [← hB, ← hk]
    simp [List.length_eq_zero_iff]
  clear hB hk h hl hd
  go_enter Try.func52, Try.ntmps52
  by_cases h0 : n = 0
  · have q1 : (n : Int) = 0 := by omega
    rw [q1] at hn
    obtain rfl : B = true := by rw [← HB.out]; simp [h0]
    go_wp2
    go_ret
    trivial
  · have q1 : ¬ (n : Int) = 0 := by omega
    obtain rfl : B = false := by rw [← HB.out]; simp [h0]
    go_wp2
    go_ret
    exact ⟨by simp [h0], rfl⟩
/-- OnesCount64, as it reckons -/
def o1 (x : Int) : Int := IntKind.u64.wrap (bits .and .u64 (x / 2) 6148914691236517205 + bits .and .u64 x 6148914691236517205)
def o2 (x : Int) : Int := IntKind.u64.wrap (bits .and .u64 (x / 4) 3689348814741910323 + bits .and .u64 x 3689348814741910323)
def o3 (x : Int) : Int := bits .and .u64 (IntKind.u64.wrap (x / 16 + x)) 1085102592571150095
def oh (x : Int) (k : Int) : Int := IntKind.u64.wrap (x + x / k)
def ones (x : Int) : Int := bits .and .i64 (wrap64 (oh (oh (oh (o3 (o2 (o1 x))) 256) 65536) 4294967296)) 127
theorem ones_is (w : World) (x r : Int) (hr : ones x = r) : Calls Try.prog 73 #[.int .u64 x] w fun e w' => e = .returned (iv r) ∧ w = w' := by
  subst hr
  go_enter Try.func73, Try.ntmps73
  go_wp2
  go_ret
  refine ⟨?_, rfl⟩
  unfold ones oh o3 o2 o1
  rfl
end Go.Proofs.Ytjcihaohpbmogaa.Oct
