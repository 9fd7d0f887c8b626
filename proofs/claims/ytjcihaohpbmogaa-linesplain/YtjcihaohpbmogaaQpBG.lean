/-
  Layer 11 (lines): order: all lines' numbers in order.
-/
import Derived.Test.YtjcihaohpbmogaaQpAJ
/- Layer 11 (lines): order: all lines' numbers in order. -/
namespace Go.Proofs.Ytjcihaohpbmogaa.Oct
open Go.RowKit
set_option maxRecDepth 100000
set_option linter.unusedSimpArgs false
set_option linter.unusedVariables false
set_option linter.unusedSectionVars false

theorem lastOf_app (out : List Nat) (n : Nat) : lastOf (out ++ [n]) = (n : Int) := by
  unfold lastOf
  rw [List.getLast?_append]
  rfl
def toldL (N : Nat) (out : List Nat) : List Bool := (List.range N).map fun k => decide (k ∈ out)
theorem toldL_get {N : Nat} {out : List Nat} (h : ∀ k ∈ out, k < N) (k : Nat) : (toldL N out).getD k false = decide (k ∈ out) := by
  unfold toldL
  rw [List.getD_eq_getElem?_getD, List.getElem?_map]
  by_cases hk : k < N
  · rw [List.getElem?_range hk]; rfl
  · rw [List.getElem?_eq_none (by simpa using hk)]
    have : k ∉ out := fun e => hk (h k e)
    simp [this]
theorem toldL_set {N : Nat} {out : List Nat} {n : Nat} (hn : n < N) : (bvs (toldL N out)).set n (.bool true) = bvs (toldL N (out ++ [n])) := by
  apply List.ext_getElem?
  intro k
  unfold bvs toldL
  rw [List.getElem?_set]
  by_cases hk : k < N
  · simp only [List.getElem?_map, List.getElem?_range hk, Option.map_some]
    by_cases e : n = k
    · subst e
      simp [hn]
    · have e' : ¬ k = n := fun h => e h.symm
      simp [e, e']
  · have hk2 : (List.range N)[k]? = none := List.getElem?_eq_none (by simpa using hk)
    by_cases e : n = k
    · omega
    · rw [if_neg e]
      simp only [List.getElem?_map, hk2, Option.map_none]
theorem bvs_len (l : List Bool) : (bvs l).length = l.length := by simp [bvs]
theorem toldL_len (N : Nat) (out : List Nat) : (toldL N out).length = N := by simp [toldL]
theorem repl_told (N : Nat) : List.replicate N (Value.bool false) = bvs (toldL N []) := by
  apply List.ext_getElem?
  intro k
  unfold bvs toldL
  by_cases hk : k < N <;> simp [hk, List.getElem?_replicate]
theorem lft_nil (vs : List Nat) : Gr.lft vs [] = vs := by unfold Gr.lft; simp
theorem part_len (p : Nat → Bool) : ∀ l : List Nat, l.length = (l.filter p).length + (l.filter fun v => !p v).length
  | [] => rfl
  | x :: l => by
    have ih := part_len p l
    rw [List.filter_cons, List.filter_cons]
    cases h : p x <;> simp <;> omega
theorem lft_len {vs out : List Nat} (hv : vs.Nodup) (ho : out.Nodup) (hs : ∀ x ∈ out, x ∈ vs) : (Gr.lft vs out).length + out.length = vs.length := by
  have h1 : vs.length = (vs.filter fun v => decide (v ∈ out)).length + (vs.filter fun v => !decide (v ∈ out)).length := by
    exact part_len (fun v => decide (v ∈ out)) vs
  have h2 : (vs.filter fun v => decide (v ∈ out)).length = out.length := by
    have a1 := Gr.nodup_len (vs.filter fun v => decide (v ∈ out)) out (hv.filter _) (fun x hx => by simpa using (List.mem_filter.1 hx).2)
    have a2 := Gr.nodup_len out (vs.filter fun v => decide (v ∈ out)) ho (fun x hx => List.mem_filter.2 ⟨hs x hx, by simpa using hx⟩)
    omega
  have h3 : (vs.filter fun v => !decide (v ∈ out)) = Gr.lft vs out := by
    unfold Gr.lft
    exact List.filter_congr fun v _ => by simp
  rw [h3] at h1
  omega
/-- one more round -/
theorem run_next {fl : Nat → List Nat} {vs out : List Nat} {n k : Nat} (h : Gr.nxt fl vs out = some n) : Gr.run fl vs (k + 1) out = Gr.run fl vs k (out ++ [n]) := by
  conv => lhs; unfold Gr.run
  rw [h]
set_option maxHeartbeats 8000000 in
theorem order_is (w : World) (G : Gm) (va la fa : Option Addr) (vc lc fc N : Nat) (vs : List Vx) (hsh : ShR w G va la fa N vs) (hN : N ≤ 512) (hfr : ∀ x, (G.frs x).length ≤ 100000) (f : Nat → Nat) (hf : ∀ n < N, ∀ k ∈ flv G vs n, f k < f n) (R : List Nat) (hR : Gr.ordr (flv G vs) (List.range N) = R) :
    Calls Try.prog 42 #[.agg (shc (.slice va N vc) (.slice la N lc) (.slice fa N fc)).toArray] w fun e w' => ∃ a c, e = .returned (.slice a N c) ∧ Hid (CR w' 3 a N (ivs R)) ∧ Hid (Below w.heap.size w w') := by
  have hvl : vs.length = N := hsh.1.1
  have hlN : ∀ n < N, ∀ k ∈ flv G vs n, k < N := fun n _ k hk => by rw [← hvl]; exact fln_lt k hk
  obtain ⟨d1, hd1⟩ : ∃ d, w.heap.size = d := ⟨_, rfl⟩
  obtain ⟨W, hW⟩ : ∃ W, w.alloc (.cells (shc (.slice va N vc) (.slice la N lc) (.slice fa N fc)).toArray 80) = W := ⟨_, rfl⟩
  have hb : Below w.heap.size w W := by rw [← hW]; exact below_al _ _
  have hk : Blk W d1 80 (shc (.slice va N vc) (.slice la N lc) (.slice fa N fc)) := by rw [← hW, ← hd1]; exact Blk.new w _ _
  have HP : Hid (N ≤ 512 ∧ (∀ x, (G.frs x).length ≤ 100000) ∧ (∀ n < N, ∀ k ∈ flv G vs n, f k < f n) ∧ (∀ n < N, ∀ k ∈ flv G vs n, k < N)) := ⟨hN, hfr, hf, hlN⟩
  have HS : Hid (Below w.heap.size w W ∧ Blk W d1 80 (shc (.slice va N vc) (.slice la N lc) (.slice fa N fc)) ∧ ShR W G va la fa N vs ∧ d1 < W.heap.size) := ⟨hb, hk, hsh.below hb, hk.lt⟩
  have HR : Hid (Gr.ordr (flv G vs) (List.range N) = R) := hR
  clear hR
  have qN : (N : Int) ≤ 512 := by omega
  have c1 : W.cell? ⟨d1, 1, none⟩ = some (.slice la N lc) := hk.cell rfl
  have i80 := info80 (.slice va N vc) (.slice la N lc) (.slice fa N fc)
  have o80 : ∀ v ∈ shc (.slice va N vc) (.slice la N lc) (.slice fa N fc), v.oneCell' = true := shc_one rfl rfl rfl
  clear hb hk hvl hlN hsh hfr hf hN
  go_enter Try.func42, Try.ntmps42
  go_wp2_with (with_reducible change wpList _ _ _ ({ dst := some 12, op := _, type := _, pos := _, after := _, guard := _ } :: _) _ _; refine Hid.out ?_)
  show wpList _ _ _ _ _ _
  clear i80 o80 hW hd1 c1
  obtain ⟨gl, hgl⟩ : ∃ g, W.heap.size = g := ⟨_, rfl⟩
  refine wpList_mkfull rfl one82 (.tmp 11) (.tmp 11) rfl W.heap.size N (iv 0) (by kernel_rfl) rfl rfl rfl rfl (by have := HP.out.1; omega) (Nat.le_refl _) ?_
  intro W1 r1 r2
  rw [hgl] at r1
  rw [hgl]
  have H1 : Hid (OC gl W1 3 (.slice (some ⟨gl, 0, none⟩) N N) N (List.replicate N (iv 0)) ∧ Below W.heap.size W W1 ∧ W.heap.size = gl) := ⟨r1, r2, hgl⟩
  clear r1 r2 hgl
  go_wp2
  go_loopw [15] (fun u wr => ∃ (i : Nat) (cs : List Value), u = iv (i : Int) ∧ Hid (i ≤ N ∧ Below W.heap.size W wr ∧ OC gl wr 3 (.slice (some ⟨gl, 0, none⟩) N N) N cs ∧ cs.take i = ivs (List.range i))) (fun u _ => N - (intOf u).toNat)
  case atStart => exact ⟨0, _, rfl, Nat.zero_le _, H1.out.2.1, H1.out.1, rfl⟩
  case round =>
    obtain ⟨V, hV⟩ : ∃ V, V = wr := ⟨_, rfl⟩
    subst hV
    obtain ⟨i, cs, rfl, HI⟩ := hrel
    by_cases hi : i < N
    · have q1 : (i : Int) < (N : Int) := by omega
      have HIN : Hid (i < N) := hi
      clear hi
      go_wp2_with (first
        | (with_reducible change wpList _ _ _ ({ dst := none, op := Op.store 3 _ _, type := _, pos := _, after := _, guard := _ } :: _) _ _
           refine Hid.out ?_)
        | fail)
      show wpList _ _ _ _ _ _
      refine wpList_strow rfl 3 (.tmp 21) (.tmp 20) rfl (by kernel_rfl) (g := gl) (i := i) (u := iv (i : Int)) rfl rfl rfl rfl HI.out.2.2.1 HIN.out ?_
      intro V2 r1 r2
      have H2 : Hid (Below W.heap.size W V2 ∧ OC gl V2 3 (.slice (some ⟨gl, 0, none⟩) N N) N (cs.set i (iv (i : Int))) ∧ (cs.set i (iv (i : Int))).take (i + 1) = ivs (List.range (i + 1))) := by
        refine ⟨HI.out.2.1.grown r2 HI.out.2.1.size (fun j hj => by have e8 := Option.some.inj hj; have := H1.out.2.2; omega), r1, ?_⟩
        have hl : cs.length = N := HI.out.2.2.1.len
        have h3 := HI.out.2.2.2
        rw [List.take_add_one, List.take_set_of_le (Nat.le_refl _), h3, List.getElem?_set_self (by rw [hl]; exact HIN.out), List.range_succ]
        simp [ivs]
      clear r1 r2
      go_wp2
      exact ⟨⟨i + 1, _, by simp, HIN.out, H2.out⟩, by have := HIN.out; simp [intOf]; omega⟩
    · obtain rfl : N = i := by have := HI.out.1; omega
      have q1 : ¬ (N : Int) < (N : Int) := by omega
      have HL : Hid (Below W.heap.size W V ∧ OC gl V 3 (.slice (some ⟨gl, 0, none⟩) N N) N (ivs (List.range N)) ∧ Blk V d1 80 (shc (.slice va N vc) (.slice la N lc) (.slice fa N fc))) := by
        have h3 := HI.out.2.2.2
        rw [List.take_of_length_le (by rw [HI.out.2.2.1.len]; exact Nat.le_refl _)] at h3
        rw [← h3]
        exact ⟨HI.out.2.1, HI.out.2.2.1, HS.out.2.1.below HI.out.2.1 HS.out.2.2.2⟩
      have c1 : V.cell? ⟨d1, 1, none⟩ = some (.slice la N lc) := HL.out.2.2.cell rfl
      clear HI hi
      go_wp2_with (with_reducible change wpList _ _ _ ({ dst := some 26, op := _, type := _, pos := _, after := _, guard := _ } :: _) _ _; refine Hid.out ?_)
      show wpList _ _ _ _ _ _
      obtain ⟨gt, hgt⟩ : ∃ g, V.heap.size = g := ⟨_, rfl⟩
      refine wpList_mkfull rfl one119 (.tmp 25) (.tmp 25) rfl V.heap.size N (.bool false) (by kernel_rfl) rfl rfl rfl rfl (by have := HP.out.1; omega) (Nat.le_refl _) ?_
      intro V1 r1 r2
      rw [hgt] at r1
      rw [hgt]
      have H3 : Hid (Below W.heap.size W V1 ∧ OC gl V1 3 (.slice (some ⟨gl, 0, none⟩) N N) N (ivs (List.range N)) ∧ Blk V1 d1 80 (shc (.slice va N vc) (.slice la N lc) (.slice fa N fc)) ∧ OC gt V1 4 (.slice (some ⟨gt, 0, none⟩) N N) N (bvs (toldL N [])) ∧ gl < gt ∧ gt < V1.heap.size) := by
        have hb := r2
        obtain ⟨L, a1, _⟩ := HL.out.2.1.out
        obtain ⟨L2, a2, _⟩ := r1.out
        exact ⟨HL.out.1.trans (hb.mono HL.out.1.size), HL.out.2.1.below hb, HL.out.2.2.below hb HL.out.2.2.lt, by rw [← repl_told]; exact r1, by rw [← hgt]; exact a1.lt, a2.lt⟩
      have c2 : V1.cell? ⟨d1, 1, none⟩ = some (.slice la N lc) := H3.out.2.2.1.cell rfl
      clear r1 r2 hgt c1
      go_wp2_with (with_reducible change wpList _ _ _ ({ dst := some 30, op := _, type := _, pos := _, after := _, guard := _ } :: _) _ _; refine Hid.out ?_)
      show wpList _ _ _ _ _ _
      obtain ⟨go, hgo⟩ : ∃ g, V1.heap.size = g := ⟨_, rfl⟩
      refine wpList_mk0 rfl one82 (.const (iv 0)) (.tmp 29) rfl V1.heap.size N rfl rfl (by have := HP.out.1; omega) (Nat.le_refl _) ?_
      intro V2 r1 r2
      rw [hgo] at r1
      rw [hgo]
      have H4 : Hid (Below W.heap.size W V2 ∧ OC gl V2 3 (.slice (some ⟨gl, 0, none⟩) N N) N (ivs (List.range N)) ∧ Blk V2 d1 80 (shc (.slice va N vc) (.slice la N lc) (.slice fa N fc)) ∧ OC gt V2 4 (.slice (some ⟨gt, 0, none⟩) N N) N (bvs (toldL N [])) ∧ OC go V2 3 (.slice (some ⟨go, 0, none⟩) 0 N) 0 [] ∧ gl < gt ∧ gt < go ∧ W.heap.size = gl ∧ d1 < gl) := by
        have hb := r2
        exact ⟨H3.out.1.trans (hb.mono H3.out.1.size), H3.out.2.1.below hb, H3.out.2.2.1.below hb H3.out.2.2.1.lt, H3.out.2.2.2.1.below hb, r1, H3.out.2.2.2.2.1, by rw [← hgo]; exact H3.out.2.2.2.2.2, H1.out.2.2, by have := HS.out.2.2.2; have := H1.out.2.2; omega⟩
      clear r1 r2 hgo c2 H3
      go_wp2
      clear HL
      go_loopw [3, 6, 7] (fun u v x wr => ∃ out : List Nat, u = .slice (some ⟨gl, 0, none⟩) (Gr.lft (List.range N) out).length N ∧ x = iv (lastOf out) ∧ Hid (Gr.Told (stpN (flv G vs) N) (List.range N) out ∧ Gr.run (flv G vs) (List.range N) (N - out.length) out = R) ∧ Hid (Below W.heap.size W wr ∧ Blk wr d1 80 (shc (.slice va N vc) (.slice la N lc) (.slice fa N fc)) ∧ OC gl wr 3 (.slice (some ⟨gl, 0, none⟩) (Gr.lft (List.range N) out).length N) (Gr.lft (List.range N) out).length (ivs (Gr.lft (List.range N) out)) ∧ OC gt wr 4 (.slice (some ⟨gt, 0, none⟩) N N) N (bvs (toldL N out)) ∧ OC (gt + 1) wr 3 v out.length (ivs out))) (fun u _ _ _ => lenOf u)
      case atStart => exact ⟨[], by rw [lft_nil, List.length_range], rfl, ⟨Gr.Told.nil _ _, by rw [← HR.out]; unfold Gr.ordr; rw [List.length_range]; rfl⟩, H4.out.1, H4.out.2.2.1, by rw [lft_nil, List.length_range]; exact H4.out.2.1, H4.out.2.2.2.1, H4.out.2.2.2.2.1.lo H4.out.2.2.2.2.2.2.1⟩
      case round =>
        obtain ⟨X, hX⟩ : ∃ X, X = wr := ⟨_, rfl⟩
        subst hX
        obtain ⟨out, rfl, rfl, HT, HM⟩ := hrel
        have HG : Hid (gl < gt ∧ gt < go ∧ W.heap.size = gl ∧ d1 < gl) := H4.out.2.2.2.2.2
        have HLL : Hid ((Gr.lft (List.range N) out).length + out.length = N ∧ (∀ k ∈ Gr.lft (List.range N) out, k < N) ∧ (∀ k ∈ out, k < N)) := by
          have h1 := lft_len List.nodup_range HT.out.1.nd HT.out.1.sub
          rw [List.length_range] at h1
          exact ⟨h1, fun k hk => List.mem_range.1 (Gr.lft_mem.1 hk).1, fun k hk => List.mem_range.1 (HT.out.1.sub k hk)⟩
        clear H4 H1
        obtain ⟨ns, hns⟩ : ∃ ns, Gr.lft (List.range N) out = ns := ⟨_, rfl⟩
        have HNS : Hid (Gr.lft (List.range N) out = ns) := hns
        rw [hns] at HM HLL ⊢
        clear hns
        obtain ⟨m, hm⟩ : ∃ m, ns.length = m := ⟨_, rfl⟩
        have HML : Hid (ns.length = m) := hm
        rw [hm] at HM HLL ⊢
        clear hm
        cases m with
        | zero =>
          have HO : Hid (out = R ∧ out.length = N) := by
            have h1 := HLL.out.1
            have h2 : out.length = N := by omega
            have h3 := HT.out.2
            rw [h2, Nat.sub_self] at h3
            exact ⟨h3, h2⟩
          obtain ⟨ra, rc, hv, hcr, _⟩ := HM.out.2.2.2.2.read
          rw [HO.out.2] at hv hcr
          subst hv
          have HC : Hid (CR X 3 ra N (ivs R)) := by rw [← HO.out.1]; exact hcr
          have HB : Hid (Below w.heap.size w X) := below_tr HS.out.1 HM.out.1
          clear hcr
          go_wp2
          go_ret
          exact ⟨ra, rc, rfl, HC, HB⟩
        | succ m =>
          have hlt : ∃ n ∈ List.range N, n ∉ out := by
            obtain ⟨k, hk⟩ : ∃ k, ns[0]? = some k := ⟨_, List.getElem?_eq_getElem (by rw [HML.out]; omega)⟩
            have hkm := List.mem_of_getElem? hk
            rw [← HNS.out] at hkm
            exact ⟨k, (Gr.lft_mem.1 hkm).1, (Gr.lft_mem.1 hkm).2⟩
          obtain ⟨n, hn⟩ := Gr.nxt_is (from_N HP.out.2.2.2) f (rise_N HP.out.2.2.1) hlt
          obtain ⟨j, hj1, hj2⟩ := nxAt_nxt (told := fun k => (toldL N out).getD k false) (toldL_get HLL.out.2.2) hn
          have hnN : n < N := List.mem_range.1 (Gr.nxt_some hn).1
          rw [HNS.out] at hj1 hj2
          have hjm := (List.getElem?_eq_some_iff.1 hj1).1
          have HN2 : Hid (Gr.nxt (flv G vs) (List.range N) out = some n ∧ ns[j]? = some n ∧ n < N ∧ j < m + 1 ∧ nxAt (flv G vs) (fun k => (toldL N out).getD k false) (lastOf out) ns 0 (-1) = (j : Int)) := ⟨hn, hj1, hnN, by have := HML.out; omega, hj2⟩
          have q2 : (0 : Int) < ((m + 1 : Nat) : Int) := by omega
          have q3 : (m : Int) + 1 ≤ 512 := by have := HLL.out.1; have := HP.out.1; omega
          clear hlt hn hj1 hj2 hnN hjm
          go_wp2_with (first
            | (with_reducible change wpList _ _ _ ({ dst := some 34, op := _, type := _, pos := _, after := _, guard := _ } :: _) _ _
               refine wpList_load_want rfl 80 (.tmp 1) rfl d1 0 rfl (shc (.slice va N vc) (.slice la N lc) (.slice fa N fc)) _ HM.out.2.1.range0 Try.underlying80 rfl (info80 _ _ _) ?_)
            | fail)
          refine (next_is X G va la fa vc lc fc N vs (HS.out.2.2.1.below HM.out.1) HP.out.1 HP.out.2.1 (some ⟨gl, 0, none⟩) (m + 1) N ns ?_ HLL.out.2.1 (by have := HLL.out.1; have := HP.out.1; omega) (some ⟨gt, 0, none⟩) N (toldL N out) ?_ (lastOf out) (j : Int) HN2.out.2.2.2.2).mono ?_
          · obtain ⟨a, c, e, h, _⟩ := HM.out.2.2.1.read
            cases e
            exact h
          · obtain ⟨a, c, e, h, _⟩ := HM.out.2.2.2.1.read
            cases e
            exact h
          rintro e Y ⟨rfl, hb⟩
          have HY : Hid (Below W.heap.size W Y ∧ Blk Y d1 80 (shc (.slice va N vc) (.slice la N lc) (.slice fa N fc)) ∧ OC gl Y 3 (.slice (some ⟨gl, 0, none⟩) (m + 1) N) (m + 1) (ivs ns) ∧ OC gt Y 4 (.slice (some ⟨gt, 0, none⟩) N N) N (bvs (toldL N out)) ∧ OC (gt + 1) Y 3 u6 out.length (ivs out)) := ⟨HM.out.1.trans (hb.mono HM.out.1.size), HM.out.2.1.below hb HM.out.2.1.lt, HM.out.2.2.1.below hb, HM.out.2.2.2.1.below hb, HM.out.2.2.2.2.below hb⟩
          have cl : Y.cell? ⟨gl, j, none⟩ = some (iv (n : Int)) := by
            obtain ⟨L, a1, a2, _⟩ := HY.out.2.2.1.out
            refine a1.cell ?_
            have h1 : (ivs ns)[j]? = some (iv (n : Int)) := by unfold ivs; rw [List.getElem?_map, HN2.out.2.1]; rfl
            rw [← a2, List.getElem?_take_of_lt HN2.out.2.2.2.1] at h1
            exact h1
          have q4 : (j : Int) < (m : Int) + 1 := by have := HN2.out.2.2.2.1; omega
          have q5 : (n : Int) < (N : Int) := by have := HN2.out.2.2.1; omega
          clear hb
          go_wp2_with (first
            | (with_reducible change wpList _ _ _ ({ dst := none, op := Op.store 4 _ _, type := _, pos := _, after := _, guard := _ } :: _) _ _
               refine Hid.out ?_)
            | fail)
          show wpList _ _ _ _ _ _
          clear cl
          refine wpList_strow rfl 4 (.tmp 45) (.const (.bool true)) rfl (by kernel_rfl) (g := gt) (i := n) (u := .bool true) rfl rfl rfl rfl HY.out.2.2.2.1 HN2.out.2.2.1 ?_
          intro Y2 r1 r2
          have HY2 : Hid (Below W.heap.size W Y2 ∧ Blk Y2 d1 80 (shc (.slice va N vc) (.slice la N lc) (.slice fa N fc)) ∧ OC gl Y2 3 (.slice (some ⟨gl, 0, none⟩) (m + 1) N) (m + 1) (ivs ns) ∧ OC gt Y2 4 (.slice (some ⟨gt, 0, none⟩) N N) N (bvs (toldL N (out ++ [n]))) ∧ OC (gt + 1) Y2 3 u6 out.length (ivs out)) := by
            have hg := HG.out
            rw [toldL_set HN2.out.2.2.1] at r1
            refine ⟨HY.out.1.grown r2 HY.out.1.size (fun k hk => by have e8 := Option.some.inj hk; omega), (r2.block d1 HY.out.2.1.lt (fun e => by have e8 := Option.some.inj e; omega)).trans HY.out.2.1, HY.out.2.2.1.same (fun g hgv => r2.block g ?_ (fun e => by have e8 := Option.some.inj e; have e9 : gl = g := Option.some.inj hgv; omega)), r1, HY.out.2.2.2.2.same (fun g hgv => r2.block g ?_ (fun e => ?_))⟩
            · obtain ⟨_, C, h9⟩ := HY.out.2.2.1.blk hgv
              exact (Array.getElem?_eq_some_iff.1 h9).1
            · obtain ⟨_, C, h9⟩ := HY.out.2.2.2.2.blk hgv
              exact (Array.getElem?_eq_some_iff.1 h9).1
            · have h9 := (HY.out.2.2.2.2.blk hgv).1
              have e8 := Option.some.inj e
              omega
          clear r1 r2 HY
          go_wp2_with (first
            | (with_reducible change wpList _ _ _ ({ dst := some 48, op := _, type := _, pos := _, after := _, guard := _ } :: _) _ _
               refine Hid.out ?_)
            | fail)
          show wpList _ _ _ _ _ _
          obtain ⟨Y3, hY3⟩ : ∃ W, Y2.alloc (.cells [iv (n : Int)].toArray 3) = W := ⟨_, rfl⟩
          obtain ⟨z3, hz3⟩ : ∃ g, Y2.heap.size = g := ⟨_, rfl⟩
          have HY3 : Hid (Below W.heap.size W Y3 ∧ Blk Y3 d1 80 (shc (.slice va N vc) (.slice la N lc) (.slice fa N fc)) ∧ OC gl Y3 3 (.slice (some ⟨gl, 0, none⟩) (m + 1) N) (m + 1) (ivs ns) ∧ OC gt Y3 4 (.slice (some ⟨gt, 0, none⟩) N N) N (bvs (toldL N (out ++ [n]))) ∧ OC (gt + 1) Y3 3 u6 out.length (ivs out) ∧ Blk Y3 z3 3 [iv (n : Int)]) := by
            have hb : Below Y2.heap.size Y2 Y3 := by rw [← hY3]; exact below_al _ _
            exact ⟨HY2.out.1.trans (hb.mono HY2.out.1.size), HY2.out.2.1.below hb HY2.out.2.1.lt, HY2.out.2.2.1.below hb, HY2.out.2.2.2.1.below hb, HY2.out.2.2.2.2.below hb, by rw [← hY3, ← hz3]; exact Blk.new Y2 _ _⟩
          refine wpList_bs rfl 82 (.tmp 47) rfl (iv (n : Int)) (.slice (some ⟨Y2.heap.size, 0, none⟩) 1 1) rfl (Y2.alloc (.cells [iv (n : Int)].toArray 3)) (bs3 _ _) ?_
          rw [hY3, hz3]
          clear hY3 hz3 HY2
          go_wp2_with (first
            | (with_reducible change wpList _ _ _ ({ dst := some 49, op := _, type := _, pos := _, after := _, guard := _ } :: _) _ _
               refine Hid.out ?_)
            | fail)
          show wpList _ _ _ _ _ _
          refine wpList_appc rfl one82 (.tmp 46) (.tmp 48) rfl (gt + 1) u6 out.length (ivs out) z3 (iv (n : Int)) rfl rfl HY3.out.2.2.2.2.1 HY3.out.2.2.2.2.2 rfl (by have := HLL.out.1; have := HP.out.1; omega) ?_ ?_
          · obtain ⟨L, a1, _⟩ := HY3.out.2.2.2.1.out
            exact a1.lt
          intro v' Y4 r1 r2 r3
          have HY4 : Hid (Below W.heap.size W Y4 ∧ Blk Y4 d1 80 (shc (.slice va N vc) (.slice la N lc) (.slice fa N fc)) ∧ OC gl Y4 3 (.slice (some ⟨gl, 0, none⟩) (m + 1) N) (m + 1) (ivs ns) ∧ OC gt Y4 4 (.slice (some ⟨gt, 0, none⟩) N N) N (bvs (toldL N (out ++ [n]))) ∧ OC (gt + 1) Y4 3 v' (out ++ [n]).length (ivs (out ++ [n]))) := by
            have hg := HG.out
            refine ⟨HY3.out.1.grown r2 HY3.out.1.size (fun k hk => by have := (r3 k hk).1; omega), (r2.block d1 HY3.out.2.1.lt (fun e => by have := (r3 d1 e.symm).1; omega)).trans HY3.out.2.1, HY3.out.2.2.1.same (fun g hgv => r2.block g ?_ (fun e => by have := (r3 g e.symm).1; have e9 : gl = g := Option.some.inj hgv; omega)), HY3.out.2.2.2.1.same (fun g hgv => r2.block g ?_ (fun e => by have := (r3 g e.symm).1; have e9 : gt = g := Option.some.inj hgv; omega)), ?_⟩
            · obtain ⟨_, C, h9⟩ := HY3.out.2.2.1.blk hgv
              exact (Array.getElem?_eq_some_iff.1 h9).1
            · obtain ⟨_, C, h9⟩ := HY3.out.2.2.2.1.blk hgv
              exact (Array.getElem?_eq_some_iff.1 h9).1
            · rw [List.length_append]
              unfold ivs
              rw [List.map_append]
              exact r1
          clear r1 r2 r3 HY3
          go_wp2_with fail
          have HDEL := del_is Y4 gl gl N j ns (by rw [HML.out]; exact HY4.out.2.2.1) (by rw [HML.out]; exact HN2.out.2.2.2.1)
          rw [HML.out, Nat.add_sub_cancel] at HDEL
          have HDD : Hid _ := hid_of HDEL
          clear HDEL
          refine HDD.out.mono ?_
          rintro e Y5 ⟨rfl, r1, r2⟩
          have HE : Hid (ns.eraseIdx j = Gr.lft (List.range N) (out ++ [n]) ∧ (Gr.lft (List.range N) (out ++ [n])).length = m) := by
            have h1 := lft_erase (out := out) List.nodup_range (j := j) (n := n) (by rw [HNS.out]; exact HN2.out.2.1)
            rw [HNS.out] at h1
            refine ⟨h1, ?_⟩
            rw [← h1, List.length_eraseIdx, if_pos (by rw [HML.out]; exact HN2.out.2.2.2.1), HML.out]
            omega
          have HY5 : Hid (Below W.heap.size W Y5 ∧ Blk Y5 d1 80 (shc (.slice va N vc) (.slice la N lc) (.slice fa N fc)) ∧ OC gl Y5 3 (.slice (some ⟨gl, 0, none⟩) m N) m (ivs (Gr.lft (List.range N) (out ++ [n]))) ∧ OC gt Y5 4 (.slice (some ⟨gt, 0, none⟩) N N) N (bvs (toldL N (out ++ [n]))) ∧ OC (gt + 1) Y5 3 v' (out ++ [n]).length (ivs (out ++ [n]))) := by
            have hg := HG.out
            have r1 := r1.out
            have r2 := r2.out
            rw [HE.out.1] at r1
            refine ⟨HY4.out.1.grown r2 HY4.out.1.size (fun k hk => by have e8 := Option.some.inj hk; omega), (r2.block d1 HY4.out.2.1.lt (fun e => by have e8 := Option.some.inj e; omega)).trans HY4.out.2.1, r1, HY4.out.2.2.2.1.same (fun g hgv => r2.block g ?_ (fun e => by have e8 := Option.some.inj e; have e9 : gt = g := Option.some.inj hgv; omega)), HY4.out.2.2.2.2.same (fun g hgv => r2.block g ?_ (fun e => ?_))⟩
            · obtain ⟨_, C, h9⟩ := HY4.out.2.2.2.1.blk hgv
              exact (Array.getElem?_eq_some_iff.1 h9).1
            · obtain ⟨_, C, h9⟩ := HY4.out.2.2.2.2.blk hgv
              exact (Array.getElem?_eq_some_iff.1 h9).1
            · have h9 := (HY4.out.2.2.2.2.blk hgv).1
              have e8 := Option.some.inj e
              omega
          clear r1 r2 HY4 HDD
          go_wp2
          refine ⟨⟨out ++ [n], by rw [HE.out.2], by rw [lastOf_app], ⟨HT.out.1.add (from_N HP.out.2.2.2) (stays_N _ _) HN2.out.1, ?_⟩, HY5.out.1, HY5.out.2.1, by rw [HE.out.2]; exact HY5.out.2.2.1, HY5.out.2.2.2.1, HY5.out.2.2.2.2⟩, ?_⟩
          · rw [← HT.out.2, List.length_append, List.length_singleton]
            have h1 := HLL.out.1
            rw [show N - out.length = N - (out.length + 1) + 1 by omega]
            exact (run_next HN2.out.1).symm
          · simp [lenOf]
end Go.Proofs.Ytjcihaohpbmogaa.Oct
