/-
  Layer 19 (audit): Verify.
-/
import Derived.Test.YtmmpafaegmejlaaDoorEqe
namespace Go.Proofs.YtmmpafaegmejlaaDoor.Oct
open Go.RowKit Sha
set_option linter.unusedSimpArgs false
set_option linter.unusedVariables false

/-- an entry stands rightly behind those ahead of it -/
def okAt (l : List En) (i : Nat) : Prop := ∀ e, l[i]? = some e → nxE (l.take i) e.tick e.who e.what = (e, 0)
/-- what Verify tells -/
def VfP (l : List En) (k : Int) : Prop := (k = -1 ∧ ∀ i, i < l.length → okAt l i) ∨ (∃ i : Nat, k = (i : Int) ∧ i < l.length ∧ ¬ okAt l i ∧ ∀ j, j < i → okAt l j)
theorem VfP.one {l : List En} {k k' : Int} (h : VfP l k) (h' : VfP l k') : k = k' := by
  rcases h with ⟨rfl, a⟩ | ⟨i, rfl, a, b, c⟩ <;> rcases h' with ⟨rfl, a'⟩ | ⟨i', rfl, a', b', c'⟩
  · rfl
  · exact absurd (a i' a') b'
  · exact absurd (a' i a) b
  · have : i = i' := by
      rcases Nat.lt_trichotomy i i' with h | h | h
      · exact absurd (c' i h) b
      · exact h
      · exact absurd (c i' h) b'
    rw [this]
theorem EsR.take {w : World} {a : Option Addr} {cap : Nat} {l : List En} (h : EsR w (.slice a l.length cap) l) {i : Nat} (hi : i ≤ l.length) : EsR w (.slice a i i) (l.take i) := by
  obtain ⟨h1, a', cap', h2, h3, h4, h5⟩ := h
  cases h2
  refine ⟨fun e he => h1 e (List.mem_of_mem_take he), a, i, by rw [List.length_take, Nat.min_eq_left hi], by rw [List.length_take]; omega, by omega, fun hp => ?_⟩
  rw [List.length_take] at hp
  obtain ⟨b, off, e1, e2, e3⟩ := h5 (by omega)
  refine ⟨b, off, e1, e2, fun j e he => e3 j e ?_⟩
  rw [List.getElem?_take] at he
  split at he
  · exact he
  · cases he
theorem size58 : (Tryd.prog.info? 58).map (·.size) = some 1 := by kernel_rfl
theorem elem27 : Tryd.prog.underlying 27 = some (.slice 37) := by kernel_rfl
theorem run_slice3 (b off : Nat) (n cap i : Nat) (hi : i ≤ n) (hn : n ≤ cap) (W : World) : (Instr.slice 27 (.slice (some ⟨b, off, none⟩) n cap) none (some (iv (i : Int))) (some (iv (i : Int)))).run Tryd.prog W = .ok (.slice (some ⟨b, off, none⟩) i i) W := by
  have h1 := run_sliceBound (P := Tryd.prog) (w := W) .i64 (i : Int) cap .slice3Acap (by omega) (by omega)
  have h2 := run_sliceBound (P := Tryd.prog) (w := W) .i64 (i : Int) i .slice3B (by omega) (by omega)
  simp only [Int.toNat_natCast] at h1 h2
  simp [Instr.slice, run_underlying elem27, Instr.sliceBounds, h1, h2, go_sem]
theorem last_ok {l : List En} (h : ∀ e ∈ l, e.ok) : (lastE l).ok := by
  by_cases hne : l = []
  · rw [hne]; exact zE_ok
  · exact h _ (last_mem hne)
theorem nxE_ok {l : List En} {tick : Int} {who what : BA} (h : ∀ e ∈ l, e.ok) (h1 : who.size ≤ 140737488355328) (h2 : what.size ≤ 140737488355328) (h3 : tick ≤ 9223372036854775807) (h4 : l.length ≤ 1000000) : (nxE l tick who what).1.ok := by
  unfold nxE
  split
  · exact zE_ok
  · split
    · exact zE_ok
    · exact ⟨hdE_len l, by show (l.length : Int) + 1 ≤ _; omega, h3, h1, h2⟩
set_option maxRecDepth 100000 in
set_option maxHeartbeats 2000000 in
theorem verify_is {w : World} {v : Value} {l : List En} (h : EsR w v l) (hz : ∀ e ∈ l, e.sz) (hl : l.length ≤ 1000000) (hk : KT w) (hs : ST w) : Calls Tryd.prog 23 #[v] w fun e w' => ∃ k : Int, e = .returned (iv k) ∧ Hid (VfP l k) ∧ Below w.heap.size w w' := by
  have HE : Hid (EsR w v l) := h
  obtain ⟨hok, a, cap, rfl, hle, hcap, hr⟩ := h
  obtain ⟨n, hn⟩ : ∃ n, l.length = n := ⟨_, rfl⟩
  have HW : Hid (EsR w (.slice a l.length cap) l ∧ (∀ e ∈ l, e.sz) ∧ l.length = n ∧ KT w ∧ ST w ∧ n ≤ 1000000 ∧ n ≤ cap ∧ cap ≤ maxLen) := ⟨HE.out, hz, hn, hk, hs, by omega, by omega, hcap⟩
  have qn : (n : Int) ≤ 1000000 := by omega
  rw [hn]
  clear hok hle hcap hz hl hk hs HE hn
  go_enter Tryd.func23, Tryd.ntmps23
  go_wp2
  go_step3
  go_wp2
  go_step3
  go_wp2
  go_loopw [11, 3] (fun u t wr => ∃ i : Nat, u = iv (i : Int) ∧ t = iv (-1) ∧ Hid (i ≤ n ∧ (∀ j, j < i → okAt l j) ∧ Below w.heap.size w wr)) (fun u _ _ => n - (intOf u).toNat)
  case atStart => exact ⟨0, rfl, rfl, Nat.zero_le _, fun j hj => absurd hj (by omega), Below.refl _ _⟩
  case round =>
    obtain ⟨i, rfl, rfl, HI⟩ := hrel
    by_cases hi : i = n
    · have q1 : (n : Int) ≤ (i : Int) := by omega
      have HF : Hid (VfP l (-1) ∧ Below w.heap.size w wr) := ⟨.inl ⟨rfl, fun j hj => HI.out.2.1 j (by rw [hi]; rw [HW.out.2.2.1] at hj; exact hj)⟩, HI.out.2.2⟩
      clear hi HI
      go_wp2
      rw [Exit.noGoto_ret]
      go_ret
      exact ⟨-1, rfl, HF.out.1, HF.out.2⟩
    · have hlt : i < n := by have := HI.out.1; omega
      have q1 : (i : Int) < (n : Int) := by omega
      have hlen := HW.out.2.2.1
      obtain ⟨x, hx⟩ : ∃ x, l[i]? = some x := ⟨_, List.getElem?_eq_getElem (by omega)⟩
      obtain ⟨b, off, rfl, hb, hel⟩ := hr (by omega)
      have hxm := List.mem_of_getElem? hx
      have HX : Hid (x.ok ∧ x.sz ∧ l[i]? = some x ∧ wr.rangeAt b (off + i * 36) x.cells ∧ i < n) := ⟨HW.out.1.1 x hxm, HW.out.2.1 x hxm, hx, rangeAt_same (hel i x hx) (HI.out.2.2.block b hb), hlt⟩
      obtain ⟨Z, hZ, HZ⟩ := zero37
      obtain ⟨g5, hg5⟩ : ∃ g, wr.heap.size = g := ⟨_, rfl⟩
      have HG5 : Hid (wr.heap.size = g5 ∧ w.heap.size ≤ g5) := ⟨hg5, by have := HI.out.2.2.size; omega⟩
      have hqs := fun W => run_slice3 b off n cap i (by omega) HW.out.2.2.2.2.2.2.1 W
      clear hi hlt hx hel hb hxm hr hlen
      go_wp2_with (with_reducible change wpList _ _ _ ({ dst := some 15, op := _, type := _, pos := _, after := _, guard := _ } :: _) _ _; refine Hid.out ?_)
      show wpList _ _ _ _ _ _
      refine wpList_load_mid rfl 37 (.tmp 14) rfl b (off + i * 36) rfl x.cells _ HX.out.2.2.2.1 Tryd.underlying37 rfl (info37 HX.out.1) ?_
      go_wp2_with (with_reducible change wpList _ _ _ ({ dst := none, op := Op.store 37 _ _, type := _, pos := _, after := _, guard := _ } :: _) _ _; refine Hid.out ?_)
      show wpList _ _ _ _ _ _
      refine wpList_store_blk rfl 37 (.tmp 5) (.tmp 15) rfl g5 0 37 Z x.cells rfl rfl (by rw [← HG5.out.1]; exact Blk.new wr _ _) (by rw [HZ.out, En.len zE_ok, En.len HX.out.1]; exact Nat.le_refl _) (info37 HX.out.1) (En.one _) ?_
      intro W1 hx1 hg1
      have H1 : Hid (Below w.heap.size w W1 ∧ Blk W1 g5 37 x.cells) := ⟨below_gr (below_tr HI.out.2.2 (below_al _ _)) hg1.out HG5.out.2, blk_all hx1.out (by rw [HZ.out, En.len zE_ok, En.len HX.out.1])⟩
      clear hx1 hg1 hg5
      obtain ⟨g6, hg6⟩ : ∃ g, W1.heap.size = g := ⟨_, rfl⟩
      have HG6 : Hid (W1.heap.size = g6 ∧ w.heap.size ≤ g6 ∧ g5 < g6) := ⟨hg6, by have := H1.out.1.size; omega, by have := H1.out.2.lt; omega⟩
      go_wp2_with (with_reducible change wpList _ _ _ ({ dst := none, op := Op.store 58 _ _, type := _, pos := _, after := _, guard := _ } :: _) _ _; refine Hid.out ?_)
      show wpList _ _ _ _ _ _
      refine wpList_store_blk rfl 58 (.tmp 6) (.tmp 20) rfl g6 0 58 [.slice none 0 0] [.slice (some ⟨b, off, none⟩) i i] rfl rfl (by rw [← HG6.out.1]; exact Blk.new W1 _ _) (by simp) size58 (by intro v hv; rw [List.mem_singleton.1 hv]; rfl) ?_
      intro W2 hx2 hg2
      have H2 : Hid (Below w.heap.size w W2 ∧ Blk W2 g5 37 x.cells ∧ Blk W2 g6 58 [.slice (some ⟨b, off, none⟩) i i]) := by
        have hb2 := H1.out.2.below (below_al W1 (.cells #[.slice none 0 0] 58)) H1.out.2.lt
        exact ⟨below_gr (below_tr H1.out.1 (below_al _ _)) hg2.out HG6.out.2.1, hb2.kept hg2.out (by have := HG6.out.2.2; simp; omega), by simpa using hx2.out⟩
      have HC : Hid (Ch W2 g6 (l.take i)) := by
        refine ⟨_, H2.out.2.2, ?_, by rw [List.length_take]; have := HW.out.2.2.1; have := HW.out.2.2.2.2.2.1; omega, fun e he => HW.out.2.1 e (List.mem_of_mem_take he)⟩
        exact (HW.out.1.take (by have := HW.out.2.2.1; have := HX.out.2.2.2.2; omega)).below H2.out.1
      have c1 : W2.cell? ⟨g5, 1, none⟩ = some (iv x.tick) := H2.out.2.1.cell rfl
      have c2 : W2.cell? ⟨g5, 2, none⟩ = some (.string x.who) := H2.out.2.1.cell rfl
      have c3 : W2.cell? ⟨g5, 3, none⟩ = some (.string x.what) := H2.out.2.1.cell rfl
      clear hx2 hg2 hg6
      go_wp2_with fail
      refine (next_is HC.out (HW.out.2.2.2.1.below H2.out.1) (HW.out.2.2.2.2.1.below H2.out.1) x.tick x.who x.what HX.out.1.2.2.2.1 HX.out.1.2.2.2.2 HX.out.1.2.2.1).mono ?_
      rintro e W3 ⟨rfl, hb3⟩
      have hyok := nxE_ok (l := l.take i) (tick := x.tick) (who := x.who) (what := x.what) (fun e he => HW.out.1.1 e (List.mem_of_mem_take he)) HX.out.1.2.2.2.1 HX.out.1.2.2.2.2 HX.out.1.2.2.1 (by rw [List.length_take]; have := HW.out.2.2.1; have := HW.out.2.2.2.2.2.1; omega)
      obtain ⟨q, hq⟩ : ∃ q, nxE (l.take i) x.tick x.who x.what = q := ⟨_, rfl⟩
      rw [hq] at hyok ⊢
      obtain ⟨y, k⟩ := q
      have HQ : Hid (nxE (l.take i) x.tick x.who x.what = (y, k) ∧ y.ok) := ⟨hq, hyok⟩
      have H3 : Hid (Below w.heap.size w W3 ∧ Blk W3 g5 37 x.cells) := ⟨below_tr H2.out.1 hb3, H2.out.2.1.below hb3 H2.out.2.1.lt⟩
      obtain ⟨g7, hg7⟩ : ∃ g, W3.heap.size = g := ⟨_, rfl⟩
      have HG7 : Hid (W3.heap.size = g7 ∧ w.heap.size ≤ g7 ∧ g5 < g7) := ⟨hg7, by have := H3.out.1.size; omega, by have := H3.out.2.lt; omega⟩
      dsimp only
      clear hb3 hq hyok c1 c2 c3 HC H2 H1
      go_wp2_with (with_reducible change wpList _ _ _ ({ dst := none, op := Op.store 37 _ _, type := _, pos := _, after := _, guard := _ } :: _) _ _; refine Hid.out ?_)
      show wpList _ _ _ _ _ _
      refine wpList_store_blk rfl 37 (.tmp 7) (.tmp 29) rfl g7 0 37 Z y.cells rfl rfl (by rw [← HG7.out.1]; exact Blk.new W3 _ _) (by rw [HZ.out, En.len zE_ok, En.len HQ.out.2]; exact Nat.le_refl _) (info37 HQ.out.2) (En.one _) ?_
      intro W4 hx4 hg4
      have H4 : Hid (Below w.heap.size w W4 ∧ Blk W4 g5 37 x.cells ∧ Blk W4 g7 37 y.cells) := by
        have hb2 := H3.out.2.below (below_al W3 (.cells Z.toArray 37)) H3.out.2.lt
        exact ⟨below_gr (below_tr H3.out.1 (below_al _ _)) hg4.out HG7.out.2.1, hb2.kept hg4.out (by have := HG7.out.2.2; simp; omega), blk_all hx4.out (by rw [HZ.out, En.len zE_ok, En.len HQ.out.2])⟩
      clear hx4 hg4 hg7
      by_cases hk0 : k = 0
      · subst hk0
        obtain ⟨B, hB⟩ : ∃ B, eqEn y x = B := ⟨_, rfl⟩
        have hne := neE y x HQ.out.2 HX.out.1
        rw [hB] at hne
        have HB : Hid (eqEn y x = B) := hB
        clear hB
        go_wp2_with (with_reducible change wpList _ _ _ ({ dst := some 34, op := _, type := _, pos := _, after := _, guard := _ } :: _) _ _; refine Hid.out ?_)
        show wpList _ _ _ _ _ _
        refine wpList_load_mid rfl 37 (.tmp 7) rfl g7 0 rfl y.cells _ H4.out.2.2.range0 Tryd.underlying37 rfl (info37 HQ.out.2) ?_
        go_wp2_with (with_reducible change wpList _ _ _ ({ dst := some 35, op := _, type := _, pos := _, after := _, guard := _ } :: _) _ _; refine Hid.out ?_)
        show wpList _ _ _ _ _ _
        refine wpList_load_mid rfl 37 (.tmp 5) rfl g5 0 rfl x.cells _ H4.out.2.1.range0 Tryd.underlying37 rfl (info37 HX.out.1) ?_
        cases B
        · have HF : Hid (VfP l (i : Int) ∧ Below w.heap.size w W4) := by
            refine ⟨.inr ⟨i, rfl, by have := HW.out.2.2.1; have := HX.out.2.2.2.2; omega, fun hc => ?_, HI.out.2.1⟩, H4.out.1⟩
            have := hc x HX.out.2.2.1
            rw [HQ.out.1] at this
            have e : y = x := congrArg Prod.fst this
            have := (eqEn_iff y x).2 e
            rw [HB.out] at this
            cases this
          go_wp2
          rw [Exit.noGoto_ret]
          go_ret
          exact ⟨_, rfl, HF.out.1, HF.out.2⟩
        · have HF : Hid (i + 1 ≤ n ∧ (∀ j, j < i + 1 → okAt l j) ∧ Below w.heap.size w W4) := by
            refine ⟨by have := HX.out.2.2.2.2; omega, fun j hj => ?_, H4.out.1⟩
            by_cases ej : j = i
            · subst ej
              intro e he
              rw [HX.out.2.2.1] at he
              cases he
              rw [HQ.out.1, (eqEn_iff y x).1 HB.out]
            · exact HI.out.2.1 j (by omega)
          go_wp2
          go_roundw
          case rel => exact ⟨i + 1, rfl, rfl, HF.out⟩
          case measure => show n - (i + 1) < n - i; have := HX.out.2.2.2.2; omega
      · have q3 : (k != 0) = true := by simpa using hk0
        have HF : Hid (VfP l (i : Int) ∧ Below w.heap.size w W4) := by
          refine ⟨.inr ⟨i, rfl, by have := HW.out.2.2.1; have := HX.out.2.2.2.2; omega, fun hc => ?_, HI.out.2.1⟩, H4.out.1⟩
          have := hc x HX.out.2.2.1
          rw [HQ.out.1] at this
          exact hk0 (congrArg Prod.snd this)
        clear hk0
        go_wp2
        rw [Exit.noGoto_ret]
        go_ret
        exact ⟨_, rfl, HF.out.1, HF.out.2⟩
#print axioms verify_is
end Go.Proofs.YtmmpafaegmejlaaDoor.Oct
