/-
  Layer 19 (audit): Verify.
  Layer 19 (audit): rows of entries of the call's own; slices.Clone, fresh; a log in memory.
  Layer 19 (audit): a log in memory: New, Head, Entries, Load.
  Layer 19 (audit): Append: what lies there, and its drawn region.
  Layer 19 (audit): Append.
-/
import Derived.Test.YtmmpafaegmejlaaDoorPkA
import Derived.Maps.AppendAt
import Derived.Deep.DeepAppendWide
/- Layer 19 (audit): Verify. -/
namespace Go.Proofs.YtmmpafaegmejlaaDoor.Oct
open Go.RowKit Sha
set_option linter.unusedSimpArgs false
set_option linter.unusedVariables false

/-- an entry stands rightly behind those ahead of it -/
def okAt (l : List En) (i : Nat) : Prop := ∀ e, l[i]? = some e → nxE (l.take i) e.tick e.who e.what = (e, 0)
/-- what Verify tells -/
def VfP (l : List En) (k : Int) : Prop := (k = -1 ∧ ∀ i, i < l.length → okAt l i) ∨ (∃ i : Nat, k = (i : Int) ∧ i < l.length ∧ ¬ okAt l i ∧ ∀ j, j < i → okAt l j)
theorem VfP.one {l : List En} {k k' : Int} (h : VfP l k) (h' : VfP l k') : k = k' := by
  rcases h with ⟨rfl, a⟩ | ⟨i, rfl, a, b, c⟩ <;> rcases h' with ⟨rfl, a'⟩ | ⟨i', rfl, a', b', c'⟩
  · rfl
  · exact absurd (a i' a') b'
  · exact absurd (a' i a) b
  · have : i = i' := by
      rcases Nat.lt_trichotomy i i' with h | h | h
      · exact absurd (c' i h) b
      · exact h
      · exact absurd (c i' h) b'
    rw [this]
theorem EsR.take {w : World} {a : Option Addr} {cap : Nat} {l : List En} (h : EsR w (.slice a l.length cap) l) {i : Nat} (hi : i ≤ l.length) : EsR w (.slice a i i) (l.take i) := by
  obtain ⟨h1, a', cap', h2, h3, h4, h5⟩ := h
  cases h2
  refine ⟨fun e he => h1 e (List.mem_of_mem_take he), a, i, by rw [List.length_take, Nat.min_eq_left hi], by rw [List.length_take]; omega, by omega, fun hp => ?_⟩
  rw [List.length_take] at hp
  obtain ⟨b, off, e1, e2, e3⟩ := h5 (by omega)
  refine ⟨b, off, e1, e2, fun j e he => e3 j e ?_⟩
  rw [List.getElem?_take] at he
  split at he
  · exact he
  · cases he
theorem size58 : (Tryd.prog.info? 58).map (·.size) = some 1 := by kernel_rfl
theorem elem27 : Tryd.prog.underlying 27 = some (.slice 37) := by kernel_rfl
theorem run_slice3 (b off : Nat) (n cap i : Nat) (hi : i ≤ n) (hn : n ≤ cap) (W : World) : (Instr.slice 27 (.slice (some ⟨b, off, none⟩) n cap) none (some (iv (i : Int))) (some (iv (i : Int)))).run Tryd.prog W = .ok (.slice (some ⟨b, off, none⟩) i i) W := by
  have h1 := run_sliceBound (P := Tryd.prog) (w := W) .i64 (i : Int) cap .slice3Acap (by omega) (by omega)
  have h2 := run_sliceBound (P := Tryd.prog) (w := W) .i64 (i : Int) i .slice3B (by omega) (by omega)
  simp only [Int.toNat_natCast] at h1 h2
  simp [Instr.slice, run_underlying elem27, Instr.sliceBounds, h1, h2, go_sem]
theorem last_ok {l : List En} (h : ∀ e ∈ l, e.ok) : (lastE l).ok := by
  by_cases hne : l = []
  · rw [hne]; exact zE_ok
  · exact h _ (last_mem hne)
theorem nxE_ok {l : List En} {tick : Int} {who what : BA} (h : ∀ e ∈ l, e.ok) (h1 : who.size ≤ 140737488355328) (h2 : what.size ≤ 140737488355328) (h3 : tick ≤ 9223372036854775807) (h4 : l.length ≤ 1000000) : (nxE l tick who what).1.ok := by
  unfold nxE
  split
  · exact zE_ok
  · split
    · exact zE_ok
    · exact ⟨hdE_len l, by show (l.length : Int) + 1 ≤ _; omega, h3, h1, h2⟩
set_option maxRecDepth 100000 in
set_option maxHeartbeats 2000000 in
theorem verify_is {w : World} {v : Value} {l : List En} (h : EsR w v l) (hz : ∀ e ∈ l, e.sz) (hl : l.length ≤ 1000000) (hk : KT w) (hs : ST w) : Calls Tryd.prog 23 #[v] w fun e w' => ∃ k : Int, e = .returned (iv k) ∧ Hid (VfP l k) ∧ Below w.heap.size w w' := by
  have HE : Hid (EsR w v l) := h
  obtain ⟨hok, a, cap, rfl, hle, hcap, hr⟩ := h
  obtain ⟨n, hn⟩ : ∃ n, l.length = n := ⟨_, rfl⟩
  have HW : Hid (EsR w (.slice a l.length cap) l ∧ (∀ e ∈ l, e.sz) ∧ l.length = n ∧ KT w ∧ ST w ∧ n ≤ 1000000 ∧ n ≤ cap ∧ cap ≤ maxLen) := ⟨HE.out, hz, hn, hk, hs, by omega, by omega, hcap⟩
  have qn : (n : Int) ≤ 1000000 := by omega
  rw [hn]
  clear hok hle hcap hz hl hk hs HE hn
  go_enter Tryd.func23, Tryd.ntmps23
  go_wp2
  go_step3
  go_wp2
  go_step3
  go_wp2
  go_loopw [11, 3] (fun u t wr => ∃ i : Nat, u = iv (i : Int) ∧ t = iv (-1) ∧ Hid (i ≤ n ∧ (∀ j, j < i → okAt l j) ∧ Below w.heap.size w wr)) (fun u _ _ => n - (intOf u).toNat)
  case atStart => exact ⟨0, rfl, rfl, Nat.zero_le _, fun j hj => absurd hj (by omega), Below.refl _ _⟩
  case round =>
    obtain ⟨i, rfl, rfl, HI⟩ := hrel
    by_cases hi : i = n
    · have q1 : (n : Int) ≤ (i : Int) := by omega
      have HF : Hid (VfP l (-1) ∧ Below w.heap.size w wr) := ⟨.inl ⟨rfl, fun j hj => HI.out.2.1 j (by rw [hi]; rw [HW.out.2.2.1] at hj; exact hj)⟩, HI.out.2.2⟩
      clear hi HI
      go_wp2
      rw [Exit.noGoto_ret]
      go_ret
      exact ⟨-1, rfl, HF.out.1, HF.out.2⟩
    · have hlt : i < n := by have := HI.out.1; omega
      have q1 : (i : Int) < (n : Int) := by omega
      have hlen := HW.out.2.2.1
      obtain ⟨x, hx⟩ : ∃ x, l[i]? = some x := ⟨_, List.getElem?_eq_getElem (by omega)⟩
      obtain ⟨b, off, rfl, hb, hel⟩ := hr (by omega)
      have hxm := List.mem_of_getElem? hx
      have HX : Hid (x.ok ∧ x.sz ∧ l[i]? = some x ∧ wr.rangeAt b (off + i * 36) x.cells ∧ i < n) := ⟨HW.out.1.1 x hxm, HW.out.2.1 x hxm, hx, rangeAt_same (hel i x hx) (HI.out.2.2.block b hb), hlt⟩
      obtain ⟨Z, hZ, HZ⟩ := zero37
      obtain ⟨g5, hg5⟩ : ∃ g, wr.heap.size = g := ⟨_, rfl⟩
      have HG5 : Hid (wr.heap.size = g5 ∧ w.heap.size ≤ g5) := ⟨hg5, by have := HI.out.2.2.size; omega⟩
      have hqs := fun W => run_slice3 b off n cap i (by omega) HW.out.2.2.2.2.2.2.1 W
      clear hi hlt hx hel hb hxm hr hlen
      go_wp2_with (with_reducible change wpList _ _ _ ({ dst := some 15, op := _, type := _, pos := _, after := _, guard := _ } :: _) _ _; refine Hid.out ?_)
      show wpList _ _ _ _ _ _
      refine wpList_load_mid rfl 37 (.tmp 14) rfl b (off + i * 36) rfl x.cells _ HX.out.2.2.2.1 Tryd.underlying37 rfl (info37 HX.out.1) ?_
      go_wp2_with (with_reducible change wpList _ _ _ ({ dst := none, op := Op.store 37 _ _, type := _, pos := _, after := _, guard := _ } :: _) _ _; refine Hid.out ?_)
      show wpList _ _ _ _ _ _
      refine wpList_store_blk rfl 37 (.tmp 5) (.tmp 15) rfl g5 0 37 Z x.cells rfl rfl (by rw [← HG5.out.1]; exact Blk.new wr _ _) (by rw [HZ.out, En.len zE_ok, En.len HX.out.1]; exact Nat.le_refl _) (info37 HX.out.1) (En.one _) ?_
      intro W1 hx1 hg1
      have H1 : Hid (Below w.heap.size w W1 ∧ Blk W1 g5 37 x.cells) := ⟨below_gr (below_tr HI.out.2.2 (below_al _ _)) hg1.out HG5.out.2, blk_all hx1.out (by rw [HZ.out, En.len zE_ok, En.len HX.out.1])⟩
      clear hx1 hg1 hg5
      obtain ⟨g6, hg6⟩ : ∃ g, W1.heap.size = g := ⟨_, rfl⟩
      have HG6 : Hid (W1.heap.size = g6 ∧ w.heap.size ≤ g6 ∧ g5 < g6) := ⟨hg6, by have := H1.out.1.size; omega, by have := H1.out.2.lt; omega⟩
      go_wp2_with (with_reducible change wpList _ _ _ ({ dst := none, op := Op.store 58 _ _, type := _, pos := _, after := _, guard := _ } :: _) _ _; refine Hid.out ?_)
      show wpList _ _ _ _ _ _
      refine wpList_store_blk rfl 58 (.tmp 6) (.tmp 20) rfl g6 0 58 [.slice none 0 0] [.slice (some ⟨b, off, none⟩) i i] rfl rfl (by rw [← HG6.out.1]; exact Blk.new W1 _ _) (by simp) size58 (by intro v hv; rw [List.mem_singleton.1 hv]; rfl) ?_
      intro W2 hx2 hg2
      have H2 : Hid (Below w.heap.size w W2 ∧ Blk W2 g5 37 x.cells ∧ Blk W2 g6 58 [.slice (some ⟨b, off, none⟩) i i]) := by
        have hb2 := H1.out.2.below (below_al W1 (.cells #[.slice none 0 0] 58)) H1.out.2.lt
        exact ⟨below_gr (below_tr H1.out.1 (below_al _ _)) hg2.out HG6.out.2.1, hb2.kept hg2.out (by have := HG6.out.2.2; simp; omega), by simpa using hx2.out⟩
      have HC : Hid (Ch W2 g6 (l.take i)) := by
        refine ⟨_, H2.out.2.2, ?_, by rw [List.length_take]; have := HW.out.2.2.1; have := HW.out.2.2.2.2.2.1; omega, fun e he => HW.out.2.1 e (List.mem_of_mem_take he)⟩
        exact (HW.out.1.take (by have := HW.out.2.2.1; have := HX.out.2.2.2.2; omega)).below H2.out.1
      have c1 : W2.cell? ⟨g5, 1, none⟩ = some (iv x.tick) := H2.out.2.1.cell rfl
      have c2 : W2.cell? ⟨g5, 2, none⟩ = some (.string x.who) := H2.out.2.1.cell rfl
      have c3 : W2.cell? ⟨g5, 3, none⟩ = some (.string x.what) := H2.out.2.1.cell rfl
      clear hx2 hg2 hg6
      go_wp2_with fail
      refine (next_is HC.out (HW.out.2.2.2.1.below H2.out.1) (HW.out.2.2.2.2.1.below H2.out.1) x.tick x.who x.what HX.out.1.2.2.2.1 HX.out.1.2.2.2.2 HX.out.1.2.2.1).mono ?_
      rintro e W3 ⟨rfl, hb3⟩
      have hyok := nxE_ok (l := l.take i) (tick := x.tick) (who := x.who) (what := x.what) (fun e he => HW.out.1.1 e (List.mem_of_mem_take he)) HX.out.1.2.2.2.1 HX.out.1.2.2.2.2 HX.out.1.2.2.1 (by rw [List.length_take]; have := HW.out.2.2.1; have := HW.out.2.2.2.2.2.1; omega)
      obtain ⟨q, hq⟩ : ∃ q, nxE (l.take i) x.tick x.who x.what = q := ⟨_, rfl⟩
      rw [hq] at hyok ⊢
      obtain ⟨y, k⟩ := q
      have HQ : Hid (nxE (l.take i) x.tick x.who x.what = (y, k) ∧ y.ok) := ⟨hq, hyok⟩
      have H3 : Hid (Below w.heap.size w W3 ∧ Blk W3 g5 37 x.cells) := ⟨below_tr H2.out.1 hb3, H2.out.2.1.below hb3 H2.out.2.1.lt⟩
      obtain ⟨g7, hg7⟩ : ∃ g, W3.heap.size = g := ⟨_, rfl⟩
      have HG7 : Hid (W3.heap.size = g7 ∧ w.heap.size ≤ g7 ∧ g5 < g7) := ⟨hg7, by have := H3.out.1.size; omega, by have := H3.out.2.lt; omega⟩
      dsimp only
      clear hb3 hq hyok c1 c2 c3 HC H2 H1
      go_wp2_with (with_reducible change wpList _ _ _ ({ dst := none, op := Op.store 37 _ _, type := _, pos := _, after := _, guard := _ } :: _) _ _; refine Hid.out ?_)
      show wpList _ _ _ _ _ _
      refine wpList_store_blk rfl 37 (.tmp 7) (.tmp 29) rfl g7 0 37 Z y.cells rfl rfl (by rw [← HG7.out.1]; exact Blk.new W3 _ _) (by rw [HZ.out, En.len zE_ok, En.len HQ.out.2]; exact Nat.le_refl _) (info37 HQ.out.2) (En.one _) ?_
      intro W4 hx4 hg4
      have H4 : Hid (Below w.heap.size w W4 ∧ Blk W4 g5 37 x.cells ∧ Blk W4 g7 37 y.cells) := by
        have hb2 := H3.out.2.below (below_al W3 (.cells Z.toArray 37)) H3.out.2.lt
        exact ⟨below_gr (below_tr H3.out.1 (below_al _ _)) hg4.out HG7.out.2.1, hb2.kept hg4.out (by have := HG7.out.2.2; simp; omega), blk_all hx4.out (by rw [HZ.out, En.len zE_ok, En.len HQ.out.2])⟩
      clear hx4 hg4 hg7
      by_cases hk0 : k = 0
      · subst hk0
        obtain ⟨B, hB⟩ : ∃ B, eqEn y x = B := ⟨_, rfl⟩
        have hne := neE y x HQ.out.2 HX.out.1
        rw [hB] at hne
        have HB : Hid (eqEn y x = B) := hB
        clear hB
        go_wp2_with (with_reducible change wpList _ _ _ ({ dst := some 34, op := _, type := _, pos := _, after := _, guard := _ } :: _) _ _; refine Hid.out ?_)
        show wpList _ _ _ _ _ _
        refine wpList_load_mid rfl 37 (.tmp 7) rfl g7 0 rfl y.cells _ H4.out.2.2.range0 Tryd.underlying37 rfl (info37 HQ.out.2) ?_
        go_wp2_with (with_reducible change wpList _ _ _ ({ dst := some 35, op := _, type := _, pos := _, after := _, guard := _ } :: _) _ _; refine Hid.out ?_)
        show wpList _ _ _ _ _ _
        refine wpList_load_mid rfl 37 (.tmp 5) rfl g5 0 rfl x.cells _ H4.out.2.1.range0 Tryd.underlying37 rfl (info37 HX.out.1) ?_
        cases B
        · have HF : Hid (VfP l (i : Int) ∧ Below w.heap.size w W4) := by
            refine ⟨.inr ⟨i, rfl, by have := HW.out.2.2.1; have := HX.out.2.2.2.2; omega, fun hc => ?_, HI.out.2.1⟩, H4.out.1⟩
            have := hc x HX.out.2.2.1
            rw [HQ.out.1] at this
            have e : y = x := congrArg Prod.fst this
            have := (eqEn_iff y x).2 e
            rw [HB.out] at this
            cases this
          go_wp2
          rw [Exit.noGoto_ret]
          go_ret
          exact ⟨_, rfl, HF.out.1, HF.out.2⟩
        · have HF : Hid (i + 1 ≤ n ∧ (∀ j, j < i + 1 → okAt l j) ∧ Below w.heap.size w W4) := by
            refine ⟨by have := HX.out.2.2.2.2; omega, fun j hj => ?_, H4.out.1⟩
            by_cases ej : j = i
            · subst ej
              intro e he
              rw [HX.out.2.2.1] at he
              cases he
              rw [HQ.out.1, (eqEn_iff y x).1 HB.out]
            · exact HI.out.2.1 j (by omega)
          go_wp2
          go_roundw
          case rel => exact ⟨i + 1, rfl, rfl, HF.out⟩
          case measure => show n - (i + 1) < n - i; have := HX.out.2.2.2.2; omega
      · have q3 : (k != 0) = true := by simpa using hk0
        have HF : Hid (VfP l (i : Int) ∧ Below w.heap.size w W4) := by
          refine ⟨.inr ⟨i, rfl, by have := HW.out.2.2.1; have := HX.out.2.2.2.2; omega, fun hc => ?_, HI.out.2.1⟩, H4.out.1⟩
          have := hc x HX.out.2.2.1
          rw [HQ.out.1] at this
          exact hk0 (congrArg Prod.snd this)
        clear hk0
        go_wp2
        rw [Exit.noGoto_ret]
        go_ret
        exact ⟨_, rfl, HF.out.1, HF.out.2⟩
end Go.Proofs.YtmmpafaegmejlaaDoor.Oct

/- Layer 19 (audit): rows of entries of the call's own; slices.Clone, fresh; a log in memory. -/
namespace Go.Proofs.YtmmpafaegmejlaaDoor.Oct
open Go.RowKit Sha
set_option linter.unusedSimpArgs false
set_option linter.unusedVariables false

theorem run_append_zero {P : Program} (w : World) (t ty e : TypeId) (i : TypeInfo) (ht : P.underlying t = some (.slice e)) (hi : P.info? e = some i) (a o : Option Addr) (n cap c : Nat) (hn : n ≤ cap) :
    (Builtin.append_ #[t, t] ty #[.slice a n cap, .slice o 0 c]).run P w = .ok (.slice a n cap) w := by
  cases o with
  | none =>
    cases a with
    | none => simp [Builtin.append_, run_underlying ht, sizeOf, typeInfo, hi, Builtin.lenOf, Builtin.firstCells, hn]
    | some a => simp [Builtin.append_, run_underlying ht, sizeOf, typeInfo, hi, Builtin.lenOf, Builtin.firstCells, hn, storeCells]
  | some o =>
    cases a with
    | none => simp [Builtin.append_, run_underlying ht, sizeOf, typeInfo, hi, Builtin.lenOf, Builtin.firstCells, hn, loadCells, loadCellsFrom]
    | some a => simp [Builtin.append_, run_underlying ht, sizeOf, typeInfo, hi, Builtin.lenOf, Builtin.firstCells, hn, loadCells, loadCellsFrom, storeCells]
theorem sized37 : ∃ i z, Tryd.prog.info? 37 = some i ∧ i.zero = some z ∧ i.size = 36 ∧ i.bytes = 80 ∧ z.cells.size = 36 := by
  have h : (Tryd.prog.info? 37).map (fun i => (i.size, i.bytes, i.zero.map (·.cells.size))) = some (36, 80, some 36) := by kernel_rfl
  obtain ⟨i, hi, he⟩ := Option.map_eq_some_iff.1 h
  simp only [Prod.mk.injEq] at he
  obtain ⟨z, hz, hzs⟩ := Option.map_eq_some_iff.1 he.2.2
  exact ⟨i, z, hi, hz, he.1, he.2.1, hzs⟩
theorem cellsE_len : ∀ {l : List En}, (∀ e ∈ l, e.ok) → (cellsE l).length = l.length * 36
  | [], _ => rfl
  | e :: l, h => by
    have := cellsE_len (l := l) (fun x hx => h x (by simp [hx]))
    have h2 := En.len (h e (by simp))
    show (e.cells ++ cellsE l).length = _
    rw [List.length_append, this, h2, List.length_cons]
    omega
theorem cellsE_one (l : List En) : ∀ v ∈ cellsE l, v.oneCell' = true := by
  intro v hv
  unfold cellsE at hv
  obtain ⟨e, _, hv⟩ := List.mem_flatMap.1 hv
  exact En.one e v hv
theorem cellsE_app (l r : List En) : cellsE (l ++ r) = cellsE l ++ cellsE r := by unfold cellsE; rw [List.flatMap_append]
theorem cellsE_get : ∀ {l : List En} {i : Nat} {e : En}, (∀ e ∈ l, e.ok) → l[i]? = some e → ∀ j v, e.cells[j]? = some v → (cellsE l)[i * 36 + j]? = some v
  | [], i, e, _, h => by simp at h
  | x :: l, 0, e, hok, h => by
    simp at h
    subst h
    intro j v hv
    show (x.cells ++ cellsE l)[0 * 36 + j]? = some v
    rw [Nat.zero_mul, Nat.zero_add, List.getElem?_append_left (List.getElem?_eq_some_iff.1 hv).1]
    exact hv
  | x :: l, i + 1, e, hok, h => by
    simp at h
    intro j v hv
    have ih := cellsE_get (fun y hy => hok y (by simp [hy])) h j v hv
    have hl := En.len (hok x (by simp))
    show (x.cells ++ cellsE l)[(i + 1) * 36 + j]? = some v
    rw [List.getElem?_append_right (by omega), hl, show (i + 1) * 36 + j - 36 = i * 36 + j by omega]
    exact ih
/-- cells of entries that lie one behind the other -/
theorem range_each {w : World} {b off : Nat} {l : List En} (hok : ∀ e ∈ l, e.ok) (h : w.rangeAt b off (cellsE l)) : ∀ i e, l[i]? = some e → w.rangeAt b (off + i * 36) e.cells := by
  intro i e he j v hv
  have := h (i * 36 + j) v (cellsE_get hok he j v hv)
  rw [← Nat.add_assoc] at this
  exact this
theorem range_all : ∀ {l : List En} {w : World} {b off : Nat}, (∀ e ∈ l, e.ok) → (∀ i e, l[i]? = some e → w.rangeAt b (off + i * 36) e.cells) → w.rangeAt b off (cellsE l)
  | [], w, b, off, _, _ => fun j v hj => by simp [cellsE] at hj
  | x :: l, w, b, off, hok, h => by
    have hl := En.len (hok x (by simp))
    have h0 := h 0 x rfl
    have ih := range_all (l := l) (w := w) (b := b) (off := off + 36) (fun y hy => hok y (by simp [hy])) (fun i e he => by
      have := h (i + 1) e (by simpa using he)
      rw [show off + (i + 1) * 36 = off + 36 + i * 36 by omega] at this
      exact this)
    intro j v hj
    change (x.cells ++ cellsE l)[j]? = some v at hj
    by_cases hlt : j < 36
    · rw [List.getElem?_append_left (by omega)] at hj
      have := h0 j v hj
      simpa using this
    · rw [List.getElem?_append_right (by omega), hl] at hj
      have := ih (j - 36) v hj
      rw [show off + 36 + (j - 36) = off + j by omega] at this
      exact this
/-- a row of entries of the call's own, above B -/
def OwE (w : World) (B : Nat) (v : Value) (l : List En) : Prop := w.ownsRow B 37 36 v l.length (cellsE l) ∧ ∀ e ∈ l, e.ok
theorem OwE.esr {w : World} {B : Nat} {v : Value} {l : List En} (h : OwE w B v l) : EsR w v l := by
  refine ⟨h.2, ?_⟩
  rcases h.1.2 with ⟨rfl, h0⟩ | ⟨g, cap, cur, rfl, hB, hb, hn, hc, hsz, ht⟩
  · refine ⟨none, 0, ?_, by omega, by unfold maxLen; omega, fun hp => absurd hp (by omega)⟩
    rw [h0]
  · refine ⟨_, cap, rfl, hn, hc, fun _ => ⟨g, 0, rfl, lt_of_block hb, range_each h.2 fun j u hu => ?_⟩⟩
    rw [Nat.zero_add, cell_of_row w g j _ 37 (0, 0) hb]
    rw [← ht, List.getElem?_take] at hu
    split at hu
    · simpa using hu
    · cases hu
theorem OwE.same {w w' : World} {B : Nat} {v : Value} {l : List En} (h : OwE w B v l) (hs : ∀ g, v.ownBlock = some g → w'.heap[g]? = w.heap[g]?) : OwE w' B v l := by
  refine ⟨⟨h.1.1, ?_⟩, h.2⟩
  rcases h.1.2 with hn | ⟨g, cap, cur, rfl, hB, hb, hr⟩
  · exact .inl hn
  · exact .inr ⟨g, cap, cur, rfl, hB, (hs g rfl).trans hb, hr⟩
theorem OwE.lt {w : World} {B : Nat} {v : Value} {l : List En} (h : OwE w B v l) {g : Nat} (hg : v.ownBlock = some g) : B ≤ g ∧ g < w.heap.size := by
  rcases h.1.2 with ⟨rfl, _⟩ | ⟨g', cap, cur, rfl, hB, hb, hr⟩
  · cases hg
  · cases hg; exact ⟨hB, lt_of_block hb⟩
theorem OwE.below {w w' : World} {B : Nat} {v : Value} {l : List En} (h : OwE w B v l) (hb : Below w.heap.size w w') : OwE w' B v l := h.same fun g hg => hb.block g (h.lt hg).2
theorem OwE.mono {w : World} {B B' : Nat} {v : Value} {l : List En} (h : OwE w B v l) (hB : B' ≤ B) : OwE w B' v l := by
  refine ⟨⟨h.1.1, ?_⟩, h.2⟩
  rcases h.1.2 with hn | ⟨g, cap, cur, rfl, h1, hr⟩
  · exact .inl hn
  · exact .inr ⟨g, cap, cur, rfl, Nat.le_trans hB h1, hr⟩
theorem OwE.nil (w : World) (B : Nat) : OwE w B (.slice none 0 0) [] := ⟨⟨by simp [cellsE], .inl ⟨rfl, rfl⟩⟩, by simp⟩
/-- append to a row of one's own -/
theorem run_app {w : World} {B : Nat} {v : Value} {l : List En} (h : OwE w B v l) (ty : TypeId) {a : Option Addr} {m c : Nat} {q : List En} (hq : EsR w (.slice a m c) q) (hn : l.length + q.length ≤ 1000000) (hB : B ≤ w.heap.size) :
    ∃ v' w', (Builtin.append_ #[27, 27] ty #[v, .slice a m c]).run Tryd.prog w = .ok v' w' ∧ OwE w' B v' (l ++ q) ∧ w.grownBy w' v.ownBlock ∧ (v'.ownBlock = v.ownBlock ∨ v'.ownBlock = some w.heap.size) := by
  obtain ⟨i, z, hi, hz, hs, hby, hzs⟩ := sized37
  obtain ⟨hqk, a', c', e, hle, hc, hr⟩ := hq
  cases e
  by_cases h0 : q.length = 0
  · obtain rfl := List.eq_nil_of_length_eq_zero h0
    obtain ⟨hk, av, cap, rfl, hl2, _⟩ := h.esr
    have := run_append_zero (P := Tryd.prog) w 27 ty 37 i elem27 hi av a l.length cap c hl2
    refine ⟨_, w, this, by rw [List.append_nil]; exact h, World.grownBy.refl _ _, .inl rfl⟩
  · obtain ⟨b, off, rfl, hb, he⟩ := hr (by omega)
    obtain ⟨v', w', hrun, h2, h3, h4, h5⟩ := run_append_own_at (P := Tryd.prog) w B 27 ty 37 i z 36 80 elem27 hi hz hs hby hzs (by omega) v l.length (cellsE l) h.1 ⟨b, off, none⟩ q.length c (cellsE q) (cellsE_len hqk) (fun j u hu => by rw [Addr.add_lit]; exact range_all hqk he j u hu) (cellsE_one q) (by unfold maxLen; omega) (Nat.le_trans (Nat.mul_le_mul_right _ hn) (by omega)) hB
    refine ⟨v', w', hrun, ⟨by rw [List.length_append, cellsE_app]; exact h2, fun e hm => (List.mem_append.1 hm).elim (h.2 e) (hqk e)⟩, h3, h5⟩
theorem wpList_app {ops : Array Oper} {rest : List Oper} {o : Oper} {a : Act} {Q : Exit → Act → World → Prop} (hgd : o.guard = none) (s x : Operand) (hop : o.op = .call { callee := .builtin .append, args := #[s, x], argTypes := #[27, 27] })
    {w : World} {B : Nat} {v : Value} {l : List En} (h : OwE w B v l) {ad : Option Addr} {m c : Nat} {q : List En} (hq : EsR w (.slice ad m c) q) (hn : l.length + q.length ≤ 1000000) (hB : B ≤ w.heap.size) (hsv : a.eval s = v) (hx : a.eval x = .slice ad m c)
    (hk : ∀ v' w', Hid (OwE w' B v' (l ++ q)) → Hid (w.grownBy w' v.ownBlock) → Hid (v'.ownBlock = v.ownBlock ∨ v'.ownBlock = some w.heap.size) → wpList Tryd.prog ops Q rest (a.put o.dst v') w') : wpList Tryd.prog ops Q (o :: rest) a w := by
  refine wpList_plain hgd fun K hK => ?_
  obtain ⟨v', w', hr, h2, h3, h4⟩ := run_app h o.type hq hn hB
  unfold Oper.wp execOp
  simp only [hop, resolve, invoke, builtin, Sem.run_bind, Sem.run_pure, Result.andThen_ok, List.map_toArray, List.map_cons, List.map_nil, hsv, hx, hr]
  exact hK _ _ (hk v' w' h2 h3 h4)
theorem run_bs0 (W : World) : (Instr.buildSlice 27 0 #[]).run Tryd.prog W = .ok (.slice (some ⟨W.heap.size, 0, none⟩) 0 0) (W.alloc (.cells #[] 37)) := by kernel_rfl
theorem own0 (w : World) : OwE (w.alloc (.cells #[] 37)) w.heap.size (.slice (some ⟨w.heap.size, 0, none⟩) 0 0) [] := by
  refine ⟨⟨by simp [cellsE], .inr ⟨w.heap.size, 0, #[], rfl, Nat.le_refl _, heap_alloc_new _ _, ?_⟩⟩, by simp⟩
  refine ⟨by simp, by unfold maxLen; omega, by simp, by simp [cellsE]⟩
theorem below_own {w w1 w2 : World} {g : Option Nat} (h : Below w.heap.size w w1) (k : w1.grownBy w2 g) (hg : ∀ j, g = some j → w.heap.size ≤ j) : Below w.heap.size w w2 := by
  obtain ⟨a1, a2, a3, a4, a5⟩ := k
  obtain ⟨b1, b2, b3, b4, b5⟩ := h
  exact ⟨a1.trans b1, a2.trans b2, a3.trans b3, Nat.le_trans b4 a4, fun k hk => (a5 k (Nat.lt_of_lt_of_le hk b4) (fun e => by have := hg k e.symm; omega)).trans (b5 k hk)⟩
theorem nil27 (n c n' c' : Nat) (W : World) : (binOp BinOp.eql 27 (.slice none n c) (.slice none n' c')).run Tryd.prog W = .ok (.bool true) W := by kernel_rfl
theorem some27 (ad : Addr) (n c : Nat) (W : World) : (binOp BinOp.eql 27 (.slice (some ad) n c) (.slice none 0 0)).run Tryd.prog W = .ok (.bool false) W := by kernel_rfl
set_option maxRecDepth 100000 in
theorem fresh_is {w : World} {v : Value} {l : List En} (h : EsR w v l) (hl : l.length ≤ 1000000) : Calls Tryd.prog 22 #[v] w fun e w' => ∃ v', e = .returned v' ∧ Hid (OwE w' w.heap.size v' l) ∧ Below w.heap.size w w' := by
  have HE : Hid (EsR w v l) := h
  obtain ⟨hok, a, cap, rfl, hle, hcap, hr⟩ := h
  have hbs := run_bs0
  obtain ⟨n, hn⟩ : ∃ n, l.length = n := ⟨_, rfl⟩
  have HN : Hid (l.length = n ∧ n ≤ 1000000) := ⟨hn, by omega⟩
  rw [hn] at HE ⊢
  clear hok hle hcap hr hn hl
  go_enter Tryd.func22, Tryd.ntmps22
  go_wp2_with (with_reducible change wpList _ _ _ ({ dst := some 5, op := _, type := _, pos := _, after := _, guard := _ } :: _) _ _; refine Hid.out ?_)
  show wpList _ _ _ _ _ _
  refine wpList_app rfl (.tmp 3) (.tmp 4) rfl (own0 w) (HE.out.below (below_al w _)) (by have := HN.out; simp; omega) (below_al w _).size rfl rfl ?_
  intro v1 W1 ho hg _
  have H1 : Hid (OwE W1 w.heap.size v1 l ∧ Below w.heap.size w W1) := ⟨by simpa using ho.out, below_own (below_al w _) hg.out (fun j hj => by cases hj; exact Nat.le_refl _)⟩
  clear ho hg
  go_wp2
  go_ret
  exact ⟨_, rfl, H1.out.1, H1.out.2⟩
set_option maxRecDepth 100000 in
theorem clone_is {w : World} {v : Value} {l : List En} (h : EsR w v l) (hl : l.length ≤ 1000000) : Calls Tryd.prog 26 #[v] w fun e w' => ∃ v', e = .returned v' ∧ Hid (OwE w' w.heap.size v' l) ∧ Below w.heap.size w w' := by
  have HE : Hid (EsR w v l) := h
  obtain ⟨hok, a, cap, rfl, hle, hcap, hr⟩ := h
  have hbs := run_bs0
  obtain ⟨n, hn⟩ : ∃ n, l.length = n := ⟨_, rfl⟩
  have HN : Hid (l.length = n ∧ n ≤ 1000000) := ⟨hn, by omega⟩
  rw [hn] at HE ⊢
  cases a with
  | none =>
    have hl0 : l = [] := by
      cases hc : l.length with
      | zero => exact List.eq_nil_of_length_eq_zero hc
      | succ k => obtain ⟨b, off, e, _⟩ := hr (by omega); cases e
    have hq := nil27 n cap 0 0
    have HF : Hid (OwE w w.heap.size (.slice none 0 0) l) := by rw [hl0]; exact OwE.nil _ _
    clear hok hle hcap hr hn hl hl0
    go_enter Tryd.func26, Tryd.ntmps26
    go_wp2
    go_ret
    exact ⟨_, rfl, HF.out, Below.refl _ _⟩
  | some ad =>
    have hq := some27 ad n cap
    clear hok hle hcap hr hn hl
    go_enter Tryd.func26, Tryd.ntmps26
    go_wp2_with (with_reducible change wpList _ _ _ ({ dst := some 7, op := _, type := _, pos := _, after := _, guard := _ } :: _) _ _; refine Hid.out ?_)
    show wpList _ _ _ _ _ _
    refine wpList_app rfl (.tmp 5) (.tmp 6) rfl (own0 w) (HE.out.below (below_al w _)) (by have := HN.out; simp; omega) (below_al w _).size rfl rfl ?_
    intro v1 W1 ho hg _
    have H1 : Hid (OwE W1 w.heap.size v1 l ∧ Below w.heap.size w W1) := ⟨by simpa using ho.out, below_own (below_al w _) hg.out (fun j hj => by cases hj; exact Nat.le_refl _)⟩
    clear ho hg
    go_wp2
    go_ret
    exact ⟨_, rfl, H1.out.1, H1.out.2⟩
end Go.Proofs.YtmmpafaegmejlaaDoor.Oct

/- Layer 19 (audit): a log in memory: New, Head, Entries, Load. -/
namespace Go.Proofs.YtmmpafaegmejlaaDoor.Oct
open Go.RowKit Sha
set_option linter.unusedSimpArgs false
set_option linter.unusedVariables false

/-- a chain's head as a value -/
abbrev fnH (c : Nat) : Value := .func (.func 37) #[.pointer (some ⟨c, 0, none⟩)] #[]
/-- a log in memory -/
structure Lg (w : World) (B L c : Nat) (v : Value) (l : List En) : Prop where
  lg : Blk w L 53 [.pointer (some ⟨c, 0, none⟩), fnH c]
  ch : Blk w c 58 [v]
  row : OwE w B v l
  sz : ∀ e ∈ l, e.sz
  bl : B ≤ L
  bc : B ≤ c
  ne : L ≠ c
  nl : v.ownBlock ≠ some L
  nc : v.ownBlock ≠ some c
  len : l.length ≤ 5000
theorem Lg.below {w w' : World} {B L c : Nat} {v : Value} {l : List En} (h : Lg w B L c v l) (hb : Below w.heap.size w w') : Lg w' B L c v l :=
  ⟨h.lg.below hb h.lg.lt, h.ch.below hb h.ch.lt, h.row.below hb, h.sz, h.bl, h.bc, h.ne, h.nl, h.nc, h.len⟩
theorem Lg.same {w w' : World} {B L c : Nat} {v : Value} {l : List En} (h : Lg w B L c v l) (h1 : w'.heap[L]? = w.heap[L]?) (h2 : w'.heap[c]? = w.heap[c]?) (h3 : ∀ g, v.ownBlock = some g → w'.heap[g]? = w.heap[g]?) : Lg w' B L c v l :=
  ⟨h1.trans h.lg, h2.trans h.ch, h.row.same h3, h.sz, h.bl, h.bc, h.ne, h.nl, h.nc, h.len⟩
theorem Lg.chain {w : World} {B L c : Nat} {v : Value} {l : List En} (h : Lg w B L c v l) : Ch w c l := ⟨v, h.ch, h.row.esr, by have := h.len; omega, h.sz⟩
theorem run_build53 (c : Nat) (W : World) : (Instr.build 53 #[(0, .pointer (some ⟨c, 0, none⟩)), (1, fnH c)]).run Tryd.prog W = .ok (.agg #[.pointer (some ⟨c, 0, none⟩), fnH c]) W := by kernel_rfl
set_option maxRecDepth 100000 in
theorem logOf_is {w : World} {B : Nat} {v : Value} {l : List En} (h : OwE w B v l) (hz : ∀ e ∈ l, e.sz) (hl : l.length ≤ 5000) (hB : B ≤ w.heap.size) : Calls Tryd.prog 25 #[.agg #[v]] w fun e w' => ∃ L c, e = .returned (.pointer (some ⟨L, 0, none⟩)) ∧ Hid (Lg w' B L c v l ∧ w.heap.size ≤ L ∧ w.heap.size ≤ c) ∧ Below w.heap.size w w' := by
  obtain ⟨c, hc⟩ : ∃ c, w.heap.size = c := ⟨_, rfl⟩
  obtain ⟨A, hA⟩ : ∃ A, w.alloc (.cells #[v] 58) = A := ⟨_, rfl⟩
  obtain ⟨L, hL⟩ : ∃ L, A.heap.size = L := ⟨_, rfl⟩
  obtain ⟨A2, hA2⟩ : ∃ A2, A.alloc (.cells #[.pointer (some ⟨c, 0, none⟩), fnH c] 53) = A2 := ⟨_, rfl⟩
  have hb1 : Below w.heap.size w A := by rw [← hA]; exact below_al _ _
  have hb2 : Below A.heap.size A A2 := by rw [← hA2]; exact below_al _ _
  have hcb : Blk A c 58 [v] := by rw [← hA, ← hc]; exact Blk.new w _ _
  have hLb : Blk A2 L 53 [.pointer (some ⟨c, 0, none⟩), fnH c] := by rw [← hA2, ← hL]; exact Blk.new A _ _
  have hcl := hcb.lt
  have HF : Hid (Lg A2 B L c v l ∧ Below w.heap.size w A2 ∧ w.heap.size ≤ L ∧ w.heap.size ≤ c) := by
    refine ⟨⟨hLb, hcb.below hb2 hcb.lt, (h.below hb1).below hb2, hz, by omega, by omega, by omega, fun e => ?_, fun e => ?_, hl⟩, below_tr hb1 hb2, by omega, by omega⟩
    · have := (h.lt e).2; omega
    · have := (h.lt e).2; omega
  have hbu := run_build53 c
  clear h hz hl hB hb1 hb2 hcb hLb hcl
  go_enter Tryd.func25, Tryd.ntmps25
  go_wp2
  go_ret
  exact ⟨L, c, rfl, ⟨HF.out.1, HF.out.2.2.1, HF.out.2.2.2⟩, HF.out.2.1⟩
set_option maxRecDepth 100000 in
theorem new_log (w : World) : Calls Tryd.prog 11 #[] w fun e w' => ∃ L c, e = .returned (.pointer (some ⟨L, 0, none⟩)) ∧ Hid (Lg w' w.heap.size L c (.slice none 0 0) []) ∧ Below w.heap.size w w' := by
  go_enter Tryd.func11, Tryd.ntmps11
  go_wp2_with fail
  refine (logOf_is (OwE.nil w w.heap.size) (by simp) (by simp) (Nat.le_refl _)).mono ?_
  rintro e W ⟨L, c, rfl, hh, hb⟩
  have HF : Hid (Lg W w.heap.size L c (.slice none 0 0) [] ∧ Below w.heap.size w W) := ⟨hh.out.1, hb⟩
  clear hh hb
  go_wp2
  go_ret
  exact ⟨L, c, rfl, HF.out.1, HF.out.2⟩
set_option maxRecDepth 100000 in
theorem made_is {w : World} {B L c : Nat} {v : Value} {l : List En} (h : Lg w B L c v l) : Calls Tryd.prog 27 #[.pointer (some ⟨L, 0, none⟩)] w fun e w' => e = .returned (.bool true) ∧ w = w' := by
  have c0 := h.lg.cell (i := 0) rfl
  clear h
  go_enter Tryd.func27, Tryd.ntmps27
  go_wp2
  go_ret
  exact ⟨rfl, rfl⟩
set_option maxRecDepth 100000 in
theorem entries_is {w : World} {B L c : Nat} {v : Value} {l : List En} (h : Lg w B L c v l) : Calls Tryd.prog 13 #[.pointer (some ⟨L, 0, none⟩)] w fun e w' => ∃ v', e = .returned v' ∧ Hid (OwE w' w.heap.size v' l) ∧ Below w.heap.size w w' := by
  have H : Hid (Lg w B L c v l) := h
  have c0 := h.lg.cell (i := 0) rfl
  have c1 := h.ch.cell (i := 0) rfl
  clear h
  go_enter Tryd.func13, Tryd.ntmps13
  go_wp2_with fail
  refine (made_is H.out).mono ?_
  rintro e X ⟨rfl, rfl⟩
  go_wp2_with fail
  refine (clone_is H.out.row.esr (by have := H.out.len; omega)).mono ?_
  rintro e W ⟨v', rfl, ho, hb⟩
  have HF : Hid (OwE W w.heap.size v' l ∧ Below w.heap.size w W) := ⟨ho.out, hb⟩
  clear ho hb
  go_wp2
  go_ret
  exact ⟨_, rfl, HF.out.1, HF.out.2⟩
set_option maxRecDepth 100000 in
theorem headL_is {w : World} {B L c : Nat} {v : Value} {l : List En} (h : Lg w B L c v l) (hk : KT w) (hs : ST w) (D : List UInt8) (hD : hdE l = D) : Calls Tryd.prog 16 #[.pointer (some ⟨L, 0, none⟩)] w fun e w' => e = .returned (.agg (U D).toArray) ∧ Below w.heap.size w w' := by
  obtain ⟨Z, hZ, HZ⟩ := zero35
  obtain ⟨r, hr⟩ : ∃ r, w.heap.size = r := ⟨_, rfl⟩
  obtain ⟨A, hA⟩ : ∃ A, w.alloc (.cells Z.toArray 35) = A := ⟨_, rfl⟩
  have hb1 : Below w.heap.size w A := by rw [← hA]; exact below_al _ _
  have hrb : Blk A r 35 Z := by rw [← hA, ← hr]; exact Blk.new w _ _
  have H : Hid (Lg A B L c v l ∧ Below w.heap.size w A ∧ Blk A r 35 Z ∧ KT A ∧ ST A ∧ w.heap.size ≤ r ∧ hdE l = D ∧ D.length = 32) := ⟨h.below hb1, hb1, hrb, hk.below hb1, hs.below hb1, by omega, hD, by rw [← hD]; exact hdE_len l⟩
  have c1 := H.out.1.lg.cell (i := 1) rfl
  clear h hk hs hD hb1 hrb
  go_enter Tryd.func16, Tryd.ntmps16
  go_wp2_with fail
  refine (made_is H.out.1).mono ?_
  rintro e X ⟨rfl, rfl⟩
  go_wp2_with fail
  refine (head_is H.out.1.chain H.out.2.2.2.1 H.out.2.2.2.2.1 D H.out.2.2.2.2.2.2.1).mono ?_
  rintro e W ⟨rfl, hb⟩
  have H2 : Hid (Below w.heap.size w W ∧ Blk W r 35 Z) := ⟨below_tr H.out.2.1 hb, H.out.2.2.1.below hb H.out.2.2.1.lt⟩
  clear hb hA hr
  go_wp2_with (with_reducible change wpList _ _ _ ({ dst := none, op := Op.store 35 _ _, type := _, pos := _, after := _, guard := _ } :: _) _ _; refine Hid.out ?_)
  show wpList _ _ _ _ _ _
  refine wpList_store_blk rfl 35 (.tmp 2) (.tmp 11) rfl r 0 35 Z (U D) rfl rfl H2.out.2 (by rw [HZ.out, U_length, H.out.2.2.2.2.2.2.2, zb_length]; exact Nat.le_refl _) (by rw [U_length, H.out.2.2.2.2.2.2.2]; exact size35) (U_one _) ?_
  intro W7 hx7 hg7
  have H8 : Hid (Below w.heap.size w W7 ∧ Blk W7 r 35 (U D)) := ⟨below_gr H2.out.1 hg7.out H.out.2.2.2.2.2.1, blk_all hx7.out (by rw [HZ.out, U_length, H.out.2.2.2.2.2.2.2, zb_length])⟩
  clear hx7 hg7
  go_wp2
  exact ret_c rfl rfl rfl H8.out.2 Tryd.underlying35 rfl (by rw [U_length, H.out.2.2.2.2.2.2.2]; exact size35) ⟨rfl, H8.out.1⟩
def LoadP (w : World) (l : List En) (e : Ending) (w' : World) : Prop :=
  ((∃ i, i < l.length ∧ ¬ okAt l i) ∧ e = .returned (.tuple #[.pointer none, iv 80]) ∧ Below w.heap.size w w') ∨
  ((∀ i, i < l.length → okAt l i) ∧ ∃ L c v, e = .returned (.tuple #[.pointer (some ⟨L, 0, none⟩), iv 0]) ∧ Lg w' w.heap.size L c v l ∧ Below w.heap.size w w')
set_option maxRecDepth 100000 in
theorem load_is {w : World} {v : Value} {l : List En} (h : EsR w v l) (hz : ∀ e ∈ l, e.sz) (hl : l.length ≤ 5000) (hk : KT w) (hs : ST w) : Calls Tryd.prog 12 #[v] w (LoadP w l) := by
  have H : Hid (EsR w v l ∧ (∀ e ∈ l, e.sz) ∧ l.length ≤ 5000 ∧ KT w ∧ ST w) := ⟨h, hz, hl, hk, hs⟩
  clear h hz hl hk hs
  go_enter Tryd.func12, Tryd.ntmps12
  go_wp2_with fail
  refine (verify_is H.out.1 H.out.2.1 (by have := H.out.2.2.1; omega) H.out.2.2.2.1 H.out.2.2.2.2).mono ?_
  rintro e W ⟨k, rfl, hv, hb⟩
  rcases hv.out with ⟨rfl, ha⟩ | ⟨i, rfl, h1, h2, h3⟩
  · have H2 : Hid ((∀ i, i < l.length → okAt l i) ∧ Below w.heap.size w W ∧ EsR W v l) := ⟨ha, hb, H.out.1.below hb⟩
    clear ha hb hv
    go_wp2_with fail
    refine (clone_is H2.out.2.2 (by have := H.out.2.2.1; omega)).mono ?_
    rintro e W2 ⟨v', rfl, ho, hb⟩
    obtain ⟨av, cv, hv'⟩ : ∃ a c, v' = .slice a l.length c := by
      obtain ⟨_, a, c, h, _⟩ := ho.out.esr
      exact ⟨a, c, h⟩
    subst hv'
    have H3 : Hid (OwE W2 W.heap.size (.slice av l.length cv) l ∧ Below w.heap.size w W2 ∧ W.heap.size ≤ W2.heap.size ∧ w.heap.size ≤ W.heap.size) := ⟨ho.out, below_tr H2.out.2.1 hb, hb.size, H2.out.2.1.size⟩
    clear ho hb
    go_wp2_with fail
    refine (logOf_is (H3.out.1.mono H3.out.2.2.2) H.out.2.1 H.out.2.2.1 (Nat.le_trans H3.out.2.2.2 H3.out.2.2.1)).mono ?_
    rintro e W3 ⟨L, c, rfl, hh, hb⟩
    have H4 : Hid (Lg W3 w.heap.size L c (.slice av l.length cv) l ∧ Below w.heap.size w W3) := ⟨hh.out.1, below_tr H3.out.2.1 hb⟩
    clear hh hb
    go_wp2
    go_ret2
    exact Or.inr ⟨H2.out.1, L, c, _, rfl, H4.out.1, H4.out.2⟩
  · have H2 : Hid ((∃ i, i < l.length ∧ ¬ okAt l i) ∧ Below w.heap.size w W) := ⟨⟨i, h1, h2⟩, hb⟩
    have q : (0 : Int) ≤ (i : Int) := by omega
    clear h1 h2 h3 hb hv
    go_wp2
    go_ret2
    exact Or.inl ⟨H2.out.1, rfl, H2.out.2⟩
end Go.Proofs.YtmmpafaegmejlaaDoor.Oct

/- Layer 19 (audit): Append: what lies there, and its drawn region. -/
namespace Go.Proofs.YtmmpafaegmejlaaDoor.Oct
open Go.RowKit Sha
set_option linter.unusedSimpArgs false
set_option linter.unusedVariables false

structure Keep (S : Nat → Prop) (w w' : World) : Prop where
  os : w'.os = w.os
  tape : w'.tape = w.tape
  output : w'.output = w.output
  size : w.heap.size ≤ w'.heap.size
  block : ∀ k, k < w.heap.size → ¬ S k → w'.heap[k]? = w.heap[k]?
theorem Keep.refl (S : Nat → Prop) (w : World) : Keep S w w := ⟨rfl, rfl, rfl, Nat.le_refl _, fun _ _ _ => rfl⟩
theorem Keep.trans {S T : Nat → Prop} {w w1 w2 : World} (h : Keep S w w1) (k : Keep T w1 w2) (hs : ∀ j, T j → j < w.heap.size → S j) : Keep S w w2 :=
  ⟨k.os.trans h.os, k.tape.trans h.tape, k.output.trans h.output, Nat.le_trans h.size k.size, fun j hj hn => (k.block j (Nat.lt_of_lt_of_le hj h.size) (fun ht => hn (hs j ht hj))).trans (h.block j hj hn)⟩
theorem Keep.grown {S : Nat → Prop} {w w' : World} {b : Nat} (h : w.grownBy w' (some b)) (hb : S b) : Keep S w w' := ⟨h.os, h.tape, h.output, h.size, fun k hk hn => h.block k hk (fun e => hn (by cases e; exact hb))⟩
theorem Keep.grownO {S : Nat → Prop} {w w' : World} {r : Option Nat} (h : w.grownBy w' r) (hb : ∀ b, r = some b → S b) : Keep S w w' := ⟨h.os, h.tape, h.output, h.size, fun k hk hn => h.block k hk (fun e => hn (hb k e.symm))⟩
theorem Keep.below {S : Nat → Prop} {w w' : World} (h : Below w.heap.size w w') : Keep S w w' := ⟨h.os, h.tape, h.output, h.size, fun k hk _ => h.block k hk⟩
theorem Keep.toBelow {S : Nat → Prop} {B : Nat} {w w' : World} (h : Keep S w w') (hB : B ≤ w.heap.size) (hs : ∀ k, S k → B ≤ k) : Below B w w' :=
  ⟨h.os, h.tape, h.output, h.size, fun k hk => h.block k (by omega) (fun e => by have := hs k e; omega)⟩
theorem Keep.mono {S T : Nat → Prop} {w w' : World} (h : Keep S w w') (hs : ∀ j, j < w.heap.size → S j → T j) : Keep T w w' := ⟨h.os, h.tape, h.output, h.size, fun k hk hn => h.block k hk (fun e => hn (hs k hk e))⟩
theorem Keep.drew {S : Nat → Prop} {w w' : World} (h : Keep S w w') : Keep S w w'.drew := ⟨h.os, h.tape, h.output, h.size, h.block⟩
theorem Keep.blk {S : Nat → Prop} {w w' : World} (h : Keep S w w') {b : Nat} {t : TypeId} {L : List Value} (hb : Blk w b t L) (hn : ¬ S b) : Blk w' b t L := (h.block b hb.lt hn).trans hb
theorem fold_set : ∀ (cs : List Value) (k : Nat) (A : Array Value), A.size = k + cs.length → ((cs.zipIdx k).foldl (fun a x => a.setIfInBounds x.2 x.1) A).toList = A.toList.take k ++ cs
  | [], k, A, h => by
    rw [List.take_of_length_le (by simp at h ⊢; omega)]; simp
  | c :: cs, k, A, h => by
    rw [List.zipIdx_cons, List.foldl_cons, fold_set cs (k + 1) _ (by simp at h ⊢; omega)]
    have hk : k < A.toList.length := by simp at h ⊢; omega
    simp only [Array.toList_setIfInBounds]
    rw [List.take_succ_eq_append_getElem (by simpa using hk), List.take_set_of_le (Nat.le_refl _)]
    simp
theorem run_bs1 (cs : List Value) (hl : cs.length = 36) (W : World) :
    (Instr.buildSlice 27 1 #[(0, .agg cs.toArray)]).run Tryd.prog W = .ok (.slice (some ⟨W.heap.size, 0, none⟩) 1 1) (W.alloc (.cells cs.toArray 37)) := by
  obtain ⟨i, z, hi, hz, hs1, hby, hzs⟩ := sized37
  have e : ∀ A : Array Value, A.size = 36 → List.foldl (fun cs (x : Value × Nat) => cs.setIfInBounds x.2 x.1) A cs.zipIdx = cs.toArray := by
    intro A hA
    apply Array.toList_inj.1
    rw [fold_set cs 0 A (by rw [hl, hA])]
    simp
  simp [Instr.buildSlice, run_underlying elem27, sizeOf, typeInfo, hi, hs1, zeroValue, hz, Instr.fill, Value.cells, hl, hzs, e]
  simp [newRow]
theorem keep_al {S : Nat → Prop} {A V : World} (h : Keep S A V) (o : Obj) : Keep S A (V.alloc o) := h.trans (Keep.below (S := S) (below_al V o)) (fun _ hj _ => hj)
def SC (c : Nat) (v : Value) (k : Nat) : Prop := k = c ∨ v.ownBlock = some k
theorem esr_one {W : World} {b : Nat} {x : En} (hx : x.ok) (h : W.rangeAt b 0 x.cells) (hb : b < W.heap.size) : EsR W (.slice (some ⟨b, 0, none⟩) 1 1) [x] := by
  refine ⟨fun e he => by rw [List.mem_singleton.1 he]; exact hx, some ⟨b, 0, none⟩, 1, rfl, Nat.le_refl _, by unfold maxLen; omega, fun _ => ⟨b, 0, rfl, hb, fun i e he => ?_⟩⟩
  cases i with
  | zero => simp at he; subst he; simpa using h
  | succ i => simp at he
section
variable {ops : Array Oper} {o : Oper} {a : Act} {w : World} {K : Act → World → Prop} {Q : Exit → Act → World → Prop} {E : Prop}
theorem step_bs (hw : Region.wanted o (yielded ops a.tmps) = true) (t : TypeId) (x : Operand) (u : Value) (hop : o.op = .buildSlice t 1 #[(0, x)]) (hx : a.eval x = u) {v : Value} {w' : World} (hrun : (Instr.buildSlice t 1 #[(0, u)]).run Tryd.prog w = .ok v w')
    (hk : K (a.put o.dst v) w') : if Region.wanted o (yielded ops a.tmps) = true then Oper.wp Tryd.prog o a w K Q else E := by
  rw [if_pos hw]
  unfold Oper.wp execOp
  simp [hop, hx, hrun, Result.andThen]
  exact hk
theorem step_app (hw : Region.wanted o (yielded ops a.tmps) = true) (s x : Operand) (hop : o.op = .call { callee := .builtin .append, args := #[s, x], argTypes := #[27, 27] })
    {B : Nat} {v : Value} {l : List En} (h : OwE w B v l) {ad : Option Addr} {m c : Nat} {q : List En} (hq : EsR w (.slice ad m c) q) (hn : l.length + q.length ≤ 1000000) (hB : B ≤ w.heap.size) (hsv : a.eval s = v) (hx : a.eval x = .slice ad m c)
    (hk : ∀ v' w', Hid (OwE w' B v' (l ++ q)) → Hid (w.grownBy w' v.ownBlock) → Hid (v'.ownBlock = v.ownBlock ∨ v'.ownBlock = some w.heap.size) → K (a.put o.dst v') w') : if Region.wanted o (yielded ops a.tmps) = true then Oper.wp Tryd.prog o a w K Q else E := by
  rw [if_pos hw]
  obtain ⟨v', w', hr, h2, h3, h4⟩ := run_app h o.type hq hn hB
  unfold Oper.wp execOp
  simp only [hop, resolve, invoke, builtin, Sem.run_bind, Sem.run_pure, Result.andThen_ok, List.map_toArray, List.map_cons, List.map_nil, hsv, hx, hr]
  exact hk v' w' h2 h3 h4
theorem step_st1 (hw : Region.wanted o (yielded ops a.tmps) = true) (t : TypeId) (x y : Operand) (hop : o.op = .store t x y) (b k : Nat) (v : Value) (T : TypeId) (L : List Value) (hx : a.eval x = .pointer (some ⟨b, k, none⟩)) (hy : a.eval y = v) (hb : Blk w b T L) (hkl : k < L.length)
    (hi : (Tryd.prog.info? t).map (·.size) = some 1) (h1 : v.cells = #[v]) (h2 : v.oneCell' = true) (hk : K (a.put o.dst undef) (w.setCell ⟨b, k, none⟩ v)) : if Region.wanted o (yielded ops a.tmps) = true then Oper.wp Tryd.prog o a w K Q else E := by
  rw [if_pos hw]
  obtain ⟨i, hi2, hi3⟩ := Option.map_eq_some_iff.1 hi
  obtain ⟨u, hu⟩ : ∃ u, L[k]? = some u := ⟨_, List.getElem?_eq_getElem hkl⟩
  have hc := hb.cell hu
  have hf := hb.free k
  unfold Oper.wp execOp
  simp [hop, hx, hy, Instr.storeAt, Instr.sureAddr, storeVar, sizeOf, typeInfo, hi2, hi3, h1, storeCells, run_store _ _ _ _ _ h2, stored, hc, hf, Addr.add_lit, Result.andThen]
  exact hk
end
theorem ow_slice {w : World} {B : Nat} {v : Value} {l : List En} (h : OwE w B v l) : ∃ a c, v = .slice a l.length c := by
  obtain ⟨_, a, c, h, _⟩ := h.esr
  exact ⟨a, c, h⟩
set_option maxRecDepth 100000 in
set_option maxHeartbeats 4000000 in
theorem ap6 {Q : Exit → Act → World → Prop} {x1 x2 x3 x4 x5 x6 x7 x8 x9 x11 x12 x13 x14 x15 x16 x17 x18 x19 x20 x21 x22 x23 x24 x25 x26 x27 x28 x29 x30 x31 x32 x33 x34 x35 x36 x37 x38 x39 x40 x41 x42 x43 x44 x45 x46 x47 : Value} {ds : List Deferred} {A : World} {L c q B : Nat} {v : Value} {l : List En} {x : En}
    (HL : Hid (L < A.heap.size ∧ ¬ SC c v L ∧ q < A.heap.size ∧ ¬ SC c v q)) (cL : A.cell? ⟨L, 0, none⟩ = some (.pointer (some ⟨c, 0, none⟩))) (HR : Hid (A.rangeAt q 0 x.cells)) (HX : Hid x.ok) (HXC : Hid (Blk A c 58 [v])) (HO : Hid (OwE A B v l)) (HN : Hid (l.length ≤ 5000)) (HBB : Hid (B ≤ A.heap.size)) (HNC : Hid (v.ownBlock ≠ some c)) (HCL : Hid (c < A.heap.size))
    (hQ : ∀ V1 v2 nb, Blk V1 c 58 [v2] → OwE V1 B v2 (l ++ [x]) → (v2.ownBlock = v.ownBlock ∨ ∃ g, v2.ownBlock = some g ∧ A.heap.size ≤ g) → Keep (SC c v) A V1 → Q .normal { tmps := #[.pointer (some ⟨L, 0, none⟩), x1, x2, x3, x4, x5, x6, x7, x8, x9, .pointer (some ⟨q, 0, none⟩), x11, x12, x13, x14, x15, x16, x17, x18, x19, x20, x21, x22, x23, x24, x25, x26, x27, x28, x29, x30, .pointer (some ⟨L, 0, none⟩), .pointer (some ⟨L, 0, none⟩), .pointer (some ⟨L, 0, none⟩), .pointer (some ⟨c, 0, none⟩), .pointer (some ⟨L, 0, none⟩), .pointer (some ⟨L, 0, none⟩), .pointer (some ⟨L, 0, none⟩), .pointer (some ⟨c, 0, none⟩), .pointer (some ⟨c, 0, none⟩), .pointer (some ⟨c, 0, none⟩), v, .agg x.cells.toArray, .slice (some ⟨nb, 0, none⟩) 1 1, v2, .pointer (some ⟨c, 0, none⟩), .pointer (some ⟨c, 0, none⟩), x47], defers := ds } V1) :
    (Code.region 6 #[{ dst := some 31, op := Op.move (Operand.tmp 0), type := 25, pos := "audit.go:34", after := #[], guard := none }, { dst := some 32, op := Op.nilCheck (Operand.tmp 31), type := 0, pos := "audit.go:34", after := #[{ on := 0, ground := Ground.data }], guard := none }, { dst := some 33, op := Op.fieldAddr 53 (Operand.tmp 32) 0, type := 0, pos := "audit.go:34", after := #[{ on := 1, ground := Ground.data }], guard := none }, { dst := some 34, op := Op.load 51 (Operand.tmp 33), type := 51, pos := "audit.go:34", after := #[{ on := 2, ground := Ground.data }], guard := none }, { dst := some 35, op := Op.move (Operand.tmp 0), type := 25, pos := "audit.go:34", after := #[], guard := none }, { dst := some 36, op := Op.nilCheck (Operand.tmp 35), type := 0, pos := "audit.go:34", after := #[{ on := 4, ground := Ground.data }], guard := none }, { dst := some 37, op := Op.fieldAddr 53 (Operand.tmp 36) 0, type := 0, pos := "audit.go:34", after := #[{ on := 5, ground := Ground.data }], guard := none }, { dst := some 38, op := Op.load 51 (Operand.tmp 37), type := 51, pos := "audit.go:34", after := #[{ on := 6, ground := Ground.data }], guard := none }, { dst := some 39, op := Op.nilCheck (Operand.tmp 38), type := 0, pos := "audit.go:34", after := #[{ on := 7, ground := Ground.data }], guard := none }, { dst := some 40, op := Op.fieldAddr 58 (Operand.tmp 39) 0, type := 0, pos := "audit.go:34", after := #[{ on := 8, ground := Ground.data }], guard := none }, { dst := some 41, op := Op.load 27 (Operand.tmp 40), type := 27, pos := "audit.go:34", after := #[{ on := 9, ground := Ground.data }], guard := none }, { dst := some 42, op := Op.load 37 (Operand.tmp 10), type := 37, pos := "audit.go:34", after := #[], guard := none }, { dst := some 43, op := Op.buildSlice 27 1 #[(0, Operand.tmp 42)], type := 27, pos := "audit.go:34", after := #[{ on := 11, ground := Ground.data }], guard := none }, { dst := some 44, op := Op.call { callee := Callee.builtin Builtin.append, args := #[Operand.tmp 41, Operand.tmp 43], argTypes := #[27, 27] }, type := 27, pos := "audit.go:34", after := #[{ on := 10, ground := Ground.data }, { on := 12, ground := Ground.data }], guard := none }, { dst := some 45, op := Op.nilCheck (Operand.tmp 34), type := 0, pos := "audit.go:34", after := #[{ on := 3, ground := Ground.data }, { on := 0, ground := Ground.phase }, { on := 1, ground := Ground.phase }, { on := 2, ground := Ground.phase }, { on := 3, ground := Ground.phase }, { on := 4, ground := Ground.phase }, { on := 5, ground := Ground.phase }, { on := 6, ground := Ground.phase }, { on := 7, ground := Ground.phase }, { on := 8, ground := Ground.phase }, { on := 9, ground := Ground.phase }, { on := 10, ground := Ground.phase }, { on := 11, ground := Ground.phase }, { on := 12, ground := Ground.phase }, { on := 13, ground := Ground.phase }], guard := none }, { dst := some 46, op := Op.fieldAddr 58 (Operand.tmp 45) 0, type := 0, pos := "audit.go:34", after := #[{ on := 14, ground := Ground.data }, { on := 0, ground := Ground.phase }, { on := 1, ground := Ground.phase }, { on := 2, ground := Ground.phase }, { on := 3, ground := Ground.phase }, { on := 4, ground := Ground.phase }, { on := 5, ground := Ground.phase }, { on := 6, ground := Ground.phase }, { on := 7, ground := Ground.phase }, { on := 8, ground := Ground.phase }, { on := 9, ground := Ground.phase }, { on := 10, ground := Ground.phase }, { on := 11, ground := Ground.phase }, { on := 12, ground := Ground.phase }, { on := 13, ground := Ground.phase }], guard := none }, { dst := none, op := Op.store 27 (Operand.tmp 46) (Operand.tmp 44), type := 0, pos := "audit.go:34", after := #[{ on := 15, ground := Ground.data }, { on := 13, ground := Ground.data }, { on := 13, ground := Ground.chain }, { on := 0, ground := Ground.phase }, { on := 1, ground := Ground.phase }, { on := 2, ground := Ground.phase }, { on := 3, ground := Ground.phase }, { on := 4, ground := Ground.phase }, { on := 5, ground := Ground.phase }, { on := 6, ground := Ground.phase }, { on := 7, ground := Ground.phase }, { on := 8, ground := Ground.phase }, { on := 9, ground := Ground.phase }, { on := 10, ground := Ground.phase }, { on := 11, ground := Ground.phase }, { on := 12, ground := Ground.phase }, { on := 13, ground := Ground.phase }], guard := none }] true).wp Tryd.prog Q { tmps := #[.pointer (some ⟨L, 0, none⟩), x1, x2, x3, x4, x5, x6, x7, x8, x9, .pointer (some ⟨q, 0, none⟩), x11, x12, x13, x14, x15, x16, x17, x18, x19, x20, x21, x22, x23, x24, x25, x26, x27, x28, x29, x30, x31, x32, x33, x34, x35, x36, x37, x38, x39, x40, x41, x42, x43, x44, x45, x46, x47], defers := ds } A := by
  refine Code.wp_mono (Q := fun x a' w' => match x with | .normal => Q .normal a' w' | _ => False) (by intro x a' w' h; cases x <;> first | exact h | exact h.elim) ?_
  refine wp_region_held (S := fun V => Keep (SC c v) A V) (by kernel_rfl) ?_
  have hS0 : Hid (Keep (SC c v) A A.drew) := (Keep.refl _ A).drew
  change wpAnyH Tryd.prog .any _ _ (fun V => Keep (SC c v) A V) 17 (Array.replicate 17 false) _ A.drew
  obtain ⟨V0, hV0⟩ : ∃ V0, A.drew = V0 := ⟨_, rfl⟩
  rw [hV0]
  rw [hV0] at hS0
  have hX0 : Hid (Blk V0 c 58 [v]) := by rw [← hV0]; exact HXC.out
  have hO0 : Hid (OwE V0 B v l) := by rw [← hV0]; exact HO.out.same (fun _ _ => rfl)
  clear hV0
  refine wpAnyH_take (i := 0) (oi := { dst := some 31, op := Op.move (Operand.tmp 0), type := 25, pos := "audit.go:34", after := #[], guard := none }) (v := .pointer (some ⟨L, 0, none⟩)) rfl (by kernel_rfl) (by kernel_rfl) (by kernel_rfl) (fun _ _ _ h => h.elim) (Or.inl ⟨by rfl, ?y1⟩) hS0.out ?_
  case y1 =>
    intro V hV
    go_simp
  simp only [Act.put, List.setIfInBounds_toArray, List.set_cons_zero, List.set_cons_succ]
  refine wpAnyH_take (i := 1) (oi := { dst := some 32, op := Op.nilCheck (Operand.tmp 31), type := 0, pos := "audit.go:34", after := #[{ on := 0, ground := Ground.data }], guard := none }) (v := .pointer (some ⟨L, 0, none⟩)) rfl (by kernel_rfl) (by kernel_rfl) (by kernel_rfl) (fun _ _ _ h => h.elim) (Or.inl ⟨by rfl, ?y2⟩) hS0.out ?_
  case y2 =>
    intro V hV
    go_simp
  simp only [Act.put, List.setIfInBounds_toArray, List.set_cons_zero, List.set_cons_succ]
  refine wpAnyH_take (i := 2) (oi := { dst := some 33, op := Op.fieldAddr 53 (Operand.tmp 32) 0, type := 0, pos := "audit.go:34", after := #[{ on := 1, ground := Ground.data }], guard := none }) (v := .pointer (some ⟨L, 0, none⟩)) rfl (by kernel_rfl) (by kernel_rfl) (by kernel_rfl) (fun _ _ _ h => h.elim) (Or.inl ⟨by rfl, ?y3⟩) hS0.out ?_
  case y3 =>
    intro V hV
    go_simp
  simp only [Act.put, List.setIfInBounds_toArray, List.set_cons_zero, List.set_cons_succ]
  refine wpAnyH_take (i := 3) (oi := { dst := some 34, op := Op.load 51 (Operand.tmp 33), type := 51, pos := "audit.go:34", after := #[{ on := 2, ground := Ground.data }], guard := none }) (v := .pointer (some ⟨c, 0, none⟩)) rfl (by kernel_rfl) (by kernel_rfl) (by kernel_rfl) (fun _ _ _ h => h.elim) (Or.inl ⟨by rfl, ?y4⟩) hS0.out ?_
  case y4 =>
    intro V hV
    have hc : V.cell? ⟨L, 0, none⟩ = some (.pointer (some ⟨c, 0, none⟩)) := (World.cell?_of_block (a := ⟨L, 0, none⟩) ((show Keep (SC c v) A V from hV).block L HL.out.1 HL.out.2.1)).trans cL
    go_simp
  simp only [Act.put, List.setIfInBounds_toArray, List.set_cons_zero, List.set_cons_succ]
  refine wpAnyH_take (i := 4) (oi := { dst := some 35, op := Op.move (Operand.tmp 0), type := 25, pos := "audit.go:34", after := #[], guard := none }) (v := .pointer (some ⟨L, 0, none⟩)) rfl (by kernel_rfl) (by kernel_rfl) (by kernel_rfl) (fun _ _ _ h => h.elim) (Or.inl ⟨by rfl, ?y5⟩) hS0.out ?_
  case y5 =>
    intro V hV
    go_simp
  simp only [Act.put, List.setIfInBounds_toArray, List.set_cons_zero, List.set_cons_succ]
  refine wpAnyH_take (i := 5) (oi := { dst := some 36, op := Op.nilCheck (Operand.tmp 35), type := 0, pos := "audit.go:34", after := #[{ on := 4, ground := Ground.data }], guard := none }) (v := .pointer (some ⟨L, 0, none⟩)) rfl (by kernel_rfl) (by kernel_rfl) (by kernel_rfl) (fun _ _ _ h => h.elim) (Or.inl ⟨by rfl, ?y6⟩) hS0.out ?_
  case y6 =>
    intro V hV
    go_simp
  simp only [Act.put, List.setIfInBounds_toArray, List.set_cons_zero, List.set_cons_succ]
  refine wpAnyH_take (i := 6) (oi := { dst := some 37, op := Op.fieldAddr 53 (Operand.tmp 36) 0, type := 0, pos := "audit.go:34", after := #[{ on := 5, ground := Ground.data }], guard := none }) (v := .pointer (some ⟨L, 0, none⟩)) rfl (by kernel_rfl) (by kernel_rfl) (by kernel_rfl) (fun _ _ _ h => h.elim) (Or.inl ⟨by rfl, ?y7⟩) hS0.out ?_
  case y7 =>
    intro V hV
    go_simp
  simp only [Act.put, List.setIfInBounds_toArray, List.set_cons_zero, List.set_cons_succ]
  refine wpAnyH_take (i := 7) (oi := { dst := some 38, op := Op.load 51 (Operand.tmp 37), type := 51, pos := "audit.go:34", after := #[{ on := 6, ground := Ground.data }], guard := none }) (v := .pointer (some ⟨c, 0, none⟩)) rfl (by kernel_rfl) (by kernel_rfl) (by kernel_rfl) (fun _ _ _ h => h.elim) (Or.inl ⟨by rfl, ?y8⟩) hS0.out ?_
  case y8 =>
    intro V hV
    have hc : V.cell? ⟨L, 0, none⟩ = some (.pointer (some ⟨c, 0, none⟩)) := (World.cell?_of_block (a := ⟨L, 0, none⟩) ((show Keep (SC c v) A V from hV).block L HL.out.1 HL.out.2.1)).trans cL
    go_simp
  simp only [Act.put, List.setIfInBounds_toArray, List.set_cons_zero, List.set_cons_succ]
  refine wpAnyH_take (i := 8) (oi := { dst := some 39, op := Op.nilCheck (Operand.tmp 38), type := 0, pos := "audit.go:34", after := #[{ on := 7, ground := Ground.data }], guard := none }) (v := .pointer (some ⟨c, 0, none⟩)) rfl (by kernel_rfl) (by kernel_rfl) (by kernel_rfl) (fun _ _ _ h => h.elim) (Or.inl ⟨by rfl, ?y9⟩) hS0.out ?_
  case y9 =>
    intro V hV
    go_simp
  simp only [Act.put, List.setIfInBounds_toArray, List.set_cons_zero, List.set_cons_succ]
  refine wpAnyH_take (i := 9) (oi := { dst := some 40, op := Op.fieldAddr 58 (Operand.tmp 39) 0, type := 0, pos := "audit.go:34", after := #[{ on := 8, ground := Ground.data }], guard := none }) (v := .pointer (some ⟨c, 0, none⟩)) rfl (by kernel_rfl) (by kernel_rfl) (by kernel_rfl) (fun _ _ _ h => h.elim) (Or.inl ⟨by rfl, ?y10⟩) hS0.out ?_
  case y10 =>
    intro V hV
    go_simp
  simp only [Act.put, List.setIfInBounds_toArray, List.set_cons_zero, List.set_cons_succ]
  refine wpAnyH_take (i := 11) (oi := { dst := some 42, op := Op.load 37 (Operand.tmp 10), type := 37, pos := "audit.go:34", after := #[], guard := none }) (v := .agg x.cells.toArray) rfl (by kernel_rfl) (by kernel_rfl) (by kernel_rfl) (fun _ _ _ h => h.elim) (yieldsIf_load_mid (by rfl) _ _ rfl _ _ rfl (x.cells) _ (fun V hV => rangeAt_same (HR.out) ((show Keep (SC c v) A V from hV).block _ (HL.out.2.2.1) (HL.out.2.2.2))) Tryd.underlying37 rfl (info37 HX.out)) hS0.out ?_
  simp only [Act.put, List.setIfInBounds_toArray, List.set_cons_zero, List.set_cons_succ]
  refine wpAnyH_ready (rs := [10, 12]) (by kernel_rfl) (by simp) (AllReadyH.cons (i := 10) (o := { dst := some 41, op := Op.load 27 (Operand.tmp 40), type := 27, pos := "audit.go:34", after := #[{ on := 9, ground := Ground.data }], guard := none }) rfl ?_ (AllReadyH.cons (i := 12) (o := { dst := some 43, op := Op.buildSlice 27 1 #[(0, Operand.tmp 42)], type := 27, pos := "audit.go:34", after := #[{ on := 11, ground := Ground.data }], guard := none }) rfl ?_ AllReadyH.nil))
  · intro K1 hK1
    rw [if_pos (by rfl)]
    have hc : V0.cell? ⟨c, 0, none⟩ = some v := hX0.out.cell rfl
    go_wp2
    clear hc
    refine hK1.out _ _ hS0.out ?_
    clear hK1
    intro _
    try simp only [Act.put, List.setIfInBounds_toArray, List.set_cons_zero, List.set_cons_succ]
    refine wpAnyH_ready (rs := [12]) (by kernel_rfl) (by simp) (AllReadyH.cons (i := 12) (o := { dst := some 43, op := Op.buildSlice 27 1 #[(0, Operand.tmp 42)], type := 27, pos := "audit.go:34", after := #[{ on := 11, ground := Ground.data }], guard := none }) rfl ?_ AllReadyH.nil)
    · intro K1 hK1
      refine step_bs (by rfl) 27 (.tmp 42) _ rfl rfl (run_bs1 x.cells (En.len HX.out) _) ?_
      obtain ⟨V2, hv2⟩ : ∃ V, V0.alloc (.cells x.cells.toArray 37) = V := ⟨_, rfl⟩
      obtain ⟨q2, hq2⟩ : ∃ m, V0.heap.size = m := ⟨_, rfl⟩
      have hS2 : Hid (Keep (SC c v) A V2) := by rw [← hv2]; exact keep_al hS0.out _
      have hX2 : Hid (Blk V2 c 58 [v]) := by rw [← hv2]; exact hX0.out.alloc _
      have hO2 : Hid (OwE V2 B v l) := by rw [← hv2]; exact hO0.out.below (below_al _ _)
      have hR2 : Hid (EsR V2 (.slice (some ⟨q2, 0, none⟩) 1 1) [x]) := by rw [← hv2, ← hq2]; exact esr_one HX.out (Blk.new V0 _ _).range0 (Blk.new V0 _ _).lt
      rw [hv2, hq2]
      clear hv2 hq2
      refine hK1.out _ _ hS2.out ?_
      clear hK1
      intro _
      try simp only [Act.put, List.setIfInBounds_toArray, List.set_cons_zero, List.set_cons_succ]
      refine wpAnyH_ready (rs := [13]) (by kernel_rfl) (by simp) (AllReadyH.cons (i := 13) (o := { dst := some 44, op := Op.call { callee := Callee.builtin Builtin.append, args := #[Operand.tmp 41, Operand.tmp 43], argTypes := #[27, 27] }, type := 27, pos := "audit.go:34", after := #[{ on := 10, ground := Ground.data }, { on := 12, ground := Ground.data }], guard := none }) rfl ?_ AllReadyH.nil)
      · intro K1 hK1
        refine step_app (by rfl) (.tmp 41) (.tmp 43) rfl hO2.out hR2.out (by have := HN.out; simp; omega) (Nat.le_trans HBB.out hS2.out.size) rfl rfl ?_
        intro v3 V3 ho3 hg3 hp3
        have hS3 : Hid (Keep (SC c v) A V3) := hS2.out.trans (Keep.grownO (S := SC c v) hg3.out (fun k hk => .inr hk)) (fun _ hj _ => hj)
        have hX3 : Hid (Blk V3 c 58 [v]) := hX2.out.kept hg3.out (fun hk => HNC.out hk.symm)
        have hP3 : Hid (v3.ownBlock = v.ownBlock ∨ ∃ g, v3.ownBlock = some g ∧ A.heap.size ≤ g) := hp3.out.imp id (fun h => ⟨_, h, hS2.out.size⟩)
        clear hg3 hp3
        refine hK1.out _ _ hS3.out ?_
        clear hK1
        intro _
        try simp only [Act.put, List.setIfInBounds_toArray, List.set_cons_zero, List.set_cons_succ]
        refine wpAnyH_take (i := 14) (oi := { dst := some 45, op := Op.nilCheck (Operand.tmp 34), type := 0, pos := "audit.go:34", after := #[{ on := 3, ground := Ground.data }, { on := 0, ground := Ground.phase }, { on := 1, ground := Ground.phase }, { on := 2, ground := Ground.phase }, { on := 3, ground := Ground.phase }, { on := 4, ground := Ground.phase }, { on := 5, ground := Ground.phase }, { on := 6, ground := Ground.phase }, { on := 7, ground := Ground.phase }, { on := 8, ground := Ground.phase }, { on := 9, ground := Ground.phase }, { on := 10, ground := Ground.phase }, { on := 11, ground := Ground.phase }, { on := 12, ground := Ground.phase }, { on := 13, ground := Ground.phase }], guard := none }) (v := .pointer (some ⟨c, 0, none⟩)) rfl (by kernel_rfl) (by kernel_rfl) (by kernel_rfl) (fun _ _ _ h => h.elim) (Or.inl ⟨by rfl, ?y11⟩) hS3.out ?_
        case y11 =>
          intro V hV
          go_simp
        simp only [Act.put, List.setIfInBounds_toArray, List.set_cons_zero, List.set_cons_succ]
        refine wpAnyH_take (i := 15) (oi := { dst := some 46, op := Op.fieldAddr 58 (Operand.tmp 45) 0, type := 0, pos := "audit.go:34", after := #[{ on := 14, ground := Ground.data }, { on := 0, ground := Ground.phase }, { on := 1, ground := Ground.phase }, { on := 2, ground := Ground.phase }, { on := 3, ground := Ground.phase }, { on := 4, ground := Ground.phase }, { on := 5, ground := Ground.phase }, { on := 6, ground := Ground.phase }, { on := 7, ground := Ground.phase }, { on := 8, ground := Ground.phase }, { on := 9, ground := Ground.phase }, { on := 10, ground := Ground.phase }, { on := 11, ground := Ground.phase }, { on := 12, ground := Ground.phase }, { on := 13, ground := Ground.phase }], guard := none }) (v := .pointer (some ⟨c, 0, none⟩)) rfl (by kernel_rfl) (by kernel_rfl) (by kernel_rfl) (fun _ _ _ h => h.elim) (Or.inl ⟨by rfl, ?y12⟩) hS3.out ?_
        case y12 =>
          intro V hV
          go_simp
        simp only [Act.put, List.setIfInBounds_toArray, List.set_cons_zero, List.set_cons_succ]
        refine wpAnyH_ready (rs := [16]) (by kernel_rfl) (by simp) (AllReadyH.cons (i := 16) (o := { dst := none, op := Op.store 27 (Operand.tmp 46) (Operand.tmp 44), type := 0, pos := "audit.go:34", after := #[{ on := 15, ground := Ground.data }, { on := 13, ground := Ground.data }, { on := 13, ground := Ground.chain }, { on := 0, ground := Ground.phase }, { on := 1, ground := Ground.phase }, { on := 2, ground := Ground.phase }, { on := 3, ground := Ground.phase }, { on := 4, ground := Ground.phase }, { on := 5, ground := Ground.phase }, { on := 6, ground := Ground.phase }, { on := 7, ground := Ground.phase }, { on := 8, ground := Ground.phase }, { on := 9, ground := Ground.phase }, { on := 10, ground := Ground.phase }, { on := 11, ground := Ground.phase }, { on := 12, ground := Ground.phase }, { on := 13, ground := Ground.phase }], guard := none }) rfl ?_ AllReadyH.nil)
        · intro K1 hK1
          obtain ⟨as4, cs4, hsv4⟩ := ow_slice ho3.out
          refine step_st1 (by rfl) 27 (.tmp 46) (.tmp 44) rfl c 0 v3 58 _ rfl rfl hX3.out (by simp) (by kernel_rfl) (by rw [hsv4]; rfl) (by rw [hsv4]; rfl) ?_
          obtain ⟨V4, hv4⟩ : ∃ V, V3.setCell ⟨c, 0, none⟩ v3 = V := ⟨_, rfl⟩
          have hg4 : V3.grownBy V4 (some c) := by rw [← hv4]; exact grown_setCell _ _ _ _
          have hS4 : Hid (Keep (SC c v) A V4) := hS3.out.trans (Keep.grown (S := SC c v) hg4 (.inl rfl)) (fun _ hj _ => hj)
          have hX4 : Hid (Blk V4 c 58 [v3]) := by rw [← hv4]; exact hX3.out.set 0 v3
          have hO4 : Hid (OwE V4 B v3 (l ++ [x])) := ho3.out.same (fun g hg => hg4.block g (ho3.out.lt hg).2 (fun hk => by cases hk; exact hP3.out.elim (fun h => HNC.out (h.symm.trans hg)) (fun ⟨g2, h, h2⟩ => by rw [hg] at h; cases h; have := HCL.out; omega)))
          rw [hv4]
          clear hv4 hg4 hsv4
          refine hK1.out _ _ hS4.out ?_
          clear hK1
          intro _
          try simp only [Act.put, List.setIfInBounds_toArray, List.set_cons_zero, List.set_cons_succ]
          refine wpAnyH_done (by kernel_rfl) ?_ _
          exact hQ V4 _ _ hX4.out hO4.out hP3.out hS4.out
  · intro K1 hK1
    refine step_bs (by rfl) 27 (.tmp 42) _ rfl rfl (run_bs1 x.cells (En.len HX.out) _) ?_
    obtain ⟨V1, hv1⟩ : ∃ V, V0.alloc (.cells x.cells.toArray 37) = V := ⟨_, rfl⟩
    obtain ⟨q1, hq1⟩ : ∃ m, V0.heap.size = m := ⟨_, rfl⟩
    have hS1 : Hid (Keep (SC c v) A V1) := by rw [← hv1]; exact keep_al hS0.out _
    have hX1 : Hid (Blk V1 c 58 [v]) := by rw [← hv1]; exact hX0.out.alloc _
    have hO1 : Hid (OwE V1 B v l) := by rw [← hv1]; exact hO0.out.below (below_al _ _)
    have hR1 : Hid (EsR V1 (.slice (some ⟨q1, 0, none⟩) 1 1) [x]) := by rw [← hv1, ← hq1]; exact esr_one HX.out (Blk.new V0 _ _).range0 (Blk.new V0 _ _).lt
    rw [hv1, hq1]
    clear hv1 hq1
    refine hK1.out _ _ hS1.out ?_
    clear hK1
    intro _
    try simp only [Act.put, List.setIfInBounds_toArray, List.set_cons_zero, List.set_cons_succ]
    refine wpAnyH_ready (rs := [10]) (by kernel_rfl) (by simp) (AllReadyH.cons (i := 10) (o := { dst := some 41, op := Op.load 27 (Operand.tmp 40), type := 27, pos := "audit.go:34", after := #[{ on := 9, ground := Ground.data }], guard := none }) rfl ?_ AllReadyH.nil)
    · intro K1 hK1
      rw [if_pos (by rfl)]
      have hc : V1.cell? ⟨c, 0, none⟩ = some v := hX1.out.cell rfl
      go_wp2
      clear hc
      refine hK1.out _ _ hS1.out ?_
      clear hK1
      intro _
      try simp only [Act.put, List.setIfInBounds_toArray, List.set_cons_zero, List.set_cons_succ]
      refine wpAnyH_ready (rs := [13]) (by kernel_rfl) (by simp) (AllReadyH.cons (i := 13) (o := { dst := some 44, op := Op.call { callee := Callee.builtin Builtin.append, args := #[Operand.tmp 41, Operand.tmp 43], argTypes := #[27, 27] }, type := 27, pos := "audit.go:34", after := #[{ on := 10, ground := Ground.data }, { on := 12, ground := Ground.data }], guard := none }) rfl ?_ AllReadyH.nil)
      · intro K1 hK1
        refine step_app (by rfl) (.tmp 41) (.tmp 43) rfl hO1.out hR1.out (by have := HN.out; simp; omega) (Nat.le_trans HBB.out hS1.out.size) rfl rfl ?_
        intro v3 V3 ho3 hg3 hp3
        have hS3 : Hid (Keep (SC c v) A V3) := hS1.out.trans (Keep.grownO (S := SC c v) hg3.out (fun k hk => .inr hk)) (fun _ hj _ => hj)
        have hX3 : Hid (Blk V3 c 58 [v]) := hX1.out.kept hg3.out (fun hk => HNC.out hk.symm)
        have hP3 : Hid (v3.ownBlock = v.ownBlock ∨ ∃ g, v3.ownBlock = some g ∧ A.heap.size ≤ g) := hp3.out.imp id (fun h => ⟨_, h, hS1.out.size⟩)
        clear hg3 hp3
        refine hK1.out _ _ hS3.out ?_
        clear hK1
        intro _
        try simp only [Act.put, List.setIfInBounds_toArray, List.set_cons_zero, List.set_cons_succ]
        refine wpAnyH_take (i := 14) (oi := { dst := some 45, op := Op.nilCheck (Operand.tmp 34), type := 0, pos := "audit.go:34", after := #[{ on := 3, ground := Ground.data }, { on := 0, ground := Ground.phase }, { on := 1, ground := Ground.phase }, { on := 2, ground := Ground.phase }, { on := 3, ground := Ground.phase }, { on := 4, ground := Ground.phase }, { on := 5, ground := Ground.phase }, { on := 6, ground := Ground.phase }, { on := 7, ground := Ground.phase }, { on := 8, ground := Ground.phase }, { on := 9, ground := Ground.phase }, { on := 10, ground := Ground.phase }, { on := 11, ground := Ground.phase }, { on := 12, ground := Ground.phase }, { on := 13, ground := Ground.phase }], guard := none }) (v := .pointer (some ⟨c, 0, none⟩)) rfl (by kernel_rfl) (by kernel_rfl) (by kernel_rfl) (fun _ _ _ h => h.elim) (Or.inl ⟨by rfl, ?y13⟩) hS3.out ?_
        case y13 =>
          intro V hV
          go_simp
        simp only [Act.put, List.setIfInBounds_toArray, List.set_cons_zero, List.set_cons_succ]
        refine wpAnyH_take (i := 15) (oi := { dst := some 46, op := Op.fieldAddr 58 (Operand.tmp 45) 0, type := 0, pos := "audit.go:34", after := #[{ on := 14, ground := Ground.data }, { on := 0, ground := Ground.phase }, { on := 1, ground := Ground.phase }, { on := 2, ground := Ground.phase }, { on := 3, ground := Ground.phase }, { on := 4, ground := Ground.phase }, { on := 5, ground := Ground.phase }, { on := 6, ground := Ground.phase }, { on := 7, ground := Ground.phase }, { on := 8, ground := Ground.phase }, { on := 9, ground := Ground.phase }, { on := 10, ground := Ground.phase }, { on := 11, ground := Ground.phase }, { on := 12, ground := Ground.phase }, { on := 13, ground := Ground.phase }], guard := none }) (v := .pointer (some ⟨c, 0, none⟩)) rfl (by kernel_rfl) (by kernel_rfl) (by kernel_rfl) (fun _ _ _ h => h.elim) (Or.inl ⟨by rfl, ?y14⟩) hS3.out ?_
        case y14 =>
          intro V hV
          go_simp
        simp only [Act.put, List.setIfInBounds_toArray, List.set_cons_zero, List.set_cons_succ]
        refine wpAnyH_ready (rs := [16]) (by kernel_rfl) (by simp) (AllReadyH.cons (i := 16) (o := { dst := none, op := Op.store 27 (Operand.tmp 46) (Operand.tmp 44), type := 0, pos := "audit.go:34", after := #[{ on := 15, ground := Ground.data }, { on := 13, ground := Ground.data }, { on := 13, ground := Ground.chain }, { on := 0, ground := Ground.phase }, { on := 1, ground := Ground.phase }, { on := 2, ground := Ground.phase }, { on := 3, ground := Ground.phase }, { on := 4, ground := Ground.phase }, { on := 5, ground := Ground.phase }, { on := 6, ground := Ground.phase }, { on := 7, ground := Ground.phase }, { on := 8, ground := Ground.phase }, { on := 9, ground := Ground.phase }, { on := 10, ground := Ground.phase }, { on := 11, ground := Ground.phase }, { on := 12, ground := Ground.phase }, { on := 13, ground := Ground.phase }], guard := none }) rfl ?_ AllReadyH.nil)
        · intro K1 hK1
          obtain ⟨as4, cs4, hsv4⟩ := ow_slice ho3.out
          refine step_st1 (by rfl) 27 (.tmp 46) (.tmp 44) rfl c 0 v3 58 _ rfl rfl hX3.out (by simp) (by kernel_rfl) (by rw [hsv4]; rfl) (by rw [hsv4]; rfl) ?_
          obtain ⟨V4, hv4⟩ : ∃ V, V3.setCell ⟨c, 0, none⟩ v3 = V := ⟨_, rfl⟩
          have hg4 : V3.grownBy V4 (some c) := by rw [← hv4]; exact grown_setCell _ _ _ _
          have hS4 : Hid (Keep (SC c v) A V4) := hS3.out.trans (Keep.grown (S := SC c v) hg4 (.inl rfl)) (fun _ hj _ => hj)
          have hX4 : Hid (Blk V4 c 58 [v3]) := by rw [← hv4]; exact hX3.out.set 0 v3
          have hO4 : Hid (OwE V4 B v3 (l ++ [x])) := ho3.out.same (fun g hg => hg4.block g (ho3.out.lt hg).2 (fun hk => by cases hk; exact hP3.out.elim (fun h => HNC.out (h.symm.trans hg)) (fun ⟨g2, h, h2⟩ => by rw [hg] at h; cases h; have := HCL.out; omega)))
          rw [hv4]
          clear hv4 hg4 hsv4
          refine hK1.out _ _ hS4.out ?_
          clear hK1
          intro _
          try simp only [Act.put, List.setIfInBounds_toArray, List.set_cons_zero, List.set_cons_succ]
          refine wpAnyH_done (by kernel_rfl) ?_ _
          exact hQ V4 _ _ hX4.out hO4.out hP3.out hS4.out
end Go.Proofs.YtmmpafaegmejlaaDoor.Oct

/- Layer 19 (audit): Append. -/
namespace Go.Proofs.YtmmpafaegmejlaaDoor.Oct
open Go.RowKit Sha
set_option linter.unusedSimpArgs false
set_option linter.unusedVariables false

def lA (l : List En) (q : En × Int) : List En := if q.2 = 0 then l ++ [q.1] else l
/-- what Append answers, and what it leaves -/
def ApP (w : World) (B L c : Nat) (v : Value) (l : List En) (q : En × Int) (e : Ending) (w' : World) : Prop :=
  e = .returned (.tuple #[.agg q.1.cells.toArray, iv q.2]) ∧ ∃ v', Lg w' B L c v' (lA l q) ∧ (v'.ownBlock = v.ownBlock ∨ ∃ g, v'.ownBlock = some g ∧ w.heap.size ≤ g) ∧ Keep (SC c v) w w'
theorem nxE_bad {l : List En} {tick : Int} {who what : BA} (h : (nxE l tick who what).2 ≠ 0) : (nxE l tick who what).1 = zE := by
  unfold nxE at h ⊢
  split
  · rfl
  · split
    · rfl
    · exfalso; apply h; rw [if_neg (by assumption), if_neg (by assumption)]
theorem nxE_good {l : List En} {tick : Int} {who what : BA} (h : (nxE l tick who what).2 = 0) : (nxE l tick who what).1.sz ∧ l.length < 4096 ∧ (nxE l tick who what).1 = ⟨(l.length : Int) + 1, tick, who, what, hdE l⟩ := by
  unfold nxE at h ⊢
  split at h
  · cases h
  · split at h
    · cases h
    · rename_i h1 h2
      rw [if_neg h1, if_neg h2]
      refine ⟨?_, by omega, rfl⟩
      show who.size + what.size ≤ _
      omega
theorem Keep.toGr {S : Nat → Prop} {w w' : World} {b : Nat} (h : w.grownBy w' (some b)) (hb : w.heap.size ≤ b) : Keep S w w' := ⟨h.os, h.tape, h.output, h.size, fun k hk _ => h.block k hk (by simp; omega)⟩
set_option maxRecDepth 100000 in
set_option maxHeartbeats 2000000 in
theorem append_is {w : World} {B L c : Nat} {v : Value} {l : List En} (h : Lg w B L c v l) (hk : KT w) (hs : ST w) (hB : B ≤ w.heap.size) (tick : Int) (who what : BA) (hw : who.size ≤ 140737488355328) (hwt : what.size ≤ 140737488355328) (ht : tick ≤ 9223372036854775807) : Calls Tryd.prog 14 #[.pointer (some ⟨L, 0, none⟩), iv tick, .string who, .string what] w (ApP w B L c v l (nxE l tick who what)) := by
  obtain ⟨Z, hZ, HZ⟩ := zero37
  have HBL := built37
  obtain ⟨r, hr0⟩ : ∃ b, w.heap.size = b := ⟨_, rfl⟩
  obtain ⟨A, hA⟩ : ∃ A, w.alloc (.cells Z.toArray 37) = A := ⟨_, rfl⟩
  have hb1 : Below w.heap.size w A := by rw [← hA]; exact below_al _ _
  have hrb : Blk A r 37 Z := by rw [← hA, ← hr0]; exact Blk.new w _ _
  have H : Hid (Lg A B L c v l ∧ Below w.heap.size w A ∧ Blk A r 37 Z ∧ KT A ∧ ST A ∧ w.heap.size ≤ r ∧ Z.length = 36 ∧ Lg w B L c v l ∧ B ≤ w.heap.size) := ⟨h.below hb1, hb1, hrb, hk.below hb1, hs.below hb1, by omega, by rw [HZ.out]; exact En.len zE_ok, h, hB⟩
  have HQ : Hid ((nxE l tick who what).1.ok) := nxE_ok h.row.2 hw hwt ht (by have := h.len; omega)
  have HNB : Hid ((nxE l tick who what).2 ≠ 0 → (nxE l tick who what).1 = zE) := nxE_bad
  have HNG : Hid ((nxE l tick who what).2 = 0 → (nxE l tick who what).1.sz ∧ l.length < 4096) := fun h => ⟨(nxE_good h).1, (nxE_good h).2.1⟩
  obtain ⟨q, hq⟩ : ∃ q, nxE l tick who what = q := ⟨_, rfl⟩
  rw [hq] at HQ HNB HNG ⊢
  obtain ⟨x, k⟩ := q
  have HQE : Hid (nxE l tick who what = (x, k)) := hq
  dsimp only at HQ HNB HNG
  clear hq
  have HT : Hid (who.size ≤ 140737488355328 ∧ what.size ≤ 140737488355328 ∧ tick ≤ 9223372036854775807) := ⟨hw, hwt, ht⟩
  have c0 := H.out.1.lg.cell (i := 0) rfl
  clear h hk hs hb1 hrb hw hwt ht HZ hB
  go_enter Tryd.func14, Tryd.ntmps14
  go_wp2_with fail
  refine (made_is H.out.1).mono ?_
  rintro e X ⟨rfl, rfl⟩
  go_wp2_with fail
  refine (next_is H.out.1.chain H.out.2.2.2.1 H.out.2.2.2.2.1 tick who what HT.out.1 HT.out.2.1 HT.out.2.2).mono ?_
  rintro e W1 ⟨rfl, hb⟩
  have H1 : Hid (Lg W1 B L c v l ∧ Below w.heap.size w W1 ∧ Blk W1 r 37 Z) := ⟨H.out.1.below hb, below_tr H.out.2.1 hb, H.out.2.2.1.below hb H.out.2.2.1.lt⟩
  rw [HQE.out]
  obtain ⟨g, hg⟩ : ∃ g, W1.heap.size = g := ⟨_, rfl⟩
  have HG : Hid (W1.heap.size = g ∧ w.heap.size ≤ g ∧ r < g) := ⟨hg, by have := H1.out.2.1.size; omega, by have := H1.out.2.2.lt; omega⟩
  dsimp only
  clear hb hA hr0 c0
  go_wp2_with (with_reducible change wpList _ _ _ ({ dst := none, op := Op.store 37 _ _, type := _, pos := _, after := _, guard := _ } :: _) _ _; refine Hid.out ?_)
  show wpList _ _ _ _ _ _
  refine wpList_store_blk rfl 37 (.tmp 10) (.tmp 25) rfl g 0 37 Z x.cells rfl rfl (by rw [← HG.out.1]; exact Blk.new W1 _ _) (by rw [H.out.2.2.2.2.2.2.1, En.len HQ.out]; exact Nat.le_refl _) (info37 HQ.out) (En.one _) ?_
  intro W2 hx2 hg2
  have H2 : Hid (Lg W2 B L c v l ∧ Below w.heap.size w W2 ∧ Blk W2 r 37 Z ∧ Blk W2 g 37 x.cells) := by
    have e := below_al W1 (.cells Z.toArray 37)
    have l1 := H1.out.1.below e
    have hgr := hg2.out
    have sz1 : W1.heap.size = g := HG.out.1
    refine ⟨l1.same (hgr.block L l1.lg.lt ?_) (hgr.block c l1.ch.lt ?_) (fun j hj => hgr.block j (l1.row.lt hj).2 ?_), below_gr (below_tr H1.out.2.1 e) hgr HG.out.2.1, (H1.out.2.2.below e H1.out.2.2.lt).kept hgr ?_, blk_all hx2.out (by rw [H.out.2.2.2.2.2.2.1, En.len HQ.out])⟩
    · have := H1.out.1.lg.lt; simp; omega
    · have := H1.out.1.ch.lt; simp; omega
    · have := (H1.out.1.row.lt hj).2; simp; omega
    · have := HG.out.2.2; simp; omega
  clear hx2 hg2 hg
  by_cases hk0 : k = 0
  · subst hk0
    have hng := HNG.out rfl
    have HNS : Hid (x.sz ∧ l.length < 4096) := hng
    clear hng
    go_wp2_with fail
    refine ap6 (L := L) (c := c) (q := g) (B := B) (v := v) (l := l) (x := x) ⟨H2.out.1.lg.lt, fun k => k.elim H2.out.1.ne H2.out.1.nl, H2.out.2.2.2.lt, fun k => k.elim (fun e => ?_) (fun e => ?_)⟩ (H2.out.1.lg.cell rfl) H2.out.2.2.2.range0 HQ.out H2.out.1.ch H2.out.1.row H2.out.1.len (Nat.le_trans H.out.2.2.2.2.2.2.2.2 H2.out.2.1.size) H2.out.1.nc H2.out.1.ch.lt ?_
    · have := H.out.2.2.2.2.2.2.2.1.ch.lt; have := HG.out.2.1; omega
    · have := (H.out.2.2.2.2.2.2.2.1.row.lt e).2; have := HG.out.2.1; omega
    intro W3 v2 nb hc3 ho3 hp3 hk3
    have LW := H.out.2.2.2.2.2.2.2.1
    have nr : ¬ SC c v r := fun k => k.elim (fun e => by have := LW.ch.lt; have := H.out.2.2.2.2.2.1; omega) (fun e => by have := (LW.row.lt e).2; have := H.out.2.2.2.2.2.1; omega)
    have ng : ¬ SC c v g := fun k => k.elim (fun e => by have := LW.ch.lt; have := HG.out.2.1; omega) (fun e => by have := (LW.row.lt e).2; have := HG.out.2.1; omega)
    have nL : ¬ SC c v L := fun k => k.elim H2.out.1.ne H2.out.1.nl
    have H3 : Hid (Lg W3 B L c v2 (l ++ [x]) ∧ Blk W3 r 37 Z ∧ Blk W3 g 37 x.cells ∧ Keep (SC c v) w W3 ∧ (v2.ownBlock = v.ownBlock ∨ ∃ g, v2.ownBlock = some g ∧ w.heap.size ≤ g) ∧ v2.ownBlock ≠ some r) := by
      have sz2 := H2.out.2.1.size
      refine ⟨⟨hk3.blk H2.out.1.lg nL, hc3, ho3, fun e he => ?_, H2.out.1.bl, H2.out.1.bc, H2.out.1.ne, fun e => ?_, fun e => ?_, ?_⟩, hk3.blk H2.out.2.2.1 nr, hk3.blk H2.out.2.2.2 ng, (Keep.below (S := SC c v) H2.out.2.1).trans hk3 (fun _ hj _ => hj), hp3.imp id (fun ⟨g, h1, h2⟩ => ⟨g, h1, Nat.le_trans sz2 h2⟩), fun e => ?_⟩
      · rcases List.mem_append.1 he with he | he
        · exact H2.out.1.sz e he
        · rw [List.mem_singleton.1 he]; exact HNS.out.1
      · rcases hp3 with h | ⟨g2, h, h2⟩
        · exact H2.out.1.nl (h.symm.trans e)
        · rw [e] at h; cases h; have := H2.out.1.lg.lt; omega
      · rcases hp3 with h | ⟨g2, h, h2⟩
        · exact H2.out.1.nc (h.symm.trans e)
        · rw [e] at h; cases h; have := H2.out.1.ch.lt; omega
      · have := HNS.out.2; simp; omega
      · rcases hp3 with h | ⟨g2, h, h2⟩
        · exact nr (.inr (h.symm.trans e))
        · rw [e] at h; cases h; have := H2.out.2.2.1.lt; omega
    clear hc3 ho3 hp3 hk3 LW nr ng nL
    go_wp2_with (with_reducible change wpList _ _ _ ({ dst := some 47, op := _, type := _, pos := _, after := _, guard := _ } :: _) _ _; refine Hid.out ?_)
    show wpList _ _ _ _ _ _
    refine wpList_load_mid rfl 37 (.tmp 10) rfl g 0 rfl x.cells _ H3.out.2.2.1.range0 Tryd.underlying37 rfl (info37 HQ.out) ?_
    go_wp2_with (with_reducible change wpList _ _ _ ({ dst := none, op := Op.store 37 _ _, type := _, pos := _, after := _, guard := _ } :: _) _ _; refine Hid.out ?_)
    show wpList _ _ _ _ _ _
    refine wpList_store_blk rfl 37 (.tmp 8) (.tmp 47) rfl r 0 37 Z x.cells rfl rfl H3.out.2.1 (by rw [H.out.2.2.2.2.2.2.1, En.len HQ.out]; exact Nat.le_refl _) (info37 HQ.out) (En.one _) ?_
    intro W4 hx4 hg4
    have H4 : Hid (Blk W4 r 37 x.cells ∧ Lg W4 B L c v2 (l ++ [x]) ∧ Keep (SC c v) w W4 ∧ (v2.ownBlock = v.ownBlock ∨ ∃ g, v2.ownBlock = some g ∧ w.heap.size ≤ g)) := by
      have hgr := hg4.out
      have LW := H.out.2.2.2.2.2.2.2.1
      have hr := H.out.2.2.2.2.2.1
      have hrl := H2.out.2.2.1.lt
      refine ⟨blk_all hx4.out (by rw [H.out.2.2.2.2.2.2.1, En.len HQ.out]), H3.out.1.same (hgr.block L H3.out.1.lg.lt ?_) (hgr.block c H3.out.1.ch.lt ?_) (fun j hj => hgr.block j (H3.out.1.row.lt hj).2 ?_), H3.out.2.2.2.1.trans (Keep.grown (S := fun k => w.heap.size ≤ k) hgr hr) (fun j hj hl => by omega), H3.out.2.2.2.2.1⟩
      · have := LW.lg.lt; simp; omega
      · have := LW.ch.lt; simp; omega
      · intro e; cases e; exact H3.out.2.2.2.2.2 hj
    clear hx4 hg4
    go_wp2
    refine ret_cu rfl rfl rfl H4.out.1 Tryd.underlying37 rfl (info37 HQ.out) ⟨rfl, v2, ?_, H4.out.2.2.2, H4.out.2.2.1⟩
    show Lg W4 B L c v2 (lA l (x, 0))
    unfold lA
    rw [if_pos rfl]
    exact H4.out.2.1
  · have q3 : (k != 0) = true := by simpa using hk0
    have HK0 : Hid (k ≠ 0 ∧ x = zE) := ⟨hk0, HNB.out hk0⟩
    clear hk0
    go_wp2_with (with_reducible change wpList _ _ _ ({ dst := some 29, op := _, type := _, pos := _, after := _, guard := _ } :: _) _ _; refine Hid.out ?_)
    show wpList _ _ _ _ _ _
    refine wpList_built rfl 37 _ rfl zE.cells.toArray (by rw [← HBL]; simp) ?_
    go_wp2_with (with_reducible change wpList _ _ _ ({ dst := none, op := Op.store 37 _ _, type := _, pos := _, after := _, guard := _ } :: _) _ _; refine Hid.out ?_)
    show wpList _ _ _ _ _ _
    refine wpList_store_blk rfl 37 (.tmp 8) (.tmp 29) rfl r 0 37 Z zE.cells rfl rfl H2.out.2.2.1 (by rw [H.out.2.2.2.2.2.2.1, En.len zE_ok]; exact Nat.le_refl _) (info37 zE_ok) (En.one _) ?_
    intro W4 hx4 hg4
    have H4 : Hid (Blk W4 r 37 zE.cells ∧ Lg W4 B L c v l ∧ Below w.heap.size w W4) := by
      have hb4 := below_gr H2.out.2.1 hg4.out H.out.2.2.2.2.2.1
      exact ⟨blk_all hx4.out (by rw [H.out.2.2.2.2.2.2.1, En.len zE_ok]), H.out.2.2.2.2.2.2.2.1.below hb4, hb4⟩
    clear hx4 hg4
    go_wp2
    refine ret_cu rfl rfl rfl H4.out.1 Tryd.underlying37 rfl (info37 zE_ok) ⟨?_, v, ?_, .inl rfl, Keep.below H4.out.2.2⟩
    · rw [HK0.out.2]; rfl
    · show Lg W4 B L c v (lA l (x, k))
      unfold lA
      rw [if_neg HK0.out.1]
      exact H4.out.2.1
end Go.Proofs.YtmmpafaegmejlaaDoor.Oct
