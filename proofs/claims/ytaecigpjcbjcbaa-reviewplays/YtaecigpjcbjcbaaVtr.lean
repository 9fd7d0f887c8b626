/-
  Layer 20 (review): voters.
-/
import Derived.Test.YtaecigpjcbjcbaaVot
import Derived.Test.YtaecigpjcbjcbaaShelf
import Derived.Sort.OwnSorted
import Derived.Sort.KeysCollected
namespace Go.Proofs.Ytaecigpjcbjcbaa.Oct
open Go.RowKit Go.Sort Go.Shelf
set_option linter.unusedSimpArgs false

/-- the names, in their order -/
def sortK (l : List Hs) : List Hs := l.mergeSort (fun x y => decide (x ≤ y))
theorem encStr_hv (x : Hs) : encStr x = hv x := rfl
theorem sort_is {w : World} {B : Nat} {v : Value} {ss : List Hs} (h : w.ownsRow B 9 1 v ss.length (ss.map hv)) (hn : ss.length ≤ 1000000) :
    Calls Try.prog 55 #[v] w fun e w' => e = .returned (.tuple #[]) ∧ w'.ownsRow B 9 1 v ss.length ((sortK ss).map hv) ∧ w.grownBy w' v.ownBlock := by
  rcases h.2 with ⟨rfl, h0⟩ | ⟨g, cap, cur, rfl, hB, hb, hc1, hc2, hc3, ht⟩
  · have e : ss = [] := List.eq_nil_of_length_eq_zero h0
    subst e
    refine (show Calls Try.prog 55 _ _ _ from AnyM.slices_Sort_string_none laysSort none 0 w).mono ?_
    rintro e w' ⟨rfl, hw⟩
    have hg : w.grownBy w' none := by
      first
        | (subst hw; exact World.grownBy.refl _ _)
        | (obtain ⟨n, os, rfl⟩ := hw; exact ⟨rfl, rfl, rfl, by simp, fun k hk _ => by simp⟩)
    exact ⟨rfl, ⟨by simp [sortK], .inl ⟨rfl, rfl⟩⟩, hg⟩
  · refine (show Calls Try.prog 55 _ _ _ from AnyM.slices_Sort_string laysSort g 0 cap ss w (holds_of_block hb (by rw [Nat.mul_one] at ht; exact ht)) (lt_of_block hb) (by omega)).mono ?_
    rintro e w' ⟨rfl, n, os, rfl⟩
    refine ⟨rfl, ?_, grownBy_sorted _⟩
    exact ownsRow_sorted (by simp) hB hb hc1 hc2 hc3
#print axioms sort_is
theorem wpList_append_own1 {P : Program} {ops : Array Oper} {rest : List Oper} {o : Oper} {a : Act} {Q : Exit → Act → World → Prop} (hgd : o.guard = none) (s x : Operand) (t : TypeId)
    (hop : o.op = .call { callee := .builtin .append, args := #[s, x], argTypes := #[t, t] }) (w : World) (e : TypeId) (i : TypeInfo) (z : Value) (sz B : Nat) (ht : P.underlying t = some (.slice e)) (hi : P.info? e = some i) (hz : i.zero = some z) (hs : i.size = sz) (hby : i.bytes ≤ 1000) (hzs : z.cells.size = sz) (hsz : 0 < sz)
    (v : Value) (n : Nat) (cs : List Value) (h : w.ownsRow B e sz v n cs) (g q c : Nat) (qs : List Value) (hsv : a.eval s = v) (hx : a.eval x = .slice (some ⟨g, 0, none⟩) q c) (hl : qs.length = q * sz) (hq : w.rangeAt g 0 qs) (h1 : ∀ u ∈ qs, u.oneCell' = true) (hB : B ≤ w.heap.size) (hn : n + q ≤ 1000000)
    (hk : ∀ v' w', Hid (w'.ownsRow B e sz v' (n + q) (cs ++ qs)) → Hid (w.grownBy w' v.ownBlock) → wpList P ops Q rest (a.put o.dst v') w') : wpList P ops Q (o :: rest) a w := by
  refine wpList_plain hgd fun K hK => ?_
  obtain ⟨v', w', hr, h2, h3, _⟩ := run_append_own_wide (P := P) w B t o.type e i z sz i.bytes ht hi hz hs rfl hzs hsz v n cs h ⟨g, 0, none⟩ q c qs hl (fun j u hu => by rw [Addr.add_lit]; exact hq j u hu) h1 (by unfold maxLen; omega) (Nat.le_trans (Nat.mul_le_mul_left _ hby) (by omega)) hB
  unfold Oper.wp execOp
  simp only [hop, resolve, invoke, builtin, Sem.run_bind, Sem.run_pure, Result.andThen_ok, List.map_toArray, List.map_cons, List.map_nil, hsv, hx, hr]
  exact hK _ _ (hk v' w' h2 h3)
theorem info9 : ∃ i, Try.prog.info? 9 = some i ∧ i.zero = some (.string ⟨#[]⟩) ∧ i.size = 1 ∧ i.bytes = 16 := by
  have h : (Try.prog.info? 9).map (fun i => (i.zero, i.size, i.bytes)) = some (some (.string ⟨#[]⟩), 1, 16) := by kernel_rfl
  obtain ⟨i, hi, he⟩ := Option.map_eq_some_iff.1 h
  simp only [Prod.mk.injEq] at he
  exact ⟨i, hi, he⟩
theorem HMR.left {w : World} {b r : Nat} {es left : List Ent} (h : HMR w b r es left) : w.rangeLeft b r = left.length := by
  obtain ⟨clock, seen, h1, h2, h3, _⟩ := h
  unfold World.rangeLeft
  rw [h1, h2]
  have := congrArg List.length (filter_seen es seen)
  simp only [List.length_map, ← h3] at this
  simpa using this
/-- a vote's kind -/
def kd (so : Int) : Value → Bool
  | .int _ z => z == so
  | _ => false
/-- who voted so, in the order in which they were met -/
def whoE (so : Int) (es : List Ent) : List Hs := (es.filter fun e => kd so e.v).map (·.k)
def whoV (l : List (Hs × Int)) (so : Int) : List Hs := (l.filter fun r => r.2 == so).map (·.1)
theorem whoE_votes {es : List Ent} {l : List (Hs × Int)} (so : Int) (he : es.map (fun e => (e.k, e.v)) = votesKv l) : whoE so es = whoV l so := by
  induction es generalizing l with
  | nil =>
    cases l with
    | nil => rfl
    | cons r l => simp [votesKv] at he
  | cons e es ih =>
    cases l with
    | nil => simp [votesKv] at he
    | cons r l =>
      simp only [List.map_cons, votesKv, List.cons.injEq, Prod.mk.injEq] at he
      obtain ⟨⟨h1, h2⟩, h3⟩ := he
      have := ih (l := l) h3
      unfold whoE whoV at *
      rw [List.filter_cons, List.filter_cons, h2]
      show (if (r.2 == so) = true then _ else _ : List Ent).map _ = _
      cases hc : (r.2 == so)
      · simpa [hc] using this
      · simp [h1, this]
theorem ownsRow_below {w w' : World} {B e sz n : Nat} {v : Value} {cs : List Value} (h : w.ownsRow B e sz v n cs) (hb : Below w.heap.size w w') : w'.ownsRow B e sz v n cs := by
  refine ⟨h.1, ?_⟩
  rcases h.2 with hn | ⟨g, cap, cur, rfl, hB, hbk, hr⟩
  · exact .inl hn
  · exact .inr ⟨g, cap, cur, rfl, hB, (hb.block g (lt_of_block hbk)).trans hbk, hr⟩
/-- what the range keeps -/
def VInv (w wr : World) (vb r0 : Nat) (so : Int) (es left : List Ent) (ks : List Hs) (v : Value) : Prop :=
  HMR wr vb r0 es left ∧ Below w.heap.size w wr ∧ (ks ++ whoE so left).Perm (whoE so es) ∧ wr.ownsRow w.heap.size 9 1 v ks.length (ks.map hv) ∧ v.ownBlock ≠ some r0 ∧ ∀ e ∈ left, ∃ z : Int, e.v = iv z
theorem whoE_len (so : Int) (es : List Ent) : (whoE so es).length ≤ es.length := by unfold whoE; rw [List.length_map]; exact List.length_filter_le _ _
theorem run_bs40 (s : BA) (W : World) : (Instr.buildSlice 40 1 #[(0, .string s)]).run Try.prog W = .ok (.slice (some ⟨W.heap.size, 0, none⟩) 1 1) (W.alloc (.cells #[.string s] 9)) := by
  kernel_rfl
set_option maxRecDepth 100000 in
set_option maxHeartbeats 2000000 in
theorem voters_is {w : World} {g o vb : Nat} {l : List (Hs × Int)} (hc : w.cell? ⟨g, o + 34, none⟩ = some (.map (some vb))) (hm : MP w vb (votesKv l)) (hn : l.length ≤ 1000) (so : Int) :
    Calls Try.prog 41 #[.pointer (some ⟨g, o, none⟩), iv so] w fun e w' => ∃ v, e = .returned v ∧ w'.ownsRow w.heap.size 9 1 v (whoV l so).length ((sortK (whoV l so)).map hv) ∧ Below w.heap.size w w' := by
  obtain ⟨es, hM, he⟩ := hm
  obtain ⟨w1, hrun, hR, hbel, hsz⟩ := hM.range (t := 85) Try.underlying85
  obtain ⟨r0, hr0⟩ : ∃ r0, w.heap.size = r0 := ⟨_, rfl⟩
  have HE : Hid (whoE so es = whoV l so ∧ es.length ≤ 1000) := ⟨whoE_votes so he, by
    have := congrArg List.length he
    rw [List.length_map, votesKv, List.length_map] at this
    show _ ≤ _
    omega⟩
  rw [hr0] at hrun hR
  have HV : Hid (VInv w w1 vb r0 so es es [] (.slice none 0 0)) := ⟨hR, hbel, List.Perm.refl _, ⟨rfl, .inl ⟨rfl, rfl⟩⟩, by simp [Value.ownBlock], fun e hee => by
    have : (e.k, e.v) ∈ votesKv l := by rw [← he]; exact List.mem_map.2 ⟨e, hee, rfl⟩
    obtain ⟨r, _, hre⟩ := List.mem_map.1 this
    exact ⟨r.2, (congrArg Prod.snd hre).symm⟩⟩
  have HR0 : Hid (w.heap.size = r0) := hr0
  clear hM he hR hbel hsz hr0 hn
  go_enter Try.func41, Try.ntmps41
  go_wp2
  go_loopw [5] (fun u wr => ∃ (ks : List Hs) (left : List Ent), Hid (VInv w wr vb r0 so es left ks u)) (fun _ wr => wr.rangeLeft vb r0)
  case atStart => exact ⟨[], es, HV⟩
  case round =>
    obtain ⟨ks, left, HB⟩ := hrel
    have HLL : Hid (wr.rangeLeft vb r0 = left.length) := HB.out.1.left
    have HKL : Hid (ks.length + (whoE so left).length ≤ 1000) := by
      show _ ≤ _
      have h1 := HB.out.2.2.1.length_eq
      rw [List.length_append] at h1
      have := whoE_len so es
      have := HE.out.2
      omega
    clear hrun hc
    rcases HB.out.1.next 0 with ⟨h0, hrun⟩ | ⟨e, left', w3, he, hp, hrun, h3, hg3, hz3, hen⟩
    · have HP : Hid (ks.Perm (whoV l so)) := by
        show List.Perm _ _
        have h1 := HB.out.2.2.1
        rw [h0, show whoE so [] = [] from rfl, List.append_nil, HE.out.1] at h1
        exact h1
      have HSORT := sort_is HB.out.2.2.2.1 (by have := HKL.out; omega)
      clear h0
      go_wp2_with fail
      refine HSORT.mono ?_
      rintro e w4 ⟨rfl, k1, k2⟩
      have HF : Hid (w4.ownsRow w.heap.size 9 1 u5 (whoV l so).length ((sortK (whoV l so)).map hv) ∧ Below w.heap.size w w4) := by
        refine ⟨?_, HB.out.2.1.grown k2 HB.out.2.1.size (fun j hj => (HB.out.2.2.2.1.lt j hj).1)⟩
        rw [← HP.out.length_eq, show sortK (whoV l so) = sortK ks from (mergeSort_of_perm HP.out).symm]
        exact k1
      clear HSORT k1 k2
      go_wp2
      go_ret
      exact ⟨_, rfl, HF.out.1, HF.out.2⟩
    · obtain ⟨z, hz⟩ := HB.out.2.2.2.2.2 e he
      rw [hz] at hrun hen
      rw [show hv e.k = .string ⟨e.k.toArray⟩ from rfl] at hrun hen
      have HN : Hid (HMR w3 vb r0 es left' ∧ Below w.heap.size w w3 ∧ w3.ownsRow w.heap.size 9 1 u5 ks.length (ks.map hv) ∧ (∀ x ∈ left', ∃ z : Int, x.v = iv z) ∧ left.length = left'.length + 1) := by
        refine ⟨h3, HB.out.2.1.grown hg3 HB.out.2.1.size (fun j hj => by cases hj; rw [HR0.out]; exact Nat.le_refl _), ?_, fun x hx => HB.out.2.2.2.2.2 x (hp.mem_iff.2 (List.mem_cons_of_mem _ hx)), by rw [hp.length_eq]; rfl⟩
        refine ⟨HB.out.2.2.2.1.1, ?_⟩
        rcases HB.out.2.2.2.1.2 with hnil | ⟨g', cap, cur, hv', hB, hbk, hrest⟩
        · exact .inl hnil
        · exact .inr ⟨g', cap, cur, hv', hB, (hg3.block g' (lt_of_block hbk) (fun hk => HB.out.2.2.2.2.1 (by rw [hv']; exact hk))).trans hbk, hrest⟩
      have HPM : Hid ((ks ++ whoE so left).Perm (ks ++ (if z == so then [e.k] else []) ++ whoE so left')) := by
        show List.Perm _ _
        have h1 : (whoE so left).Perm (whoE so (e :: left')) := (hp.filter _).map _
        refine (h1.append_left ks).trans ?_
        unfold whoE
        rw [List.filter_cons, hz]
        show List.Perm (ks ++ (if (z == so) = true then _ else _ : List Ent).map _) _
        cases hq : (z == so)
        · simp
        · simp
      obtain ⟨ek, hek⟩ : ∃ ek : BA, (⟨e.k.toArray⟩ : ByteArray) = ek := ⟨_, rfl⟩
      have HEK : Hid (hv e.k = .string ek) := by rw [← hek]; rfl
      rw [hek] at hrun hen
      clear he hp h3 hg3 hz3 hz hek
      cases h2 : (z == so)
      · have HF : Hid (VInv w w3 vb r0 so es left' ks u5) := by
          have h5 := HPM.out
          rw [h2] at h5
          simp only [Bool.false_eq_true, if_false, List.append_nil] at h5
          exact ⟨HN.out.1, HN.out.2.1, h5.symm.trans HB.out.2.2.1, HN.out.2.2.1, HB.out.2.2.2.2.1, HN.out.2.2.2.1⟩
        go_wp2
        go_roundw
        case rel => exact ⟨ks, left', HF⟩
        case measure => rw [HF.out.1.left, HLL.out, HN.out.2.2.2.2]; omega
      · obtain ⟨i0, hi0, hz0, hz1, hz2⟩ := info9
        have HI0 : Hid (Try.prog.info? 9 = some i0 ∧ i0.zero = some (.string ⟨#[]⟩) ∧ i0.size = 1 ∧ i0.bytes = 16) := ⟨hi0, hz0, hz1, hz2⟩
        have h5 := HPM.out
        rw [h2] at h5
        have HPM2 : Hid ((ks ++ whoE so left).Perm (ks ++ [e.k] ++ whoE so left')) := h5
        have hbs := run_bs40 ek
        clear hi0 hz0 hz1 hz2 h5
        go_wp2_with (with_reducible change wpList _ _ _ ({ dst := some 24, op := _, type := _, pos := _, after := _, guard := _ } :: _) _ _; refine Hid.out ?_)
        show wpList _ _ _ _ _ _
        have HOW : Hid ((w3.alloc (.cells #[.string ek] 9)).ownsRow w.heap.size 9 1 u5 ks.length (ks.map hv)) := ownsRow_below HN.out.2.2.1 (below_al w3 _)
        refine wpList_append_own1 rfl (.tmp 21) (.tmp 23) 40 rfl _ 9 i0 _ 1 w.heap.size Try.underlying40 HI0.out.1 HI0.out.2.1 HI0.out.2.2.1 (by rw [HI0.out.2.2.2]; omega) rfl (by omega) u5 _ _ HOW.out w3.heap.size 1 1 [.string ek] rfl rfl rfl (range_new w3 [.string ek] 9) (by intro u hu; simp at hu; subst hu; rfl) (by have := HN.out.2.1.size; simp; omega) (by have := HKL.out; omega) ?_
        intro v5 w5 ho5 hg5
        have HF : Hid (VInv w w5 vb r0 so es left' (ks ++ [e.k]) v5) := by
          have hr3 := HN.out.1
          have hlt := hr3.lt
          have hg5' := hg5.out
          have hbel : Below w.heap.size w (w3.alloc (.cells #[.string ek] 9)) := below_tr HN.out.2.1 (below_al _ _)
          have hown : ∀ j, u5.ownBlock = some j → w.heap.size ≤ j := fun j hj => (HN.out.2.2.1.lt j hj).1
          have hvne : u5.ownBlock ≠ some vb := fun hk => by
            have h6 := HN.out.2.2.1.2
            rcases h6 with ⟨h6, _⟩ | ⟨g', cap, cur, h6, _, hbk, _⟩
            · rw [h6] at hk; cases hk
            · rw [h6] at hk
              cases hk
              obtain ⟨clock, seen, hmb, _⟩ := hr3
              rw [hmb] at hbk; cases hbk
          have hs1 : ∀ k, k < w3.heap.size → u5.ownBlock ≠ some k → w5.heap[k]? = w3.heap[k]? := fun k hk hne => (hg5'.block k (by simp; omega) (fun e => hne e.symm)).trans (Below.heap_alloc w3 _ k hk)
          refine ⟨hr3.same (hs1 vb hlt.1 hvne) (hs1 r0 hlt.2.1 HB.out.2.2.2.2.1), hbel.grown hg5' hbel.size (fun j hj => hown j hj), ?_, ?_, ?_, HN.out.2.2.2.1⟩
          · exact (HPM2.out.symm).trans HB.out.2.2.1
          · have := ho5.out
            rw [List.map_append, List.length_append]
            show w5.ownsRow w.heap.size 9 1 v5 (ks.length + 1) (ks.map hv ++ [hv e.k])
            rw [HEK.out]
            exact this
          · intro hk
            have h6 := ho5.out.2
            rcases h6 with ⟨h6, _⟩ | ⟨g', cap, cur, h6, _, hbk, _⟩
            · rw [h6] at hk; cases hk
            · obtain ⟨clock, seen, _, hit, _⟩ := hr3.same (w' := w5) (hs1 vb hlt.1 hvne) (hs1 r0 hlt.2.1 HB.out.2.2.2.2.1)
              rw [h6] at hk
              cases hk
              rw [hit] at hbk; cases hbk
        clear ho5 hg5
        go_wp2
        go_roundw
        case rel => exact ⟨_, left', HF⟩
        case measure => rw [HF.out.1.left, HLL.out, HN.out.2.2.2.2]; omega
#print axioms voters_is
end Go.Proofs.Ytaecigpjcbjcbaa.Oct
