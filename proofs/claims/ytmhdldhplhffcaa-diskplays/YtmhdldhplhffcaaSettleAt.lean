/-
  Layer 5 (disk): the pending writes at some places made sure.
-/
import Derived.Test.YtmhdldhplhffcaaFlush
import Derived.Test.YtmhdldhplhffcaaRising
namespace Go.Proofs.Ytmhdldhplhffcaa.Oct
open Go.RowKit Go.Maps Go.Lib

theorem kept_congr {P Q : List Int} (h : ∀ z, z ∈ P ↔ z ∈ Q) (l : List (Nat × List UInt8)) : kept P l = kept Q l := by
  unfold kept
  congr 2
  funext x
  simp [h]
theorem kept_append (P : List Int) (l r : List (Nat × List UInt8)) : kept P (l ++ r) = kept P l ++ ((r.zipIdx l.length).filter (fun x => decide ((x.2 : Int) ∈ P))).map (·.1) := by
  unfold kept
  rw [List.zipIdx_append, List.filter_append, List.map_append, Nat.zero_add]
theorem kept_all {P : List Int} {l r : List (Nat × List UInt8)} (h : ∀ z ∈ P, z < l.length) : kept P (l ++ r) = kept P l := by
  rw [kept_append]
  have : (r.zipIdx l.length).filter (fun x => decide ((x.2 : Int) ∈ P)) = [] := by
    rw [List.filter_eq_nil_iff]
    intro x hx hd
    have h1 := h _ (of_decide_eq_true hd)
    have h2 := List.le_snd_of_mem_zipIdx hx
    omega
  rw [this]
  simp
theorem kept_snoc_in {P : List Int} {l : List (Nat × List UInt8)} {x : Nat × List UInt8} (h : (l.length : Int) ∈ P) : kept P (l ++ [x]) = kept P l ++ [x] := by
  rw [kept_append]; simp [h]
theorem kept_snoc_out {P : List Int} {l : List (Nat × List UInt8)} {x : Nat × List UInt8} (h : (l.length : Int) ∉ P) : kept P (l ++ [x]) = kept P l := by
  rw [kept_append]; simp [h]
theorem kept_length (P : List Int) (l : List (Nat × List UInt8)) : (kept P l).length ≤ l.length := by
  unfold kept
  rw [List.length_map]
  exact Nat.le_trans (List.length_filter_le ..) (by simp)

/-- those places that are still to come -/
structure Rest (P R : List Int) (t : Nat) : Prop where
  rises : R.Pairwise (· < ·)
  least : ∀ z ∈ R, (t : Int) ≤ z
  same : ∀ z, (t : Int) ≤ z → (z ∈ R ↔ z ∈ P)
theorem Rest.none {P : List Int} {t : Nat} (h : Rest P [] t) : ∀ z ∈ P, z < t := fun z hz => Classical.byContradiction fun c => by
  have := (h.same z (by omega)).2 hz
  cases this
theorem Rest.skip {P R : List Int} {t : Nat} {z : Int} (h : Rest P (z :: R) t) (hz : (t : Int) < z) : Rest P (z :: R) (t + 1) ∧ (t : Int) ∉ P := by
  have hl : ∀ y ∈ z :: R, z ≤ y := fun y hy => by
    rcases List.mem_cons.1 hy with rfl | hy
    · exact Int.le_refl _
    · exact Int.le_of_lt ((List.pairwise_cons.1 h.rises).1 y hy)
  refine ⟨⟨h.rises, fun y hy => by have := hl y hy; omega, fun y hy => h.same y (by omega)⟩, fun hm => ?_⟩
  have := hl _ ((h.same t (Int.le_refl _)).2 hm)
  omega
theorem Rest.take {P R : List Int} {t : Nat} {z : Int} (h : Rest P (z :: R) t) (hz : ¬ (t : Int) < z) : Rest P R (t + 1) ∧ (t : Int) ∈ P := by
  have hzt : z = t := by have := h.least z (List.mem_cons_self ..); omega
  subst hzt
  obtain ⟨h1, h2⟩ := List.pairwise_cons.1 h.rises
  refine ⟨⟨h2, fun y hy => by have := h1 y hy; omega, fun y hy => ?_⟩, (h.same _ (Int.le_refl _)).1 (List.mem_cons_self ..)⟩
  rw [← h.same y (by omega), List.mem_cons]
  constructor
  · exact .inr
  · rintro (rfl | h)
    · omega
    · exact h

theorem elem31 : Try.prog.underlying 31 = some (.slice (Try.prog.elem 31)) := by kernel_rfl
theorem size31 : (Try.prog.info? (Try.prog.elem 31)).map (·.size) = some 1 := by kernel_rfl
theorem wpList_slice_from {ops : Array Oper} {rest : List Oper} {o : Oper} {a : Act} {Q : Exit → Act → World → Prop} {w : World} (hgd : o.guard = none) (x lo : Operand) (hop : o.op = Op.slice 31 x (some lo) none none)
    (v v' : Value) (s : Nat) (hx : a.eval x = v) (hlo : a.eval lo = .int .i64 (s : Int)) (hrun : ∀ W, (Instr.slice 31 v (some (.int .i64 (s : Int))) none none).run Try.prog W = .ok v' W)
    (h : wpList Try.prog ops Q rest (a.put o.dst v') w) : wpList Try.prog ops Q (o :: rest) a w := by
  refine wpList_plain hgd fun K hK => ?_
  unfold Oper.wp
  have hv := hrun w
  cases v with
  | slice a1 n1 c1 =>
    simp [execOp, hop, hx, hlo, run_sliceAt_slice _ 31 _ _ _ _ elem31, hrun, Result.andThen]
    exact hK _ _ h
  | _ => simp [Instr.slice, run_underlying elem31] at hv

/-- places that are read, in a block that is not bs -/
def InP (bs : Nat) (w : World) (a : Option Addr) (len cap : Nat) (l : List Int) : Prop :=
  l.length = len ∧ len ≤ cap ∧ (0 < len → ∃ b off, a = some ⟨b, off, none⟩ ∧ b < w.heap.size ∧ b ≠ bs ∧ ∀ i z, l[i]? = some z → w.cell? ⟨b, off + i, none⟩ = some (.int .i64 z))
theorem InP.tail {bs : Nat} {w : World} {a : Option Addr} {k c : Nat} {z : Int} {l : List Int} (h : InP bs w a k c (z :: l)) :
    ∃ a', (∀ W, (Instr.slice 31 (.slice a k c) (some (.int .i64 ((1 : Nat) : Int))) none none).run Try.prog W = .ok (.slice a' (k - 1) (c - 1)) W) ∧ InP bs w a' (k - 1) (c - 1) l := by
  obtain ⟨i, hi, hsz⟩ := Option.map_eq_some_iff.1 size31
  obtain ⟨h1, h2, h3⟩ := h
  simp at h1
  refine ⟨if c = 1 then a else a.map (·.add 1), fun W => ?_, by omega, by omega, fun hp => ?_⟩
  · simp [Instr.slice, run_underlying elem31, Instr.sliceBounds, Instr.sliceBound, asIntOf, sizeOf, typeInfo, hi, hsz]
    intro hlt
    omega
  · have hc1 : ¬ c = 1 := by omega
    obtain ⟨b, off, rfl, e2, e3, e4⟩ := h3 (by omega)
    rw [if_neg hc1]
    refine ⟨b, off + 1, by simp [Addr.add_lit], e2, e3, fun i y hy => ?_⟩
    rw [show off + 1 + i = off + (i + 1) by omega]
    exact e4 (i + 1) y (by simpa using hy)
theorem InP.head {bs : Nat} {w wr : World} {a : Option Addr} {k c : Nat} {z : Int} {l : List Int} (h : InP bs w a k c (z :: l)) (hk : Keep (fun k => k = bs) w wr) : 0 < k ∧ ∃ b off, a = some ⟨b, off, none⟩ ∧ wr.cell? ⟨b, off, none⟩ = some (.int .i64 z) := by
  obtain ⟨h1, h2, h3⟩ := h
  simp at h1
  obtain ⟨b, off, rfl, e2, e3, e4⟩ := h3 (by omega)
  refine ⟨by omega, b, off, rfl, ?_⟩
  rw [World.cell?_of_block (a := ⟨b, off, none⟩) (hk.block b e2 e3)]
  exact e4 0 z rfl

set_option maxHeartbeats 1000000 in
set_option maxRecDepth 100000 in
theorem settleAt_is {w : World} {d bs bl : Nat} {pv : Value} {nS nL : Nat} {DS DL : DataW Unit} {D : Disk} (h : DkAt w d bs bl pv nS nL DS DL D) (hn : D.ops < 1000000000000) (P : List Int) (hP : P.Pairwise (· < ·)) (hP2 : ∀ z ∈ P, 0 ≤ z)
    (a0 : Option Addr) (k0 c0 : Nat) (hin : InP bs w a0 k0 c0 P) :
    Calls Try.prog 37 #[.pointer (some ⟨d, 0, none⟩), .slice a0 k0 c0] w fun e w' => e = .returned (.tuple #[]) ∧ Part w d bs bl pv nS D (kept P D.pend) w' := by
  obtain ⟨Z, hZ, HZ⟩ := zero75
  obtain ⟨ao, cap, rfl, hao⟩ := row_opt h.row
  obtain ⟨n, hnl⟩ : ∃ n, n = D.pend.length := ⟨_, rfl⟩
  rw [← hnl] at h hao ⊢
  have HA : Hid (DkAt w d bs bl (.slice ao n cap) nS nL DS DL D) := h
  have HNL : Hid (n = D.pend.length) := hnl
  have HAO : Hid (0 < n → ∃ g, ao = some ⟨g, 0, none⟩ ∧ g < w.heap.size) := hao
  have HNN : Hid (n < 1000000000000 ∧ nS + n < 1000000000000) := by have := h.roomS; exact ⟨by omega, by omega⟩
  have qn : (n : Int) < 1000000000000 := by have := HNN.out.1; omega
  have HIN : Hid (InP bs w a0 k0 c0 P) := hin
  have HR0 : Hid (Rest P P 0) := ⟨hP, fun z hz => by simpa using hP2 z hz, fun z _ => Iff.rfl⟩
  have c2 := h.c2
  clear h hn hnl hao hin hP hP2
  go_enter Try.func37, Try.ntmps37
  go_wp2_with fail
  go_step3
  go_wp2_with fail
  go_step3
  go_wp2_with fail
  clear c2
  go_loopw [11, 1] (fun i v wr => ∃ (t : Nat) (a' : Option Addr) (k c : Nat) (R : List Int), i = .int .i64 t ∧ v = .slice a' k c ∧ t ≤ n ∧ Hid (InP bs w a' k c R ∧ Rest P R t) ∧ Hid (Part w d bs bl (.slice ao n cap) nS D (kept P (D.pend.take t)) wr)) (fun i _ _ => n - (intOf i).toNat)
  case atStart => exact ⟨0, a0, k0, c0, P, rfl, rfl, Nat.zero_le _, ⟨HIN.out, HR0.out⟩, Part.start HA.out⟩
  case round =>
    obtain ⟨t, a', k, c, R, rfl, rfl, ht, hR, hp⟩ := hrel
    by_cases hlt : t = n
    · have q1 : ¬ ((t : Int) < (n : Int)) := by omega
      have HP : Hid (Part w d bs bl (.slice ao n cap) nS D (kept P D.pend) wr) := by
        have := hp.out
        rw [show D.pend.take t = D.pend by rw [hlt, HNL.out, List.take_length]] at this
        exact this
      clear hp
      go_wp2
      go_end0
      exact ⟨rfl, HP.out⟩
    · have q1 : (t : Int) < (n : Int) := by omega
      have hlt' : t < n := by omega
      obtain ⟨g, hg, hgl⟩ := HAO.out (by omega)
      subst hg
      obtain ⟨x, hx⟩ : ∃ x, D.pend[t]? = some x := ⟨_, List.getElem?_eq_getElem (by rw [← HNL.out]; exact hlt')⟩
      have HX : Hid (x.1 < D.n ∧ x.2.length = 256 ∧ D.n ≤ 4096) := ⟨(HA.out.good.2.2.2.1 x (List.mem_of_getElem? hx)).1, (HA.out.good.2.2.2.1 x (List.mem_of_getElem? hx)).2, HA.out.good.2.1⟩
      have HR : Hid (wr.rangeAt g (t * 257) (wc x)) := by
        have hrow := row_kept hp.out.keep HA.out.row (fun k hk e => (HA.out.pv_ne hk).2.1 e)
        exact row_range (n := n) (by rw [HNL.out]; rw [HNL.out] at hrow; exact hrow) (fun y hy => (HA.out.good.2.2.2.1 y hy).2) HNL.out.symm hx
      have HWC : Hid ((Try.prog.info? 75).map (·.size) = some (wc x).length) := by show _ = _; rw [wc_length HX.out.2.1]; exact size75
      have HTK : Hid (D.pend.take (t + 1) = D.pend.take t ++ [x] ∧ (D.pend.take t).length = t) := ⟨by rw [List.take_add_one, hx]; rfl, by rw [List.length_take, ← HNL.out]; omega⟩
      have HBZ : Hid (Blk (wr.alloc (.cells Z.toArray 75)) wr.heap.size 75 Z) := Blk.new wr Z.toArray 75
      have HKZ : Hid (Keep (fun _ => False) wr (wr.alloc (.cells Z.toArray 75))) := Keep.below ((Below.refl _ wr).alloc (Nat.le_refl _) _)
      have hw : IntKind.i64.wrap ((t : Int) + 1) = (t : Int) + 1 := wrapi (by omega) (by omega)
      clear hx ht
      cases R with
      | nil =>
        have hk : k = 0 := hR.out.1.1.symm
        subst hk
        have HP : Hid (kept P D.pend = kept P (D.pend.take t)) := by
          show _ = _
          conv => lhs; rw [← List.take_append_drop t D.pend]
          exact kept_all (fun z hz => by rw [HTK.out.2]; exact hR.out.2.none z hz)
        go_wp2_with (first
          | (with_reducible change wpList _ _ _ ({ dst := some 15, op := Op.load 75 _, type := _, pos := _, after := _, guard := _ } :: _) _ _; refine wpList_load_mid rfl 75 (.tmp 14) rfl g (t * 257) rfl (wc x) _ HR.out Try.underlying75 rfl HWC.out ?_)
          | (with_reducible change wpList _ _ _ ({ dst := none, op := Op.store 75 _ _, type := _, pos := _, after := _, guard := _ } :: _) _ _; refine wpList_store_blk rfl 75 (.tmp 5) (.tmp 15) rfl wr.heap.size 0 75 Z (wc x) rfl rfl HBZ.out (by rw [wc_length HX.out.2.1, HZ.out]; omega) HWC.out (wc_one x) ?_
             intro w2 hb2 hg2
             have HB2 : Hid (Blk w2 wr.heap.size 75 (wc x)) := copied75 (wc_length HX.out.2.1) HZ.out hb2.out
             have HK2 : Hid (Keep (fun _ => False) wr w2) := ⟨hg2.out.os, hg2.out.tape, hg2.out.output, Nat.le_trans HKZ.out.size hg2.out.size, fun k hk hne => (hg2.out.block k (Nat.lt_of_lt_of_le hk HKZ.out.size) (fun e => by cases e; exact absurd hk (Nat.lt_irrefl _))).trans (HKZ.out.block k hk hne)⟩
             have HR2 : Hid (w2.rangeAt wr.heap.size 0 (wc x)) := (by
               intro j v hj
               rw [Nat.zero_add]
               exact HB2.out.cell hj)
             have HKB : Hid (Keep (fun k => k = bs) wr w2) := HK2.out.mono (fun _ _ e => e.elim)
             clear hb2 hg2))
        simp only [Exit.noGoto]
        go_end0
        refine ⟨rfl, ?_⟩
        rw [HP.out]
        exact ⟨by obtain ⟨DS2, m1, m2⟩ := hp.out.sure; exact ⟨DS2, HK2.out.owns m1 (fun e => e), m2⟩, hp.out.keep.trans HKB.out (fun j hj _ => hj)⟩
      | cons z R =>
        obtain ⟨hk0, b, off, hab, hcell⟩ := hR.out.1.head hp.out.keep
        subst hab
        obtain ⟨k, rfl⟩ : ∃ k', k = k' + 1 := ⟨k - 1, by omega⟩
        clear hk0
        have HBL : Hid (b < wr.heap.size) := World.block_lt_of_cell? wr _ hcell
        have hcz : (wr.alloc (.cells Z.toArray 75)).cell? ⟨b, off, none⟩ = some (.int .i64 z) := by rw [World.cell?_alloc_some _ _ _ (by rw [hcell]; rfl)]; exact hcell
        by_cases hz : (t : Int) < z
        · obtain ⟨hr2, hnp⟩ := hR.out.2.skip hz
          have HN : Hid (InP bs w (some ⟨b, off, none⟩) (k + 1) c (z :: R) ∧ Rest P (z :: R) (t + 1)) := ⟨hR.out.1, hr2⟩
          have HP : Hid (kept P (D.pend.take (t + 1)) = kept P (D.pend.take t)) := by
            show _ = _
            rw [HTK.out.1]
            exact kept_snoc_out (by rw [HTK.out.2]; exact hnp)
          clear hr2 hnp
          have HLT : Hid (t < n) := hlt'
          clear hlt hlt' qn
          go_wp2_with (first
            | (with_reducible change wpList _ _ _ ({ dst := some 15, op := Op.load 75 _, type := _, pos := _, after := _, guard := _ } :: _) _ _; refine wpList_load_mid rfl 75 (.tmp 14) rfl g (t * 257) rfl (wc x) _ HR.out Try.underlying75 rfl HWC.out ?_)
            | (with_reducible change wpList _ _ _ ({ dst := none, op := Op.store 75 _ _, type := _, pos := _, after := _, guard := _ } :: _) _ _; refine wpList_store_blk rfl 75 (.tmp 5) (.tmp 15) rfl wr.heap.size 0 75 Z (wc x) rfl rfl HBZ.out (by rw [wc_length HX.out.2.1, HZ.out]; omega) HWC.out (wc_one x) ?_
               intro w2 hb2 hg2
               have HB2 : Hid (Blk w2 wr.heap.size 75 (wc x)) := copied75 (wc_length HX.out.2.1) HZ.out hb2.out
               have HK2 : Hid (Keep (fun _ => False) wr w2) := ⟨hg2.out.os, hg2.out.tape, hg2.out.output, Nat.le_trans HKZ.out.size hg2.out.size, fun k hk hne => (hg2.out.block k (Nat.lt_of_lt_of_le hk HKZ.out.size) (fun e => by cases e; exact absurd hk (Nat.lt_irrefl _))).trans (HKZ.out.block k hk hne)⟩
               have HR2 : Hid (w2.rangeAt wr.heap.size 0 (wc x)) := (by
                 intro j v hj
                 rw [Nat.zero_add]
                 exact HB2.out.cell hj)
               have HKB : Hid (Keep (fun k => k = bs) wr w2) := HK2.out.mono (fun _ _ e => e.elim)
               have hc2 : w2.cell? ⟨b, off, none⟩ = some (.int .i64 z) := (by rw [World.cell?_of_block (a := ⟨b, off, none⟩) (HK2.out.block b HBL.out (fun e => e))]; exact hcell)
               clear hb2 hg2 q1))
          refine ⟨⟨t + 1, some ⟨b, off, none⟩, k + 1, c, z :: R, by simp, rfl, by have := HLT.out; omega, HN, ?_⟩, by have := HLT.out; simp only [intOf]; omega⟩
          show Part _ _ _ _ _ _ _ _ _
          rw [HP.out]
          exact ⟨by obtain ⟨DS2, m1, m2⟩ := hp.out.sure; exact ⟨DS2, HK2.out.owns m1 (fun e => e), m2⟩, hp.out.keep.trans HKB.out (fun j hj _ => hj)⟩
        · obtain ⟨hr2, hnp⟩ := hR.out.2.take hz
          obtain ⟨a2, hsl, hin2⟩ := hR.out.1.tail
          have HSL : Hid (∀ W, (Instr.slice 31 (.slice (some ⟨b, off, none⟩) (k + 1) c) (some (.int .i64 ((1 : Nat) : Int))) none none).run Try.prog W = .ok (.slice a2 k (c - 1)) W) := hsl
          have HN : Hid (InP bs w a2 k (c - 1) R ∧ Rest P R (t + 1)) := ⟨hin2, hr2⟩
          have HP : Hid (kept P (D.pend.take (t + 1)) = kept P (D.pend.take t) ++ [x] ∧ (kept P (D.pend.take t)).length ≤ n) := by
            refine ⟨?_, Nat.le_trans (kept_length ..) (by rw [HTK.out.2]; omega)⟩
            rw [HTK.out.1]
            exact kept_snoc_in (by rw [HTK.out.2]; exact hnp)
          clear hr2 hnp hsl hin2
          have HLT : Hid (t < n) := hlt'
          clear hlt hlt' qn
          go_wp2_with (first
            | (with_reducible change wpList _ _ _ ({ dst := some 15, op := Op.load 75 _, type := _, pos := _, after := _, guard := _ } :: _) _ _; refine wpList_load_mid rfl 75 (.tmp 14) rfl g (t * 257) rfl (wc x) _ HR.out Try.underlying75 rfl HWC.out ?_)
            | (with_reducible change wpList _ _ _ ({ dst := none, op := Op.store 75 _ _, type := _, pos := _, after := _, guard := _ } :: _) _ _; refine wpList_store_blk rfl 75 (.tmp 5) (.tmp 15) rfl wr.heap.size 0 75 Z (wc x) rfl rfl HBZ.out (by rw [wc_length HX.out.2.1, HZ.out]; omega) HWC.out (wc_one x) ?_
               intro w2 hb2 hg2
               have HB2 : Hid (Blk w2 wr.heap.size 75 (wc x)) := copied75 (wc_length HX.out.2.1) HZ.out hb2.out
               have HK2 : Hid (Keep (fun _ => False) wr w2) := ⟨hg2.out.os, hg2.out.tape, hg2.out.output, Nat.le_trans HKZ.out.size hg2.out.size, fun k hk hne => (hg2.out.block k (Nat.lt_of_lt_of_le hk HKZ.out.size) (fun e => by cases e; exact absurd hk (Nat.lt_irrefl _))).trans (HKZ.out.block k hk hne)⟩
               have HR2 : Hid (w2.rangeAt wr.heap.size 0 (wc x)) := (by
                 intro j v hj
                 rw [Nat.zero_add]
                 exact HB2.out.cell hj)
               have HKB : Hid (Keep (fun k => k = bs) wr w2) := HK2.out.mono (fun _ _ e => e.elim)
               have hc2 : w2.cell? ⟨b, off, none⟩ = some (.int .i64 z) := (by rw [World.cell?_of_block (a := ⟨b, off, none⟩) (HK2.out.block b HBL.out (fun e => e))]; exact hcell)
               clear hb2 hg2 q1)
            | (with_reducible change wpList _ _ _ ({ dst := some 27, op := Op.load 75 _, type := _, pos := _, after := _, guard := _ } :: _) _ _; refine wpList_load_mid rfl 75 (.tmp 5) rfl wr.heap.size 0 rfl (wc x) _ HR2.out Try.underlying75 rfl HWC.out ?_))
          obtain ⟨DS2, hm1, hm2⟩ := hp.out.sure
          have hB := (hp.out.keep.trans HKB.out (fun j hj _ => hj)).blk HA.out.blk (fun e => HA.out.d_bs e)
          refine (settle_is d bs (nS + (kept P (D.pend.take t)).length) DS2 _ x _ rfl (by have := HX.out; omega) HX.out.2.1 w2 (hB.cell rfl) hB.lt HA.out.d_bs (HK2.out.owns hm1 (fun e => e)) hm2 (by have := HP.out.2; have := HNN.out.2; unfold maxLen; omega)).mono ?_
          rintro e w3 ⟨rfl, hs3⟩
          have HS3 : Hid (Part w d bs bl (.slice (some ⟨g, 0, none⟩) n cap) nS D (kept P (D.pend.take (t + 1))) w3) := by
            show Part _ _ _ _ _ _ _ _ _
            rw [HP.out.1]
            exact hp.out.more HKB.out hs3
          clear hm1 hm2 hB hs3
          go_wp2_with (refine wpList_slice_from rfl (.tmp 29) (.const (.int .i64 1)) rfl _ (.slice a2 k (c - 1)) 1 rfl rfl HSL.out ?_)
          exact ⟨⟨t + 1, a2, k, c - 1, R, by simp, rfl, by have := HLT.out; omega, HN, HS3⟩, by have := HLT.out; simp only [intOf]; omega⟩
#print axioms settleAt_is
end Go.Proofs.Ytmhdldhplhffcaa.Oct
