/-
  Layer 5 (disk): Clone.
-/
import Derived.Test.YtmhdldhplhffcaaCalls
namespace Go.Proofs.Ytmhdldhplhffcaa.Oct
open Go.RowKit Go.Maps Go.Lib

theorem size61 : (Try.prog.info? 61).map (·.size) = some 7 := by kernel_rfl
theorem dc_one (D : Disk) (bs : Nat) (ao : Option Addr) (n cp bl : Nat) : ∀ v ∈ dc D bs (.slice ao n cp) bl, v.oneCell' = true := by
  intro v hv
  simp only [dc, List.mem_cons, List.mem_nil_iff, or_false] at hv
  rcases hv with rfl | rfl | rfl | rfl | rfl | rfl | rfl <;> rfl
theorem zero61 (W : World) : (zeroValue 61).run Try.prog W = .ok (.agg #[.int .i64 0, .map none, .slice none 0 0, .map none, .int .i64 0, .bool false, .int .i64 0]) W := by kernel_rfl
theorem wc_flat_one (l : List (Nat × List UInt8)) : ∀ v ∈ l.flatMap wc, v.oneCell' = true := by
  intro v hv
  obtain ⟨x, _, hx⟩ := List.mem_flatMap.1 hv
  exact wc_one x v hx
theorem cloneW {w : World} {v : Value} {l : List (Nat × List UInt8)} (h : w.ownsRow 0 75 257 v l.length (l.flatMap wc)) (hn : l.length < 100000000000) :
    Calls Try.prog 30 #[v] w fun e w' => ∃ v', e = .returned v' ∧ w'.ownsRow w.heap.size 75 257 v' l.length (l.flatMap wc) ∧ Below w.heap.size w w' := by
  rcases h.2 with ⟨rfl, h0⟩ | ⟨g, cap, cur, rfl, _, hb, h1, h2, h3, h4⟩
  · refine (AnyE.slices_Clone_nil laysClonew 0 0 w).mono fun e w' ⟨he, hw⟩ => ⟨_, he, ?_, hw ▸ Below.refl _ _⟩
    exact ⟨h.1, .inl ⟨rfl, h0⟩⟩
  · obtain ⟨Z, i0, hZ, HZ, hi, hz0, hz1, hz2⟩ := info75
    have hz : ∀ W, (Go.sizeOf 75).run Try.prog W = .ok 257 W := fun W => by kernel_rfl
    refine (AnyE.slices_Clone laysClonew i0 (.agg Z.toArray) 257 264 hi hz0 hz1 hz2 (by show Z.toArray.size = 257; rw [List.size_toArray]; exact HZ.out) (by omega) hz g 0 l.length cap (l.flatMap wc) w h.1 (by unfold maxLen; omega) (by omega) (fun j u hj => ?_) (wc_flat_one l)).mono fun e w' ⟨v', he, ho, _, hB⟩ => ⟨v', he, ho, hB⟩
    have hlt : j < l.length * 257 := by have := (List.getElem?_eq_some_iff.1 hj).1; rwa [h.1] at this
    rw [Nat.zero_add, cell_of_row w g _ _ 75 (0, 0) hb]
    rw [← h4, List.getElem?_take, if_pos hlt] at hj
    simpa using hj
theorem cloneS {w : World} {b n : Nat} {D : DataW Unit} (h : w.ownsMap Try.prog 3 RS b n D) :
    Calls Try.prog 29 #[.map (some b)] w fun e w' => e = .returned (.map (some w.heap.size)) ∧ w'.ownsMap Try.prog 3 RS w.heap.size n D ∧ Below w.heap.size w w' ∧ w.heap.size < w'.heap.size :=
  (AnyW.maps_Clone_owns laysMapS 3 RS b n D w h).mono fun _ _ ⟨h1, h2, _, h4⟩ => ⟨h1, h2, h4, h2.lt⟩
theorem cloneL {w : World} {b n : Nat} {D : DataW Unit} (h : w.ownsMap Try.prog 3 (plainElem Try.prog 3) b n D) :
    Calls Try.prog 31 #[.map (some b)] w fun e w' => e = .returned (.map (some w.heap.size)) ∧ w'.ownsMap Try.prog 3 (plainElem Try.prog 3) w.heap.size n D ∧ Below w.heap.size w w' ∧ w.heap.size < w'.heap.size :=
  (AnyW.maps_Clone_owns laysMapL 3 _ b n D w h).mono fun _ _ ⟨h1, h2, _, h4⟩ => ⟨h1, h2, h4, h2.lt⟩

theorem copied61 {w : World} {b : Nat} {L cells : List Value} (hl : cells.length = 7) (hL : L.length = 7) (h : Blk w b 61 (L.take 0 ++ cells ++ L.drop (0 + cells.length))) : Blk w b 61 cells := by
  rw [List.drop_eq_nil_of_le (by omega)] at h
  simpa using h
theorem keep_new {w w2 : World} {o : Obj} (hg : (w.alloc o).grownBy w2 (some w.heap.size)) : Keep (fun _ => False) w w2 :=
  ⟨hg.os, hg.tape, hg.output, Nat.le_trans (by simp) hg.size, fun k hk _ => (hg.block k (Nat.lt_of_lt_of_le hk (by simp)) (fun e => by cases e; exact absurd hk (Nat.lt_irrefl _))).trans (Below.heap_alloc w o k hk)⟩
theorem own_from {w : World} {B : Nat} {e : TypeId} {size n : Nat} {v : Value} {xs : List Value} (h : w.ownsRow B e size v n xs) {g : Nat} (hg : v.ownBlock = some g) : B ≤ g := by
  rcases h.2 with ⟨rfl, _⟩ | ⟨g', cap, cur, rfl, hb, _⟩
  · cases hg
  · have : g' = g := by simpa [Value.ownBlock] using hg
    omega
theorem DkAt.at_keep {w w' : World} {d bs bl : Nat} {pv : Value} {nS nL : Nat} {DS DL : DataW Unit} {D : Disk} {S : Nat → Prop} (A : DkAt w d bs bl pv nS nL DS DL D) (hk : Keep S w w') (h1 : ¬ S d) (h2 : ¬ S bs) (h3 : ¬ S bl) (h4 : ∀ g, pv.ownBlock = some g → ¬ S g) : DkAt w' d bs bl pv nS nL DS DL D :=
  ⟨hk.blk A.blk h1, hk.owns A.sure h2, hk.owns A.last h3, A.looks, A.lasts, row_kept hk A.row h4, A.roomS, A.roomL, A.ne, A.good⟩

set_option maxHeartbeats 1000000 in
set_option maxRecDepth 100000 in
theorem clone_is {w : World} {d bs bl : Nat} {pv : Value} {nS nL : Nat} {DS DL : DataW Unit} {D : Disk} (h : DkAt w d bs bl pv nS nL DS DL D) (hn : D.ops < 100000000000) :
    Calls Try.prog 9 #[.pointer (some ⟨d, 0, none⟩)] w fun e w' => e = .returned (.pointer (some ⟨w.heap.size, 0, none⟩)) ∧ Dk w' (fun k => w.heap.size ≤ k ∧ k < w'.heap.size) w.heap.size D ∧ Below w.heap.size w w' := by
  have hm := isMade_is h
  obtain ⟨ao, cp, rfl, _⟩ := row_opt h.row
  obtain ⟨n, hnl⟩ : ∃ n, n = D.pend.length := ⟨_, rfl⟩
  rw [← hnl] at h
  have HU : Hid (DkAt w d bs bl (.slice ao n cp) nS nL DS DL D) := h
  have HN : Hid (n = D.pend.length ∧ n < 100000000000) := ⟨hnl, by have := h.roomS; omega⟩
  have HR : Hid (w.rangeAt d 0 (dc D bs (.slice ao n cp) bl)) := fun j v hj => by rw [Nat.zero_add]; exact h.blk.cell hj
  obtain ⟨L, hL⟩ : ∃ L, L = dc D bs (.slice ao n cp) bl := ⟨_, rfl⟩
  have HL : Hid (L = dc D bs (.slice ao n cp) bl) := hL
  have HLL : Hid (L.length = 7 ∧ ∀ v ∈ L, v.oneCell' = true) := by rw [hL]; exact ⟨rfl, dc_one D bs ao n cp bl⟩
  have HS : Hid ((Try.prog.info? 61).map (·.size) = some L.length) := by show _ = _; rw [HLL.out.1]; exact size61
  have hz := zero61
  rw [← hL] at HR
  clear h hn hnl hL
  go_enter Try.func9, Try.ntmps9
  go_wp2_with (first
    | (go_at_call 28; refine hm.mono ?_; rintro e w1 ⟨rfl, rfl⟩)
    | (with_reducible change wpList _ _ _ ({ dst := some 9, op := Op.load 61 _, type := _, pos := _, after := _, guard := _ } :: _) _ _; refine wpList_load_mid rfl 61 (.tmp 8) rfl d 0 rfl L _ HR.out Try.underlying61 rfl HS.out ?_)
    | (with_reducible change wpList _ _ _ ({ dst := none, op := Op.store 61 _ _, type := _, pos := _, after := _, guard := _ } :: _) _ _
       refine wpList_store_blk rfl 61 (.tmp 3) (.tmp 9) rfl w.heap.size 0 61 _ L rfl rfl (Blk.new w _ 61) (by rw [HLL.out.1]; simp) HS.out HLL.out.2 ?_
       intro w2 hb2 hg2
       have HB2 : Hid (Blk w2 w.heap.size 61 L) := copied61 HLL.out.1 rfl hb2.out
       have HK2 : Hid (Keep (fun _ => False) w w2) := keep_new hg2.out
       have HU2 : Hid (DkAt w2 d bs bl (.slice ao n cp) nS nL DS DL D) := HU.out.at_below HK2.out.none_below
       have c1 := HU2.out.c1
       clear hb2 hg2))
  clear c1
  refine (cloneS HU2.out.sure).mono ?_
  rintro e w3 ⟨rfl, hm3, hb3, hl3⟩
  obtain ⟨B1, hB1⟩ : ∃ B1, B1 = w2.heap.size := ⟨_, rfl⟩
  rw [← hB1] at hm3
  have HM3 : Hid (w3.ownsMap Try.prog 3 RS B1 nS DS) := hm3
  have HB3 : Hid (Blk w3 w.heap.size 61 L) := HB2.out.below hb3 HB2.out.lt
  have HU3 : Hid (DkAt w3 d bs bl (.slice ao n cp) nS nL DS DL D) := HU2.out.at_below hb3
  have HK3 : Hid (Keep (fun _ => False) w w3) := HK2.out.trans (Keep.below (S := fun _ => False) hb3) (fun _ e _ => e)
  have HB1 : Hid (w.heap.size < B1 ∧ B1 < w3.heap.size ∧ d < w.heap.size) := ⟨by rw [hB1]; exact HB2.out.lt, by rw [hB1]; exact hl3, HU.out.blk.lt⟩
  rw [← hB1]
  have c1 : w3.cell? ⟨w.heap.size, 1, none⟩ = some (.map (some bs)) := HB3.out.cell (by rw [HL.out]; rfl)
  have f1 := HB3.out.free 1
  have c2 : (w3.setCell ⟨w.heap.size, 1, none⟩ (.map (some B1))).cell? ⟨d, 2, none⟩ = some (.slice ao n cp) := by
    rw [World.cell?_of_block (a := ⟨d, 2, none⟩) (heap_setCell_other w3 ⟨w.heap.size, 1, none⟩ d _ (by have := HB1.out; simp; omega))]
    exact HU3.out.c2
  clear hm3 hb3 hl3 hB1
  go_wp2_with fail
  clear c1 c2
  have hg4 := grown_setCell w3 w.heap.size 1 (.map (some B1))
  have hb4 := HB3.out.set 1 (.map (some B1))
  obtain ⟨w4, hw4⟩ : ∃ w4, w4 = w3.setCell ⟨w.heap.size, 1, none⟩ (.map (some B1)) := ⟨_, rfl⟩
  rw [← hw4] at hg4 hb4 ⊢
  have HS4 : Hid (w4.heap.size = w3.heap.size) := by show _ = _; rw [hw4]; simp
  have HB4 : Hid (Blk w4 w.heap.size 61 (L.set 1 (.map (some B1)))) := hb4
  have HK34 : Hid (Keep (fun k => k = w.heap.size) w3 w4) := Keep.grown hg4 rfl
  have HU4 : Hid (DkAt w4 d bs bl (.slice ao n cp) nS nL DS DL D) := HU3.out.at_keep HK34.out (by have := HB1.out; intro e; omega) (by have := HU.out.sure.lt; intro e; omega) (by have := HU.out.last.lt; intro e; omega) (fun g hg e => by have := lt_owner HU.out.row hg; omega)
  have HM4 : Hid (w4.ownsMap Try.prog 3 RS B1 nS DS) := HK34.out.owns HM3.out (by have := HB1.out; intro e; omega)
  have hrow := HU4.out.row
  clear hw4 hg4 hb4 f1
  refine (cloneW hrow (by rw [← HN.out.1]; exact HN.out.2)).mono ?_
  rintro e w5 ⟨v5, rfl, ho5, hb5⟩
  obtain ⟨ao5, cp5, rfl⟩ : ∃ ao5 cp5, v5 = .slice ao5 n cp5 := by
    rcases ho5.2 with ⟨e, e0⟩ | ⟨g, cap, cur, e, _⟩
    · exact ⟨none, 0, by rw [e, HN.out.1, e0]⟩
    · exact ⟨_, cap, by rw [e, HN.out.1]⟩
  have HO5 : Hid (w5.ownsRow w4.heap.size 75 257 (.slice ao5 n cp5) D.pend.length (D.pend.flatMap wc)) := ho5
  have HB5 : Hid (Blk w5 w.heap.size 61 (L.set 1 (.map (some B1)))) := HB4.out.below hb5 HB4.out.lt
  have HU5 : Hid (DkAt w5 d bs bl (.slice ao n cp) nS nL DS DL D) := HU4.out.at_below hb5
  have HM5 : Hid (w5.ownsMap Try.prog 3 RS B1 nS DS) := (Keep.below (S := fun _ => False) hb5).owns HM4.out (fun e => e)
  have HK45 : Hid (Keep (fun _ => False) w4 w5) := Keep.below hb5
  have c2 : w5.cell? ⟨w.heap.size, 2, none⟩ = some (.slice ao n cp) := HB5.out.cell (by rw [HL.out]; rfl)
  have f2 := HB5.out.free 2
  have c3 : (w5.setCell ⟨w.heap.size, 2, none⟩ (.slice ao5 n cp5)).cell? ⟨d, 3, none⟩ = some (.map (some bl)) := by
    rw [World.cell?_of_block (a := ⟨d, 3, none⟩) (heap_setCell_other w5 ⟨w.heap.size, 2, none⟩ d _ (by have := HB1.out; simp; omega))]
    exact HU5.out.c3
  clear ho5 hb5 hrow
  go_wp2_with fail
  clear c2 c3
  have hg6 := grown_setCell w5 w.heap.size 2 (.slice ao5 n cp5)
  have hb6 := HB5.out.set 2 (.slice ao5 n cp5)
  obtain ⟨w6, hw6⟩ : ∃ w6, w6 = w5.setCell ⟨w.heap.size, 2, none⟩ (.slice ao5 n cp5) := ⟨_, rfl⟩
  rw [← hw6] at hg6 hb6 ⊢
  have HB6 : Hid (Blk w6 w.heap.size 61 ((L.set 1 (.map (some B1))).set 2 (.slice ao5 n cp5))) := hb6
  have HK56 : Hid (Keep (fun k => k = w.heap.size) w5 w6) := Keep.grown hg6 rfl
  have HU6 : Hid (DkAt w6 d bs bl (.slice ao n cp) nS nL DS DL D) := HU5.out.at_keep HK56.out (by have := HB1.out; intro e; omega) (by have := HU.out.sure.lt; intro e; omega) (by have := HU.out.last.lt; intro e; omega) (fun g hg e => by have := lt_owner HU.out.row hg; omega)
  have HM6 : Hid (w6.ownsMap Try.prog 3 RS B1 nS DS) := HK56.out.owns HM5.out (by have := HB1.out; intro e; omega)
  have HO6 : Hid (w6.ownsRow w4.heap.size 75 257 (.slice ao5 n cp5) D.pend.length (D.pend.flatMap wc)) := row_kept HK56.out HO5.out (fun g hg e => by
    have := own_from HO5.out hg
    have := HB1.out
    have := HS4.out
    omega)
  clear hw6 hg6 hb6 f2
  refine (cloneL HU6.out.last).mono ?_
  rintro e w7 ⟨rfl, hm7, hb7, hl7⟩
  obtain ⟨B2, hB2⟩ : ∃ B2, B2 = w6.heap.size := ⟨_, rfl⟩
  rw [← hB2] at hm7 hl7 ⊢
  have HM7 : Hid (w7.ownsMap Try.prog 3 (plainElem Try.prog 3) B2 nL DL) := hm7
  have HB7 : Hid (Blk w7 w.heap.size 61 ((L.set 1 (.map (some B1))).set 2 (.slice ao5 n cp5))) := HB6.out.below hb7 HB6.out.lt
  have HK67 : Hid (Keep (fun _ => False) w6 w7) := Keep.below hb7
  have HB2' : Hid (B2 = w6.heap.size ∧ B2 < w7.heap.size) := ⟨hB2, hl7⟩
  have c3 : w7.cell? ⟨w.heap.size, 3, none⟩ = some (.map (some bl)) := HB7.out.cell (by rw [HL.out]; rfl)
  have f3 := HB7.out.free 3
  clear hm7 hb7 hl7 hB2
  go_wp2
  go_ret
  have hg8 := grown_setCell w7 w.heap.size 3 (.map (some B2))
  have hb8 := HB7.out.set 3 (.map (some B2))
  have hK8 : Keep (fun k => k = w.heap.size) w7 (w7.setCell ⟨w.heap.size, 3, none⟩ (.map (some B2))) := Keep.grown hg8 rfl
  have hs56 := HK56.out.size
  have hs45 := HK45.out.size
  have hs4 := HS4.out
  have hB1 := HB1.out
  have hKw : Keep (fun k => k = w.heap.size) w (w7.setCell ⟨w.heap.size, 3, none⟩ (.map (some B2))) :=
    (((((HK3.out.mono (fun _ _ e => e.elim)).trans HK34.out (fun j hj _ => hj)).trans HK45.out (fun _ e _ => e.elim)).trans HK56.out (fun j hj _ => hj)).trans HK67.out (fun _ e _ => e.elim)).trans hK8 (fun j hj _ => hj)
  have hM1 : (w7.setCell ⟨w.heap.size, 3, none⟩ (.map (some B2))).ownsMap Try.prog 3 RS B1 nS DS := hK8.owns (HK67.out.owns HM6.out (fun e => e)) (by intro e; omega)
  have hM2 : (w7.setCell ⟨w.heap.size, 3, none⟩ (.map (some B2))).ownsMap Try.prog 3 (plainElem Try.prog 3) B2 nL DL := hK8.owns HM7.out (by have := HB2'.out; intro e; omega)
  have hR : (w7.setCell ⟨w.heap.size, 3, none⟩ (.map (some B2))).ownsRow w4.heap.size 75 257 (.slice ao5 n cp5) D.pend.length (D.pend.flatMap wc) := row_kept hK8 (row_kept HK67.out HO6.out (fun _ _ e => e)) (fun g hg e => by
    have := own_from HO6.out hg
    omega)
  have hR0 : (w7.setCell ⟨w.heap.size, 3, none⟩ (.map (some B2))).ownsRow 0 75 257 (.slice ao5 n cp5) D.pend.length (D.pend.flatMap wc) := by
    obtain ⟨r1, r2⟩ := hR
    refine ⟨r1, r2.imp id ?_⟩
    rintro ⟨g, cap, cur, e1, _, r⟩
    exact ⟨g, cap, cur, e1, Nat.zero_le _, r⟩
  have hA := HU.out
  refine ⟨rfl, ⟨B1, B2, .slice ao5 n cp5, nS, nL, DS, DL, ⟨?_, hM1, hM2, hA.looks, hA.lasts, hR0, hA.roomS, hA.roomL, by have := HB2'.out; omega, hA.good⟩, ?_, ?_, ?_, fun g hg => ⟨?_, lt_owner hR0 hg⟩, fun k hk => hk.2⟩, hKw.toBelow (Nat.le_refl _) (fun k hk => by omega)⟩
  · have := hb8
    rw [HL.out] at this
    simpa [dc] using this
  · exact ⟨Nat.le_refl _, hb8.lt⟩
  · exact ⟨by omega, hM1.lt⟩
  · exact ⟨by have := HB2'.out; omega, hM2.lt⟩
  · have := own_from hR hg
    omega
#print axioms clone_is
end Go.Proofs.Ytmhdldhplhffcaa.Oct
