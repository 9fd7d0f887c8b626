/-
  Layer 19 (audit): the law AuditNobody.
-/
import Derived.Test.YtmmpafaegmejlaaDoorVew
import Derived.BigFrame
namespace Go.Proofs.YtmmpafaegmejlaaDoor.Oct
open Go.RowKit Sha
set_option linter.unusedSimpArgs false
set_option linter.unusedVariables false

theorem wpList_built_want {P : Program} {ops : Array Oper} {rest : List Oper} {o : Oper} {a : Act} {w : World} {Q : Exit → Act → World → Prop} (hw : Region.wanted o (yielded ops a.tmps) = true) (t : TypeId) (parts : Array (Nat × Operand)) (ho : o.op = .build t parts)
    (cells : Array Value) (hb : P.built t (parts.map fun (i, x) => (i, a.eval x)).toList = some cells) (h : wpList P ops Q rest (a.put o.dst (.agg cells)) w) : wpList P ops Q (o :: rest) a w := by
  refine Go.BigFrame.wpList_want hw fun _ hK => wp_build t parts ho (by rw [hb]; rfl) (hK _ _ ?_)
  rw [hb]
  exact h
/-- a log that no call made -/
def Un (w : World) (p : Option Addr) : Prop := p = none ∨ ∃ L, p = some ⟨L, 0, none⟩ ∧ Blk w L 53 [.pointer none, .nilFunc]
theorem Un.below {w w' : World} {p : Option Addr} (h : Un w p) (hb : Below w.heap.size w w') : Un w' p := by
  rcases h with rfl | ⟨L, rfl, h⟩
  · exact .inl rfl
  · exact .inr ⟨L, rfl, h.below hb h.lt⟩
set_option maxRecDepth 100000 in
theorem made_un {w : World} {p : Option Addr} (h : Un w p) : Calls Tryd.prog 27 #[.pointer p] w fun e w' => e = .returned (.bool false) ∧ w = w' := by
  rcases h with rfl | ⟨L, rfl, h⟩
  · go_enter Tryd.func27, Tryd.ntmps27
    go_wp2
    go_ret
    exact ⟨rfl, rfl⟩
  · have c0 := h.cell (i := 0) rfl
    clear h
    go_enter Tryd.func27, Tryd.ntmps27
    go_wp2
    go_ret
    exact ⟨rfl, rfl⟩
set_option maxRecDepth 100000 in
theorem entries_un {w : World} {p : Option Addr} (h : Un w p) : Calls Tryd.prog 13 #[.pointer p] w fun e w' => e = .returned (.slice none 0 0) ∧ w = w' := by
  have H : Hid (Un w p) := h
  clear h
  go_enter Tryd.func13, Tryd.ntmps13
  go_wp2_with fail
  refine (made_un H.out).mono ?_
  rintro e X ⟨rfl, rfl⟩
  go_wp2
  go_ret
  exact ⟨rfl, rfl⟩
set_option maxRecDepth 100000 in
theorem head_un {w : World} {p : Option Addr} (h : Un w p) : Calls Tryd.prog 16 #[.pointer p] w fun e w' => e = .returned (.agg (zb 32).toArray) ∧ Below w.heap.size w w' := by
  obtain ⟨Z, hZ, HZ⟩ := zero35
  have HBL := built35
  obtain ⟨r, hr⟩ : ∃ r, w.heap.size = r := ⟨_, rfl⟩
  obtain ⟨A, hA⟩ : ∃ A, w.alloc (.cells Z.toArray 35) = A := ⟨_, rfl⟩
  have hb1 : Below w.heap.size w A := by rw [← hA]; exact below_al _ _
  have hrb : Blk A r 35 Z := by rw [← hA, ← hr]; exact Blk.new w _ _
  have H : Hid (Un A p ∧ Below w.heap.size w A ∧ Blk A r 35 Z ∧ w.heap.size ≤ r) := ⟨h.below hb1, hb1, hrb, by omega⟩
  clear h hb1 hrb
  go_enter Tryd.func16, Tryd.ntmps16
  go_wp2_with fail
  refine (made_un H.out.1).mono ?_
  rintro e X ⟨rfl, rfl⟩
  go_wp2_with (with_reducible change wpList _ _ _ ({ dst := some 6, op := _, type := _, pos := _, after := _, guard := _ } :: _) _ _; refine Hid.out ?_)
  show wpList _ _ _ _ _ _
  refine wpList_built rfl 35 _ rfl (zb 32).toArray (by rw [← HBL]; simp) ?_
  go_wp2_with (with_reducible change wpList _ _ _ ({ dst := none, op := Op.store 35 _ _, type := _, pos := _, after := _, guard := _ } :: _) _ _; refine Hid.out ?_)
  show wpList _ _ _ _ _ _
  refine wpList_store_blk rfl 35 (.tmp 2) (.tmp 6) rfl r 0 35 Z (zb 32) rfl rfl H.out.2.2.1 (by rw [HZ.out]; omega) (by rw [zb_length]; exact size35) (zb_one 32) ?_
  intro W1 hx hg
  have H1 : Hid (Blk W1 r 35 (zb 32) ∧ Below w.heap.size w W1) := ⟨blk_all hx.out (by rw [HZ.out]), below_gr H.out.2.1 hg.out H.out.2.2.2⟩
  clear hx hg hA hr
  go_wp2
  exact ret_c rfl rfl rfl H1.out.1 Tryd.underlying35 rfl (by rw [zb_length]; exact size35) ⟨rfl, H1.out.2⟩
set_option maxRecDepth 100000 in
theorem append_un {w : World} {p : Option Addr} (h : Un w p) (t x y : Value) : Calls Tryd.prog 14 #[.pointer p, t, x, y] w fun e w' => e = .returned (.tuple #[.agg zE.cells.toArray, iv 1]) ∧ Below w.heap.size w w' := by
  obtain ⟨Z, hZ, HZ⟩ := zero37
  have HBL := built37
  obtain ⟨r, hr⟩ : ∃ r, w.heap.size = r := ⟨_, rfl⟩
  obtain ⟨A, hA⟩ : ∃ A, w.alloc (.cells Z.toArray 37) = A := ⟨_, rfl⟩
  have hb1 : Below w.heap.size w A := by rw [← hA]; exact below_al _ _
  have hrb : Blk A r 37 Z := by rw [← hA, ← hr]; exact Blk.new w _ _
  have H : Hid (Un A p ∧ Below w.heap.size w A ∧ Blk A r 37 Z ∧ w.heap.size ≤ r) := ⟨h.below hb1, hb1, hrb, by omega⟩
  clear h hb1 hrb
  go_enter Tryd.func14, Tryd.ntmps14
  go_wp2_with fail
  refine (made_un H.out.1).mono ?_
  rintro e X ⟨rfl, rfl⟩
  go_wp2_with (with_reducible change wpList _ _ _ ({ dst := some 15, op := _, type := _, pos := _, after := _, guard := _ } :: _) _ _; refine Hid.out ?_)
  show wpList _ _ _ _ _ _
  refine wpList_built rfl 37 _ rfl zE.cells.toArray (by rw [← HBL]; simp) ?_
  go_wp2_with (with_reducible change wpList _ _ _ ({ dst := none, op := Op.store 37 _ _, type := _, pos := _, after := _, guard := _ } :: _) _ _; refine Hid.out ?_)
  show wpList _ _ _ _ _ _
  refine wpList_store_blk rfl 37 (.tmp 8) (.tmp 15) rfl r 0 37 Z zE.cells rfl rfl H.out.2.2.1 (by rw [HZ.out]; omega) (info37 zE_ok) (En.one _) ?_
  intro W1 hx hg
  have H1 : Hid (Blk W1 r 37 zE.cells ∧ Below w.heap.size w W1) := ⟨blk_all hx.out (by rw [HZ.out]), below_gr H.out.2.1 hg.out H.out.2.2.2⟩
  clear hx hg hA hr
  go_wp2
  exact ret_cu rfl rfl rfl H1.out.1 Tryd.underlying37 rfl (info37 zE_ok) ⟨rfl, H1.out.2⟩
#print axioms append_un
theorem built53 : Tryd.prog.built 53 [] = some #[.pointer none, .nilFunc] := by kernel_rfl
theorem run_bs54 (L : Nat) (W : World) : (Instr.buildSlice 54 2 #[(0, .pointer none), (1, .pointer (some ⟨L, 0, none⟩))]).run Tryd.prog W = .ok (.slice (some ⟨W.heap.size, 0, none⟩) 2 2) (W.alloc (.cells #[.pointer none, .pointer (some ⟨L, 0, none⟩)] 25)) := by kernel_rfl
theorem ne_en (x : En) (h : x.ok) (W : World) : (binOp .neq 37 (.agg x.cells.toArray) (.agg x.cells.toArray)).run Tryd.prog W = .ok (.bool false) W := by
  rw [neE x x h h, (eqEn_iff x x).2 rfl]; rfl
theorem ne_zb (W : World) : (binOp .neq 35 (.agg (zb 32).toArray) (.agg (zb 32).toArray)).run Tryd.prog W = .ok (.bool false) W := by
  have h := neHb (List.replicate 32 0) (List.replicate 32 0) (by simp) (by simp) W
  rw [← zb_is] at h
  rw [h]
  simp
def NI (w : World) (b L s : Nat) (x : ActV) (wr : World) : Prop := Below w.heap.size w wr ∧ Blk wr b 29 x.cells ∧ Blk wr L 53 [.pointer none, .nilFunc] ∧ Blk wr s 25 [.pointer none, .pointer (some ⟨L, 0, none⟩)]
theorem NI.below {w wr wr' : World} {b L s : Nat} {x : ActV} (h : NI w b L s x wr) (hb : Below wr.heap.size wr wr') : NI w b L s x wr' := ⟨below_tr h.1 hb, h.2.1.below hb h.2.1.lt, h.2.2.1.below hb h.2.2.1.lt, h.2.2.2.below hb h.2.2.2.lt⟩
set_option maxRecDepth 100000 in
set_option maxHeartbeats 2000000 in
theorem nobody_law (x : ActV) (w : World) (hk : KT w) (hs : ST w) : Calls Tryd.prog 8 #[.agg x.cells.toArray] w fun e w' => e = .returned (.bool true) ∧ Below w.heap.size w w' := by
  have HK : Hid (KT w ∧ ST w) := ⟨hk, hs⟩
  obtain ⟨C, hC⟩ : ∃ C, x.cells = C := ⟨_, rfl⟩
  have HCC : Hid (x.cells = C) := hC
  obtain ⟨Z, hZ, HZ⟩ := zero37
  have HZL : Hid (Z.length = 36) := by show _ = _; rw [HZ.out]; exact En.len zE_ok
  have HBL := built37
  have HB5 := built35
  rw [hC]
  clear hk hs hC HZ
  go_enter Tryd.func8, Tryd.ntmps8
  go_wp2_with (with_reducible change wpList _ _ _ ({ dst := some 7, op := _, type := _, pos := _, after := _, guard := _ } :: _) _ _; refine Hid.out ?_)
  show wpList _ _ _ _ _ _
  refine wpList_built rfl 53 _ rfl #[.pointer none, .nilFunc] (by rw [← built53]; simp) ?_
  have hbs := run_bs54
  go_wp2
  obtain ⟨b, hb⟩ : ∃ b, w.heap.size = b := ⟨_, rfl⟩
  have HWB : Hid (w.heap.size = b) := hb
  obtain ⟨L, hL⟩ : ∃ L, w.heap.size + 1 = L := ⟨_, rfl⟩
  obtain ⟨s, hs⟩ : ∃ s, L + 1 = s := ⟨_, rfl⟩
  rw [hL, hs, hb]
  go_loopw [11] (fun u wr => ∃ i : Nat, u = iv (i : Int) ∧ Hid (i ≤ 2 ∧ NI w b L s x wr)) (fun u _ => 2 - (intOf u).toNat)
  case atStart =>
    refine ⟨0, rfl, by omega, ?_⟩
    have h1 : Blk (w.alloc (.cells C.toArray 29)) b 29 x.cells := by rw [HCC.out, ← hb]; exact Blk.new w _ _
    obtain ⟨w1, hw1⟩ : ∃ w1, w.alloc (.cells C.toArray 29) = w1 := ⟨_, rfl⟩
    have hz1 : w1.heap.size = L := by rw [← hw1, ← hL]; simp
    rw [hw1] at h1 ⊢
    have h2 : Blk (w1.alloc (.cells #[.pointer none, .nilFunc] 53)) L 53 [.pointer none, .nilFunc] := by rw [← hz1]; exact Blk.new w1 _ _
    have h1' := h1.below (below_al w1 (.cells #[.pointer none, .nilFunc] 53)) h1.lt
    obtain ⟨w2, hw2⟩ : ∃ w2, w1.alloc (.cells #[.pointer none, .nilFunc] 53) = w2 := ⟨_, rfl⟩
    have hz2 : w2.heap.size = s := by rw [← hw2, ← hs]; simp [hz1]
    rw [hw2] at h1' h2 ⊢
    have hb3 := below_al w2 (.cells #[.pointer none, .pointer (some ⟨L, 0, none⟩)] 25)
    refine ⟨?_, h1'.below hb3 h1'.lt, h2.below hb3 h2.lt, by rw [← hz2]; exact Blk.new w2 _ _⟩
    refine below_tr (below_tr (w1 := w1) ?_ ?_) hb3
    · rw [← hw1]; exact below_al _ _
    · rw [← hw2]; exact below_al _ _
  case round =>
    obtain ⟨i, rfl, HI⟩ := hrel
    clear hb hL hs
    by_cases hi : i = 2
    · subst hi
      have hkw := HK.out.1.below HI.out.2.1
      have hsw := HK.out.2.below HI.out.2.1
      have HKW : Hid (KT wr ∧ ST wr) := ⟨hkw, hsw⟩
      clear hkw hsw
      go_wp2_with fail
      refine (lives_is wr HKW.out.1 HKW.out.2).mono ?_
      rintro e X ⟨rfl, hbx⟩
      have HF : Hid (Below w.heap.size w X) := below_tr HI.out.2.1 hbx
      clear hbx
      go_wp2
      go_ret
      exact ⟨rfl, HF.out⟩
    · have q1 : (i : Int) < 2 := by have := HI.out.1; omega
      obtain ⟨p, hp, hun⟩ : ∃ p, wr.cell? ⟨s, i, none⟩ = some (.pointer p) ∧ Un wr p := by
        rcases (by omega : i = 0 ∨ i = 1) with rfl | rfl
        · exact ⟨none, HI.out.2.2.2.2.cell rfl, .inl rfl⟩
        · exact ⟨_, HI.out.2.2.2.2.cell rfl, .inr ⟨L, rfl, HI.out.2.2.2.1⟩⟩
      have HU : Hid (Un wr p ∧ i < 2) := ⟨hun, by omega⟩
      have c0 : wr.cell? ⟨b, 0, none⟩ = some (iv x.tick) := HI.out.2.2.1.cell rfl
      have c1 : wr.cell? ⟨b, 1, none⟩ = some (.string x.who) := HI.out.2.2.1.cell rfl
      have c2 : wr.cell? ⟨b, 2, none⟩ = some (.string x.what) := HI.out.2.2.1.cell rfl
      clear hi hun
      go_wp2_with fail
      refine (append_un HU.out.1 _ _ _).mono ?_
      rintro e X ⟨rfl, hbx⟩
      have HI2 : Hid (NI w b L s x X ∧ Un X p) := ⟨HI.out.2.below hbx, HU.out.1.below hbx⟩
      obtain ⟨g, hg⟩ : ∃ g, X.heap.size = g := ⟨_, rfl⟩
      have HG : Hid (X.heap.size = g) := hg
      clear hbx hp c0 c1 c2
      go_wp2_with (with_reducible change wpList _ _ _ ({ dst := none, op := Op.store 37 _ _, type := _, pos := _, after := _, guard := _ } :: _) _ _; refine Hid.out ?_)
      show wpList _ _ _ _ _ _
      refine wpList_store_blk rfl 37 (.tmp 5) (.tmp 24) rfl g 0 37 Z zE.cells rfl rfl (by rw [← HG.out]; exact Blk.new X _ _) (by rw [HZL.out, En.len zE_ok]; exact Nat.le_refl _) (info37 zE_ok) (En.one _) ?_
      intro W1 hx1 hg1
      have H1 : Hid (NI w b L s x W1 ∧ Un W1 p ∧ Blk W1 g 37 zE.cells) := by
        have hb1 : Below X.heap.size X W1 := below_gr (below_al X _) hg1.out (by rw [HG.out]; exact Nat.le_refl _)
        exact ⟨HI2.out.1.below hb1, HI2.out.2.below hb1, blk_all hx1.out (by rw [HZL.out, En.len zE_ok])⟩
      clear hx1 hg1 hg
      go_wp2_with (with_reducible change wpList _ _ _ ({ dst := some 26, op := _, type := _, pos := _, after := _, guard := _ } :: _) _ _; refine Hid.out ?_)
      show wpList _ _ _ _ _ _
      refine wpList_load_mid rfl 37 (.tmp 5) rfl g 0 rfl zE.cells _ H1.out.2.2.range0 Tryd.underlying37 rfl (info37 zE_ok) ?_
      go_wp2_with (with_reducible change wpList _ _ _ ({ dst := some 27, op := _, type := _, pos := _, after := _, guard := _ } :: _) _ _; refine Hid.out ?_)
      show wpList _ _ _ _ _ _
      refine wpList_built rfl 37 _ rfl zE.cells.toArray (by rw [← HBL]; simp) ?_
      have hne := ne_en zE zE_ok
      go_wp2_with fail
      refine (entries_un H1.out.2.1).mono ?_
      rintro e X2 ⟨rfl, rfl⟩
      go_wp2_with fail
      refine (head_un H1.out.2.1).mono ?_
      rintro e X3 ⟨rfl, hb3⟩
      have H3 : Hid (NI w b L s x X3) := H1.out.1.below hb3
      clear hb3 hne
      have hnz := ne_zb
      go_wp2_with (with_reducible change wpList _ _ _ ({ dst := some 42, op := _, type := _, pos := _, after := _, guard := _ } :: _) _ _; refine Hid.out ?_)
      show wpList _ _ _ _ _ _
      refine wpList_built_want rfl 35 _ rfl (zb 32).toArray (by rw [← HB5]; simp) ?_
      go_wp2
      go_roundw
      case rel => exact ⟨i + 1, rfl, by have := HU.out.2; omega, H3.out⟩
      case measure => show 2 - (i + 1) < 2 - i; have := HU.out.2; omega
#print axioms nobody_law
end Go.Proofs.YtmmpafaegmejlaaDoor.Oct
