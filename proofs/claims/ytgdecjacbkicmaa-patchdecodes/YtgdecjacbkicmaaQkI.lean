/-
  Layer 10 (patch): the reference's reading: bytes, texts, numbers, vertices, whether well or not.
  Layer 10 (patch): the reference's reading: drawn regions of Decode.
  Layer 10 (patch): Decode of the reference.
  Layer 10 (patch): Decode of the reference, whole.
-/
import Derived.Test.YtgdecjacbkicmaaQkF
import Derived.Deep.MidRow
import Derived.Deep.RegionHeld
import Derived.Maps.AppendAt
/- Layer 10 (patch): the reference's reading: bytes, texts, numbers, vertices, whether well or not. -/
namespace Go.Proofs.Ytgdecjacbkicmaa.Oct
open Go.RowKit
set_option maxRecDepth 100000
set_option linter.unusedSimpArgs false
set_option linter.unusedVariables false

/-- whether what was read goes on well: as told, or not any more -/
def Sg {β : Type} (T : Option β) (ok : Bool) (c : Option β) : Prop := (ok = true ∧ T = c) ∨ (ok = false ∧ T = none)
def Rs {α : Type} (ok ok' : Bool) (f : Option (α × List UInt8)) (x : α) (r : List UInt8) : Prop := (ok' = ok ∧ f = some (x, r)) ∨ (ok' = false ∧ f = none)
theorem Sg.step {α β : Type} {T : Option β} {ok ok' : Bool} {f : Option (α × List UInt8)} {k : α × List UInt8 → Option β} {x : α} {r : List UInt8} (h : Sg T ok (f.bind k)) (hq : Rs ok ok' f x r) : Sg T ok' (k (x, r)) := by
  rcases hq with ⟨rfl, rfl⟩ | ⟨rfl, rfl⟩
  · exact h
  · refine .inr ⟨rfl, ?_⟩
    rcases h with ⟨_, h⟩ | ⟨_, h⟩
    · exact h
    · exact h
theorem Sg.cong {β : Type} {T c c' : Option β} {ok : Bool} (h : Sg T ok c) (e : c = c') : Sg T ok c' := by subst e; exact h
theorem Rg.fk {S : List TypeId} {w w' : World} {g : Nat} {l : List UInt8} {ok : Bool} (h : Rg w g l ok) (k : Fk S g w w') (hs : 63 ∉ S) : Rg w' g l ok := by
  obtain ⟨a, n, c, h1, h2, h3⟩ := h
  refine ⟨a, n, c, h1.fk k hs, ?_, h3⟩
  obtain ⟨i1, i2, i3, i4, i5⟩ := h2
  refine ⟨i1, i2, i3, i4, fun hp => ?_⟩
  obtain ⟨b, off, e1, e2, e3⟩ := i5 hp
  have hb := h3 hp _ e1
  refine ⟨b, off, e1, Nat.lt_of_lt_of_le e2 k.size, fun i x hx => ?_⟩
  rw [← e3 i x hx]
  unfold World.cell?
  rw [k.low b hb]
theorem Rg.fg {w w' : World} {g : Nat} {l : List UInt8} {ok : Bool} (h : Rg w g l ok) (hg : w.grownBy w' (some g)) : Fk [63] g w w' := by
  obtain ⟨a, n, c, h1, h2, h3⟩ := h
  exact Fk.of_blk hg h1 (Nat.le_refl _) (by simp)
theorem Rg.lt {w : World} {g : Nat} {l : List UInt8} {ok : Bool} (h : Rg w g l ok) : g < w.heap.size := by
  obtain ⟨a, n, c, h1, h2, h3⟩ := h
  exact h1.lt
theorem one_q (w : World) (g : Nat) (l : List UInt8) (ok : Bool) (h : Rg w g l ok) : Calls Try.prog 31 #[.pointer (some ⟨g, 0, none⟩)] w fun e w' =>
    ∃ (c : UInt8) (r : List UInt8) (ok' : Bool), e = .returned (iv (c.toNat : Int)) ∧ Fk [63] g w w' ∧ Rg w' g r ok' ∧ Rs ok ok' (mM l) c r := by
  refine (one_is w g l ok h).mono ?_
  rintro e w' ⟨v, rfl, hg, hp⟩
  rcases hp with ⟨rfl, rfl, hr⟩ | ⟨c, r, rfl, rfl, hr⟩
  · exact ⟨0, [], false, rfl, h.fg hg.out, hr, .inr ⟨rfl, rfl⟩⟩
  · exact ⟨c, r, ok, rfl, h.fg hg.out, hr, .inl ⟨rfl, rfl⟩⟩
theorem num_q (w : World) (g : Nat) (l : List UInt8) (ok : Bool) (h : Rg w g l ok) (most : Nat) (hm : most ≤ 1099511627776) : Calls Try.prog 33 #[.pointer (some ⟨g, 0, none⟩), iv (most : Int)] w fun e w' =>
    ∃ (v : Nat) (r : List UInt8) (ok' : Bool), e = .returned (iv (v : Int)) ∧ v ≤ most ∧ Fk [63] g w w' ∧ Rg w' g r ok' ∧ Rs ok ok' (nN most l) v r := by
  refine (rnumber_is w g l ok h most hm).mono ?_
  rintro e w' ⟨v, rfl, hg, hv, hp⟩
  rcases hp with ⟨hn, hr⟩ | ⟨r, hn, hr⟩
  · exact ⟨v, l, false, rfl, hv, h.fg hg.out, hr, .inr ⟨rfl, hn⟩⟩
  · exact ⟨v, r, ok, rfl, hv, h.fg hg.out, hr, .inl ⟨rfl, hn⟩⟩
theorem text_q (w : World) (g : Nat) (l : List UInt8) (ok : Bool) (h : Rg w g l ok) : Calls Try.prog 32 #[.pointer (some ⟨g, 0, none⟩)] w fun e w' =>
    ∃ (s : BA) (r : List UInt8) (ok' : Bool), e = .returned (.string s) ∧ s.size ≤ 1000 ∧ Fk [63] g w w' ∧ Rg w' g r ok' ∧ Rs ok ok' (tT 1000 l) s r := by
  refine (rtext_is w g l ok h).mono ?_
  rintro e w' ⟨s, rfl, hg, hs, hp⟩
  rcases hp with ⟨hn, hr⟩ | ⟨r, hn, hr⟩
  · exact ⟨s, l, false, rfl, hs, h.fg hg.out, hr, .inr ⟨rfl, hn⟩⟩
  · exact ⟨s, r, ok, rfl, hs, h.fg hg.out, hr, .inl ⟨rfl, hn⟩⟩
theorem Fk.farB {S : List TypeId} {B d : Nat} {w w1 w2 : World} (h : Fk S B w w1) (hg : w1.grownBy w2 (some d)) (hd : w.heap.size ≤ d) (hB : B ≤ w.heap.size) : Fk S B w w2 := h.far hg hd hB
def VP (D : List Hs) (l : List UInt8) (ok : Bool) (g : Nat) (w : World) (e : Ending) (w' : World) : Prop := ∃ (v : Vx) (r : List UInt8) (ok' : Bool), e = .returned (.agg v.cells.toArray) ∧ v.ok ∧ Fk [63] g w w' ∧ Rg w' g r ok' ∧ Rs ok ok' (vV D l) v r
theorem Rg.failT {w w' : World} {g : Nat} {l : List UInt8} {ok : Bool} (h : Rg w g l ok) (e : w.setCell ⟨g, 1, none⟩ (.bool false) = w') : Rg w' g l false := by subst e; exact h.fail
set_option maxHeartbeats 8000000 in
theorem rvertex_q {B : Nat} (w : World) (g : Nat) (l : List UInt8) (ok : Bool) (h : Rg w g l ok) (da : Option Addr) (dn dc : Nat) (D : List Hs) (hD : w.ownsRow B 47 32 (.slice da dn dc) dn (hsC D)) (hl : D.length = dn) (h32 : ∀ h ∈ D, h.length = 32) (hdn : dn ≤ 1000) :
    Calls Try.prog 34 #[.pointer (some ⟨g, 0, none⟩), .slice da dn dc] w (VP D l ok g w) := by
  obtain ⟨Z, hZ, HZ⟩ := zero49
  obtain ⟨d2, hd2⟩ : ∃ d, w.heap.size = d := ⟨_, rfl⟩
  obtain ⟨W, hW⟩ : ∃ W, w.alloc (.cells Z.toArray 49) = W := ⟨_, rfl⟩
  have b1 : Below w.heap.size w W := by rw [← hW]; exact below_al _ _
  have k2 : Blk W d2 49 Z := by rw [← hW, ← hd2]; exact Blk.new w _ _
  have HZL : Hid (Z.length = 33) := by show _ = _; rw [HZ.out]; exact Vx.len vTop_ok
  have hlt := h.lt
  have f0 : Fk [63] g w W := Fk.of_below b1 (by omega)
  have HP : Hid (w.heap.size = d2 ∧ g < d2 ∧ D.length = dn ∧ (∀ h ∈ D, h.length = 32) ∧ dn ≤ 1000) := ⟨hd2, by omega, hl, h32, hdn⟩
  have H0 : Hid (Fk [63] g w W ∧ Rg W g l ok ∧ Blk W d2 49 Z ∧ W.ownsRow B 47 32 (.slice da dn dc) dn (hsC D)) := ⟨f0, h.below b1, k2, own_fk hD f0 (by decide)⟩
  clear h b1 k2 HZ hlt f0 hD hl h32 hdn
  go_enter Try.func34, Try.ntmps34
  go_wp2_with fail
  refine (one_q W g l ok H0.out.2.1).mono ?_
  rintro e W1 ⟨c, l1, ok1, rfl, hf, hr, hs⟩
  have H1 : Hid (Fk [63] g w W1 ∧ Rg W1 g l1 ok1 ∧ Blk W1 d2 49 Z ∧ W1.ownsRow B 47 32 (.slice da dn dc) dn (hsC D) ∧ Rs ok ok1 (mM l) c l1) := ⟨H0.out.1.trans hf, hr, H0.out.2.2.1.fk hf (by decide), own_fk H0.out.2.2.2 hf (by decide), hs⟩
  clear hf hr hs H0 hW
  by_cases h0 : c = 0
  · subst h0
    have e0 : (((0 : UInt8).toNat : Nat) : Int) = 0 := rfl
    rw [e0]
    have HV : Hid (Rs ok ok1 (vV D l) vTop l1) := by
      rcases H1.out.2.2.2.2 with ⟨h1, h2⟩ | ⟨h1, h2⟩
      · exact .inl ⟨h1, by cases l with | nil => cases h2 | cons x y => cases h2; rfl⟩
      · exact .inr ⟨h1, by cases l with | nil => rfl | cons x y => cases h2⟩
    go_wp2_with fail
    refine (rtop_is W1 _ rfl).mono ?_
    rintro e W2 ⟨rfl, hb2⟩
    have HX : Hid (Fk [63] g w W2 ∧ Rg W2 g l1 ok1 ∧ Blk W2 d2 49 Z ∧ Rs ok ok1 (vV D l) vTop l1) := ⟨H1.out.1.then hb2 (by have := H1.out.2.1.lt; omega), H1.out.2.1.below hb2, H1.out.2.2.1.below hb2 H1.out.2.2.1.lt, HV.out⟩
    clear hb2
    go_wp2_with (with_reducible change wpList _ _ _ ({ dst := none, op := Op.store 49 _ _, type := _, pos := _, after := _, guard := _ } :: _) _ _; refine Hid.out ?_)
    show wpList _ _ _ _ _ _
    refine wpList_store_blk rfl 49 (.tmp 4) (.tmp 12) rfl d2 0 49 Z vTop.cells rfl rfl HX.out.2.2.1 (by rw [HZL.out, Vx.len vTop_ok]; omega) (info49 vTop_ok) (Vx.one _) ?_
    intro W9 hx hgs
    have HF : Hid (Blk W9 d2 49 vTop.cells ∧ VP D l ok g w (.returned (.agg vTop.cells.toArray)) W9) := by
      have hfs : Fk [49] g W2 W9 := Fk.of_blk hgs.out HX.out.2.2.1 (by have := HP.out; omega) (by simp)
      exact ⟨blk_all hx.out (by rw [HZL.out, Vx.len vTop_ok]), vTop, _, _, rfl, vTop_ok, HX.out.1.far hgs.out (by have := HP.out; omega) (by have := HP.out; omega), HX.out.2.1.fk hfs (by decide), HX.out.2.2.2⟩
    clear hx hgs
    go_wp2
    exact ret_c rfl rfl rfl HF.out.1 Try.underlying49 rfl (info49 vTop_ok) HF.out.2
  by_cases h1 : c = 1
  · subst h1
    have e0 : (((1 : UInt8).toNat : Nat) : Int) = 1 := rfl
    rw [e0]
    clear h0
    have HV : Hid (Rs ok ok1 (vV D l) vBot l1) := by
      rcases H1.out.2.2.2.2 with ⟨h1, h2⟩ | ⟨h1, h2⟩
      · exact .inl ⟨h1, by cases l with | nil => cases h2 | cons x y => cases h2; rfl⟩
      · exact .inr ⟨h1, by cases l with | nil => rfl | cons x y => cases h2⟩
    go_wp2_with fail
    refine (rbot_is W1 _ rfl).mono ?_
    rintro e W2 ⟨rfl, hb2⟩
    have HX : Hid (Fk [63] g w W2 ∧ Rg W2 g l1 ok1 ∧ Blk W2 d2 49 Z ∧ Rs ok ok1 (vV D l) vBot l1) := ⟨H1.out.1.then hb2 (by have := H1.out.2.1.lt; omega), H1.out.2.1.below hb2, H1.out.2.2.1.below hb2 H1.out.2.2.1.lt, HV.out⟩
    clear hb2
    go_wp2_with (with_reducible change wpList _ _ _ ({ dst := none, op := Op.store 49 _ _, type := _, pos := _, after := _, guard := _ } :: _) _ _; refine Hid.out ?_)
    show wpList _ _ _ _ _ _
    refine wpList_store_blk rfl 49 (.tmp 4) (.tmp 15) rfl d2 0 49 Z vBot.cells rfl rfl HX.out.2.2.1 (by rw [HZL.out, Vx.len vBot_ok]; omega) (info49 vBot_ok) (Vx.one _) ?_
    intro W9 hx hgs
    have HF : Hid (Blk W9 d2 49 vBot.cells ∧ VP D l ok g w (.returned (.agg vBot.cells.toArray)) W9) := by
      have hfs : Fk [49] g W2 W9 := Fk.of_blk hgs.out HX.out.2.2.1 (by have := HP.out; omega) (by simp)
      exact ⟨blk_all hx.out (by rw [HZL.out, Vx.len vBot_ok]), vBot, _, _, rfl, vBot_ok, HX.out.1.far hgs.out (by have := HP.out; omega) (by have := HP.out; omega), HX.out.2.1.fk hfs (by decide), HX.out.2.2.2⟩
    clear hx hgs
    go_wp2
    exact ret_c rfl rfl rfl HF.out.1 Try.underlying49 rfl (info49 vBot_ok) HF.out.2
  have hc0 : ¬ c.toNat = 0 := fun e => h0 (UInt8.toNat_inj.1 (by show c.toNat = 0; omega))
  have hc1 : ¬ c.toNat = 1 := fun e => h1 (UInt8.toNat_inj.1 (by show c.toNat = 1; omega))
  obtain ⟨m, hm⟩ : ∃ m, c.toNat = m := ⟨_, rfl⟩
  rw [hm] at hc0 hc1 ⊢
  have f0 : ((m : Int) == 0) = false := by rw [beq_eq_false_iff_ne]; omega
  have f1 : ((m : Int) == 1) = false := by rw [beq_eq_false_iff_ne]; omega
  have HC : Hid (c.toNat = m ∧ c ≠ 0 ∧ c ≠ 1) := ⟨hm, h0, h1⟩
  clear h0 h1 hc0 hc1 hm
  go_wp2_with fail
  refine (num_q W1 g l1 ok1 H1.out.2.1 16 (by omega)).mono ?_
  rintro e W2 ⟨i, l2, ok2, rfl, hi, hf2, hr2, hs2⟩
  have H2 : Hid (Fk [63] g w W2 ∧ Rg W2 g l2 ok2 ∧ Blk W2 d2 49 Z ∧ W2.ownsRow B 47 32 (.slice da dn dc) dn (hsC D) ∧ Rs ok1 ok2 (nN 16 l1) i l2 ∧ i ≤ 16) := ⟨H1.out.1.trans hf2, hr2, H1.out.2.2.1.fk hf2 (by decide), own_fk H1.out.2.2.2.1 hf2 (by decide), hs2, hi⟩
  clear hf2 hr2 hs2 hi
  go_wp2_with fail
  refine (num_q W2 g l2 ok2 H2.out.2.1 64 (by omega)).mono ?_
  rintro e W3 ⟨j, l3, ok3, rfl, hj, hf3, hr3, hs3⟩
  have H3 : Hid (Fk [63] g w W3 ∧ Rg W3 g l3 ok3 ∧ Blk W3 d2 49 Z ∧ W3.ownsRow B 47 32 (.slice da dn dc) dn (hsC D) ∧ Rs ok2 ok3 (nN 64 l2) j l3) := ⟨H2.out.1.trans hf3, hr3, H2.out.2.2.1.fk hf3 (by decide), own_fk H2.out.2.2.2.1 hf3 (by decide), hs3⟩
  clear hf3 hr3 hs3 hj
  by_cases hbad : m = 2 ∧ i < dn
  · obtain ⟨hm2, hid⟩ := hbad
    subst hm2
    obtain ⟨x, hx⟩ : ∃ x, D[i]? = some x := ⟨_, List.getElem?_eq_getElem (by rw [HP.out.2.2.1]; exact hid)⟩
    have hx32 := HP.out.2.2.2.1 x (List.mem_of_getElem? hx)
    have hrow := hsR_own H3.out.2.2.2.1 HP.out.2.2.2.1 HP.out.2.2.1
    obtain ⟨gd, off, rfl, hgd, hrg⟩ := hrow.1.2.2 (by omega)
    have HXX : Hid (x.length = 32 ∧ W3.rangeAt gd (off + i * 32) (U x) ∧ D.getD i [] = x ∧ i < dn) := ⟨hx32, hrg i x hx, by rw [List.getD_eq_getElem?_getD, hx]; rfl, hid⟩
    have HV : Hid (Rs ok ok3 (vV D l) ⟨x, (j : Int)⟩ l3) := by
      have hc2 : c = 2 := UInt8.toNat_inj.1 (by rw [HC.out.1]; rfl)
      have hl : mM l = none → vV D l = none := fun hn => by cases l with | nil => rfl | cons x y => cases hn
      have hl2 : ∀ y, mM l = some (c, y) → vV D l = lineL D y := fun y hn => by
        cases l with
        | nil => cases hn
        | cons a b => cases hn; subst hc2; rfl
      rcases H3.out.2.2.2.2 with ⟨a1, a2⟩ | ⟨a1, a2⟩
      · rcases H2.out.2.2.2.2.1 with ⟨b1, b2⟩ | ⟨b1, b2⟩
        · rcases H1.out.2.2.2.2 with ⟨c1, c2⟩ | ⟨c1, c2⟩
          · refine .inl ⟨by rw [a1, b1, c1], ?_⟩
            rw [hl2 l1 c2]
            unfold lineL
            rw [b2]
            simp only [Option.bind_some]
            rw [if_pos (by rw [HP.out.2.2.1]; exact hid), a2, HXX.out.2.2.1]
            rfl
          · exact .inr ⟨by rw [a1, b1, c1], hl c2⟩
        · rcases H1.out.2.2.2.2 with ⟨c1, c2⟩ | ⟨c1, c2⟩
          · refine .inr ⟨by rw [a1, b1], ?_⟩
            rw [hl2 l1 c2]
            unfold lineL
            rw [b2]
            rfl
          · exact .inr ⟨by rw [a1, b1], hl c2⟩
      · rcases H1.out.2.2.2.2 with ⟨c1, c2⟩ | ⟨c1, c2⟩
        · refine .inr ⟨a1, ?_⟩
          rw [hl2 l1 c2]
          unfold lineL
          rcases H2.out.2.2.2.2.1 with ⟨b1, b2⟩ | ⟨b1, b2⟩
          · rw [b2]
            simp only [Option.bind_some]
            rw [if_pos (by rw [HP.out.2.2.1]; exact hid), a2]
            rfl
          · rw [b2]
            rfl
        · exact .inr ⟨a1, hl c2⟩
    have HX : Hid (Fk [63] g w W3 ∧ Rg W3 g l3 ok3 ∧ Blk W3 d2 49 Z ∧ Rs ok ok3 (vV D l) ⟨x, (j : Int)⟩ l3) := ⟨H3.out.1, H3.out.2.1, H3.out.2.2.1, HV.out⟩
    have qd : (dn : Int) ≤ 1000 := by have := HP.out.2.2.2.2; omega
    have q1 : (i : Int) < (dn : Int) := by omega
    have g1 : decide ((dn : Int) ≤ (i : Int)) = false := decide_eq_false (by omega)
    clear hx hx32 hrow hgd hrg H1 H2 H3
    go_wp2_with (with_reducible change wpList _ _ _ ({ dst := some 35, op := _, type := _, pos := _, after := _, guard := _ } :: _) _ _; refine Hid.out ?_)
    show wpList _ _ _ _ _ _
    refine wpList_load_mid rfl 47 (.tmp 34) rfl gd (off + i * 32) rfl (U x) _ HXX.out.2.1 Try.underlying47 rfl (info47 _ HXX.out.1) ?_
    go_wp2_with (with_reducible change wpList _ _ _ ({ dst := some 37, op := _, type := _, pos := _, after := _, guard := _ } :: _) _ _; refine Hid.out ?_)
    show wpList _ _ _ _ _ _
    refine wpList_built rfl 49 _ rfl (Vx.cells ⟨x, (j : Int)⟩).toArray (by simp only [List.map_toArray, List.map_cons, List.map_nil]; exact built49v HXX.out.1 (j : Int)) ?_
    go_wp2_with (with_reducible change wpList _ _ _ ({ dst := none, op := Op.store 49 _ _, type := _, pos := _, after := _, guard := _ } :: _) _ _; refine Hid.out ?_)
    show wpList _ _ _ _ _ _
    refine wpList_store_blk rfl 49 (.tmp 4) (.tmp 37) rfl d2 0 49 Z (⟨x, (j : Int)⟩ : Vx).cells rfl rfl HX.out.2.2.1 (by rw [HZL.out, Vx.len (v := ⟨x, (j : Int)⟩) HXX.out.1]; omega) (info49 (v := ⟨x, (j : Int)⟩) HXX.out.1) (Vx.one _) ?_
    intro W9 hx hgs
    have HF : Hid (Blk W9 d2 49 (⟨x, (j : Int)⟩ : Vx).cells ∧ VP D l ok g w (.returned (.agg (⟨x, (j : Int)⟩ : Vx).cells.toArray)) W9) := by
      have hfs : Fk [49] g W3 W9 := Fk.of_blk hgs.out HX.out.2.2.1 (by have := HP.out; omega) (by simp)
      exact ⟨blk_all hx.out (by rw [HZL.out, Vx.len (v := ⟨x, (j : Int)⟩) HXX.out.1]), (⟨x, (j : Int)⟩ : Vx), _, _, rfl, HXX.out.1, HX.out.1.far hgs.out (by have := HP.out; omega) (by have := HP.out; omega), HX.out.2.1.fk hfs (by decide), HX.out.2.2.2⟩
    clear hx hgs
    go_wp2
    exact ret_c rfl rfl rfl HF.out.1 Try.underlying49 rfl (info49 (v := ⟨x, (j : Int)⟩) HXX.out.1) HF.out.2
  have HV : Hid (vV D l = none ∨ (ok1 = false ∧ mM l = none)) := by
    rcases H1.out.2.2.2.2 with ⟨c1, c2⟩ | ⟨c1, c2⟩
    · left
      cases l with
      | nil => rfl
      | cons a b =>
        cases c2
        unfold vV
        simp only
        rw [if_neg HC.out.2.1, if_neg HC.out.2.2]
        by_cases hc2 : c = 2
        · rw [if_pos hc2]
          rcases H2.out.2.2.2.2.1 with ⟨b1, b2⟩ | ⟨b1, b2⟩
          · rw [b2]
            simp only [Option.bind_some]
            rw [if_neg]
            intro hid
            exact hbad ⟨by rw [← HC.out.1, hc2]; rfl, by rw [← HP.out.2.2.1]; exact hid⟩
          · rw [b2]
            rfl
        · rw [if_neg hc2]
    · exact .inr ⟨c1, c2⟩
  have HV2 : Hid (vV D l = none) := by
    rcases HV.out with h | ⟨_, h⟩
    · exact h
    · show _ = _
      cases l with
      | nil => rfl
      | cons x y => cases h
  obtain ⟨aa, nn, cc, hbk, hinn, hnn⟩ := H3.out.2.1
  have c1 : W3.cell? ⟨g, 1, none⟩ = some (.bool ok3) := hbk.cell rfl
  have fz := hbk.free 1
  obtain ⟨W4, hW4⟩ : ∃ W, W3.setCell ⟨g, 1, none⟩ (.bool false) = W := ⟨_, rfl⟩
  have H4 : Hid (Fk [63] g w W4 ∧ Rg W4 g l3 false ∧ Blk W4 d2 49 Z) := by
    have hg4 : W3.grownBy W4 (some g) := by rw [← hW4]; exact grown_setCell _ _ _ _
    exact ⟨H3.out.1.trans (H3.out.2.1.fg hg4), H3.out.2.1.failT hW4, H3.out.2.2.1.kept hg4 (by have := HP.out; simp; omega)⟩
  have qd : (dn : Int) ≤ 1000 := by have := HP.out.2.2.2.2; omega
  have HX0 : Hid (∀ W5, Below W4.heap.size W4 W5 → Fk [63] g w W5 ∧ Rg W5 g l3 false ∧ Blk W5 d2 49 Z ∧ Rs ok false (vV D l) vTop l3) := fun W5 hb => ⟨H4.out.1.then hb (by have := H4.out.2.1.lt; omega), H4.out.2.1.below hb, H4.out.2.2.below hb H4.out.2.2.lt, .inr ⟨rfl, HV2.out⟩⟩
  by_cases hm2 : m = 2
  · subst hm2
    have hid : ¬ i < dn := fun h => hbad ⟨rfl, h⟩
    have q1 : (dn : Int) ≤ (i : Int) := by omega
    have g1 : decide ((dn : Int) ≤ (i : Int)) = true := decide_eq_true q1
    have HDD : Hid (decide (dn ≤ i) = true) := decide_eq_true (by omega)
    clear hid hbad hbk hinn hnn H1 H2 H3 HV H4
    go_wp2_with fail
    refine (rtop_is W4 _ rfl).mono ?_
    rintro e W5 ⟨rfl, hb2⟩
    have HX : Hid (Fk [63] g w W5 ∧ Rg W5 g l3 false ∧ Blk W5 d2 49 Z ∧ Rs ok false (vV D l) vTop l3) := HX0.out W5 hb2
    clear hb2 c1 fz hW4
    go_wp2_with (with_reducible change wpList _ _ _ ({ dst := none, op := Op.store 49 _ _, type := _, pos := _, after := _, guard := _ } :: _) _ _; refine Hid.out ?_)
    show wpList _ _ _ _ _ _
    refine wpList_store_blk rfl 49 (.tmp 4) (.tmp 31) rfl d2 0 49 Z vTop.cells rfl rfl HX.out.2.2.1 (by rw [HZL.out, Vx.len vTop_ok]; omega) (info49 vTop_ok) (Vx.one _) ?_
    intro W9 hx hgs
    have HF : Hid (Blk W9 d2 49 vTop.cells ∧ VP D l ok g w (.returned (.agg vTop.cells.toArray)) W9) := by
      have hfs : Fk [49] g W5 W9 := Fk.of_blk hgs.out HX.out.2.2.1 (by have := HP.out; omega) (by simp)
      exact ⟨blk_all hx.out (by rw [HZL.out, Vx.len vTop_ok]), vTop, _, _, rfl, vTop_ok, HX.out.1.far hgs.out (by have := HP.out; omega) (by have := HP.out; omega), HX.out.2.1.fk hfs (by decide), HX.out.2.2.2⟩
    clear hx hgs
    go_wp2
    exact ret_c rfl rfl rfl HF.out.1 Try.underlying49 rfl (info49 vTop_ok) HF.out.2
  · have f2 : ((m : Int) != 2) = true := by simp only [bne_iff_ne, ne_eq]; omega
    clear hm2 hbad hbk hinn hnn H1 H2 H3 HV H4
    go_wp2_with fail
    refine (rtop_is W4 _ rfl).mono ?_
    rintro e W5 ⟨rfl, hb2⟩
    have HX : Hid (Fk [63] g w W5 ∧ Rg W5 g l3 false ∧ Blk W5 d2 49 Z ∧ Rs ok false (vV D l) vTop l3) := HX0.out W5 hb2
    clear hb2 c1 fz hW4
    go_wp2_with (with_reducible change wpList _ _ _ ({ dst := none, op := Op.store 49 _ _, type := _, pos := _, after := _, guard := _ } :: _) _ _; refine Hid.out ?_)
    show wpList _ _ _ _ _ _
    refine wpList_store_blk rfl 49 (.tmp 4) (.tmp 31) rfl d2 0 49 Z vTop.cells rfl rfl HX.out.2.2.1 (by rw [HZL.out, Vx.len vTop_ok]; omega) (info49 vTop_ok) (Vx.one _) ?_
    intro W9 hx hgs
    have HF : Hid (Blk W9 d2 49 vTop.cells ∧ VP D l ok g w (.returned (.agg vTop.cells.toArray)) W9) := by
      have hfs : Fk [49] g W5 W9 := Fk.of_blk hgs.out HX.out.2.2.1 (by have := HP.out; omega) (by simp)
      exact ⟨blk_all hx.out (by rw [HZL.out, Vx.len vTop_ok]), vTop, _, _, rfl, vTop_ok, HX.out.1.far hgs.out (by have := HP.out; omega) (by have := HP.out; omega), HX.out.2.1.fk hfs (by decide), HX.out.2.2.2⟩
    clear hx hgs
    go_wp2
    exact ret_c rfl rfl rfl HF.out.1 Try.underlying49 rfl (info49 vTop_ok) HF.out.2
end Go.Proofs.Ytgdecjacbkicmaa.Oct

/- Layer 10 (patch): the reference's reading: drawn regions of Decode. -/
namespace Go.Proofs.Ytgdecjacbkicmaa.Oct
open Go.RowKit
set_option maxRecDepth 100000
set_option linter.unusedSimpArgs false
set_option linter.unusedVariables false

def mkV (c : UInt8) (s : BA) (v : Vx) : OpV := { o00 with kind := (c.toNat : Int), path := s, up := v }
theorem built51v {v : Vx} (h : v.ok) (c : UInt8) (s : BA) : Try.prog.built 51 [(0, iv (c.toNat : Int)), (1, .string s), (2, .agg v.cells.toArray)] = some (mkV c s v).cells.toArray := by
  obtain ⟨vh, vn⟩ := v
  obtain ⟨c0, c1, c2, c3, c4, c5, c6, c7, c8, c9, c10, c11, c12, c13, c14, c15, c16, c17, c18, c19, c20, c21, c22, c23, c24, c25, c26, c27, c28, c29, c30, c31, he⟩ := ls32 (x := vh) h
  subst he
  kernel_rfl
theorem mkV_len {v : Vx} (h : v.ok) (c : UInt8) (s : BA) : (mkV c s v).cells.length = 69 := by
  show ([iv (c.toNat : Int), Value.string s] ++ (v.cells ++ (vTop.cells ++ [Value.slice none 0 0]))).length = 69
  simp only [List.length_append, Vx.len h, Vx.len vTop_ok]
  rfl
theorem info51n {X : List Value} (h : X.length = 69) : (Try.prog.info? 51).map (·.size) = some X.length := by rw [h]; kernel_rfl
theorem mkV_one (c : UInt8) (s : BA) (v : Vx) : ∀ u ∈ (mkV c s v).cells, u.oneCell' = true := OpV.one _
set_option maxRecDepth 100000 in
set_option maxHeartbeats 4000000 in
theorem rd20 {Q : Exit → Act → World → Prop} {x0 x1 x2 x3 x6 x7 x8 x9 x10 x11 x12 x13 x14 x15 x16 x17 x18 x19 x20 x21 x22 x23 x24 x25 x26 x27 x28 x29 x30 x31 x32 x33 x34 x35 x36 x37 x38 x39 x40 x41 x42 x43 x44 x45 x46 x47 x48 x49 x50 x51 x52 x53 x54 x55 x56 x57 x58 x59 x60 x61 x62 x63 x64 x65 x66 x67 x68 x69 x70 x71 x72 x73 x74 x75 x76 x77 x78 x79 x80 x81 x82 x83 x84 x85 x86 x87 x88 x89 x90 x91 x92 x93 x94 x95 x96 x97 x98 x99 x100 x101 x102 x103 x104 x105 x106 x107 x108 x109 x110 : Value} {ds : List Deferred} {A : World} {g d5 lo dn dc : Nat} {l : List UInt8} {ok : Bool} {da : Option Addr} {D : List Hs} {L : List Value}
    (HZ : Hid (∀ W, (zeroValue 51).run Try.prog W = .ok (.agg o00.cells.toArray) W)) (HLg : Hid (g ≤ A.heap.size)) (HLc : Hid (L[3]? = some (.slice da dn dc))) (HD : Hid (D.length = dn ∧ (∀ h ∈ D, h.length = 32) ∧ dn ≤ 1000)) (HRk : Hid (Rg A g l ok)) (HBk : Hid (Blk A d5 25 L)) (HOw : Hid (A.ownsRow lo 47 32 (.slice da dn dc) dn (hsC D)))
    (hQ : ∀ V1 (c : UInt8) (s : BA) (v : Vx) (l1 l2 l3 : List UInt8) (ok1 ok2 ok3 : Bool) (z : Nat), Fk [63] g A V1 → Blk V1 z 51 (mkV c s v).cells → Rg V1 g l3 ok3 → A.heap.size ≤ z → Rs ok ok1 (mM l) c l1 → Rs ok1 ok2 (tT 1000 l1) s l2 → Rs ok2 ok3 (vV D l2) v l3 → s.size ≤ 1000 → v.ok → Q .normal { tmps := #[x0, x1, x2, x3, .pointer (some ⟨g, 0, none⟩), .pointer (some ⟨d5, 0, none⟩), x6, x7, x8, x9, .pointer (some ⟨z, 0, none⟩), x11, x12, x13, x14, x15, x16, x17, x18, x19, x20, x21, x22, x23, x24, x25, x26, x27, x28, x29, x30, x31, x32, x33, x34, x35, x36, x37, x38, x39, x40, x41, x42, x43, x44, x45, x46, x47, x48, x49, x50, x51, x52, x53, x54, .pointer (some ⟨g, 0, none⟩), iv (c.toNat : Int), .pointer (some ⟨g, 0, none⟩), .string s, .pointer (some ⟨g, 0, none⟩), .pointer (some ⟨d5, 3, none⟩), .slice da dn dc, .agg v.cells.toArray, .agg (mkV c s v).cells.toArray, x64, x65, x66, x67, x68, x69, x70, x71, x72, x73, x74, x75, x76, x77, x78, x79, x80, x81, x82, x83, x84, x85, x86, x87, x88, x89, x90, x91, x92, x93, x94, x95, x96, x97, x98, x99, x100, x101, x102, x103, x104, x105, x106, x107, x108, x109, x110], defers := ds } V1) :
    (Code.region 20 #[{ dst := some 55, op := Op.move (Operand.tmp 4), type := 61, pos := "ref.go:229", after := #[], guard := none }, { dst := some 56, op := Op.call { callee := Callee.value (Operand.func 31), args := #[Operand.tmp 55], argTypes := #[61] }, type := 3, pos := "ref.go:229", after := #[{ on := 0, ground := Ground.data }], guard := none }, { dst := some 57, op := Op.move (Operand.tmp 4), type := 61, pos := "ref.go:229", after := #[], guard := none }, { dst := some 58, op := Op.call { callee := Callee.value (Operand.func 32), args := #[Operand.tmp 57], argTypes := #[61] }, type := 9, pos := "ref.go:229", after := #[{ on := 2, ground := Ground.data }, { on := 1, ground := Ground.chain }], guard := none }, { dst := some 59, op := Op.move (Operand.tmp 4), type := 61, pos := "ref.go:229", after := #[], guard := none }, { dst := some 60, op := Op.fieldAddr 25 (Operand.tmp 5) 3, type := 0, pos := "ref.go:229", after := #[], guard := none }, { dst := some 61, op := Op.load 22 (Operand.tmp 60), type := 22, pos := "ref.go:229", after := #[{ on := 5, ground := Ground.data }], guard := none }, { dst := some 62, op := Op.call { callee := Callee.value (Operand.func 34), args := #[Operand.tmp 59, Operand.tmp 61], argTypes := #[61, 22] }, type := 49, pos := "ref.go:229", after := #[{ on := 4, ground := Ground.data }, { on := 6, ground := Ground.data }, { on := 3, ground := Ground.chain }], guard := none }, { dst := some 63, op := Op.build 51 #[(0, Operand.tmp 56), (1, Operand.tmp 58), (2, Operand.tmp 62)], type := 51, pos := "ref.go:229", after := #[{ on := 1, ground := Ground.data }, { on := 3, ground := Ground.data }, { on := 7, ground := Ground.data }], guard := none }, { dst := some 10, op := Op.alloc 51, type := 0, pos := "ref.go:229", after := #[], guard := none }, { dst := none, op := Op.store 51 (Operand.tmp 10) (Operand.tmp 63), type := 0, pos := "ref.go:229", after := #[{ on := 9, ground := Ground.data }, { on := 8, ground := Ground.data }, { on := 7, ground := Ground.chain }, { on := 0, ground := Ground.phase }, { on := 1, ground := Ground.phase }, { on := 2, ground := Ground.phase }, { on := 3, ground := Ground.phase }, { on := 4, ground := Ground.phase }, { on := 5, ground := Ground.phase }, { on := 6, ground := Ground.phase }, { on := 7, ground := Ground.phase }, { on := 8, ground := Ground.phase }, { on := 9, ground := Ground.phase }], guard := none }] true).wp Try.prog Q { tmps := #[x0, x1, x2, x3, .pointer (some ⟨g, 0, none⟩), .pointer (some ⟨d5, 0, none⟩), x6, x7, x8, x9, x10, x11, x12, x13, x14, x15, x16, x17, x18, x19, x20, x21, x22, x23, x24, x25, x26, x27, x28, x29, x30, x31, x32, x33, x34, x35, x36, x37, x38, x39, x40, x41, x42, x43, x44, x45, x46, x47, x48, x49, x50, x51, x52, x53, x54, x55, x56, x57, x58, x59, x60, x61, x62, x63, x64, x65, x66, x67, x68, x69, x70, x71, x72, x73, x74, x75, x76, x77, x78, x79, x80, x81, x82, x83, x84, x85, x86, x87, x88, x89, x90, x91, x92, x93, x94, x95, x96, x97, x98, x99, x100, x101, x102, x103, x104, x105, x106, x107, x108, x109, x110], defers := ds } A := by
  refine Code.wp_mono (Q := fun x a' w' => match x with | .normal => Q .normal a' w' | _ => False) (by intro x a' w' h; cases x <;> first | exact h | exact h.elim) ?_
  refine wp_region_held (S := fun V => Fk [63] g A V) (by kernel_rfl) ?_
  have hS0 : Hid (Fk [63] g A A.drew) := Fk.of_below (below_drew0 A) HLg.out
  change wpAnyH Try.prog .any _ _ (fun V => Fk [63] g A V) 11 (Array.replicate 11 false) _ A.drew
  obtain ⟨V0, hV0⟩ : ∃ V0, A.drew = V0 := ⟨_, rfl⟩
  rw [hV0]
  rw [hV0] at hS0
  have hR0 : Hid (Rg V0 g l ok) := by rw [← hV0]; exact HRk.out.below (below_drew0 A)
  have hB0 : Hid (Blk V0 d5 25 L) := by rw [← hV0]; exact HBk.out.drew
  have hO0 : Hid (V0.ownsRow lo 47 32 (.slice da dn dc) dn (hsC D)) := by rw [← hV0]; exact ownsRow_below HOw.out (below_drew0 A)
  clear hV0
  refine wpAnyH_take (i := 0) (oi := { dst := some 55, op := Op.move (Operand.tmp 4), type := 61, pos := "ref.go:229", after := #[], guard := none }) (v := .pointer (some ⟨g, 0, none⟩)) rfl (by kernel_rfl) (by kernel_rfl) (by kernel_rfl) (fun _ _ _ h => h.elim) (Or.inl ⟨by rfl, ?y1⟩) hS0.out ?_
  case y1 =>
    intro V hV
    go_simp
  simp only [Act.put, List.setIfInBounds_toArray, List.set_cons_zero, List.set_cons_succ]
  refine wpAnyH_take (i := 2) (oi := { dst := some 57, op := Op.move (Operand.tmp 4), type := 61, pos := "ref.go:229", after := #[], guard := none }) (v := .pointer (some ⟨g, 0, none⟩)) rfl (by kernel_rfl) (by kernel_rfl) (by kernel_rfl) (fun _ _ _ h => h.elim) (Or.inl ⟨by rfl, ?y2⟩) hS0.out ?_
  case y2 =>
    intro V hV
    go_simp
  simp only [Act.put, List.setIfInBounds_toArray, List.set_cons_zero, List.set_cons_succ]
  refine wpAnyH_take (i := 4) (oi := { dst := some 59, op := Op.move (Operand.tmp 4), type := 61, pos := "ref.go:229", after := #[], guard := none }) (v := .pointer (some ⟨g, 0, none⟩)) rfl (by kernel_rfl) (by kernel_rfl) (by kernel_rfl) (fun _ _ _ h => h.elim) (Or.inl ⟨by rfl, ?y3⟩) hS0.out ?_
  case y3 =>
    intro V hV
    go_simp
  simp only [Act.put, List.setIfInBounds_toArray, List.set_cons_zero, List.set_cons_succ]
  refine wpAnyH_take (i := 5) (oi := { dst := some 60, op := Op.fieldAddr 25 (Operand.tmp 5) 3, type := 0, pos := "ref.go:229", after := #[], guard := none }) (v := .pointer (some ⟨d5, 3, none⟩)) rfl (by kernel_rfl) (by kernel_rfl) (by kernel_rfl) (fun _ _ _ h => h.elim) (Or.inl ⟨by rfl, ?y4⟩) hS0.out ?_
  case y4 =>
    intro V hV
    go_simp
  simp only [Act.put, List.setIfInBounds_toArray, List.set_cons_zero, List.set_cons_succ]
  refine wpAnyH_take (i := 6) (oi := { dst := some 61, op := Op.load 22 (Operand.tmp 60), type := 22, pos := "ref.go:229", after := #[{ on := 5, ground := Ground.data }], guard := none }) (v := .slice da dn dc) rfl (by kernel_rfl) (by kernel_rfl) (by kernel_rfl) (fun _ _ _ h => h.elim) (Or.inl ⟨by rfl, ?y5⟩) hS0.out ?_
  case y5 =>
    intro V hV
    have hc : V.cell? ⟨d5, 3, none⟩ = some (.slice da dn dc) := (HBk.out.fk (show Fk [63] g A V from hV) (by decide)).cell HLc.out
    go_simp
  simp only [Act.put, List.setIfInBounds_toArray, List.set_cons_zero, List.set_cons_succ]
  refine wpAnyH_ready (rs := [1, 9]) (by kernel_rfl) (by simp) (AllReadyH.cons (i := 1) (o := { dst := some 56, op := Op.call { callee := Callee.value (Operand.func 31), args := #[Operand.tmp 55], argTypes := #[61] }, type := 3, pos := "ref.go:229", after := #[{ on := 0, ground := Ground.data }], guard := none }) rfl ?_ (AllReadyH.cons (i := 9) (o := { dst := some 10, op := Op.alloc 51, type := 0, pos := "ref.go:229", after := #[], guard := none }) rfl ?_ AllReadyH.nil))
  · intro K1 hK1
    rw [if_pos (by rfl)]
    have HC1 := one_q V0 g l ok hR0.out
    go_wp2_with fail
    refine HC1.mono ?_
    rintro e V1 ⟨c, l1, ok1, rfl, hf, hr, hs⟩
    dsimp only
    clear HC1
    have hF1 : Hid (Fk [63] g A V1) := hS0.out.trans hf
    have hB1 : Hid (Blk V1 d5 25 L) := hB0.out.fk hf (by decide)
    have hO1 : Hid (V1.ownsRow lo 47 32 (.slice da dn dc) dn (hsC D)) := own_fk hO0.out hf (by decide)
    have hR1 : Hid (Rg V1 g l1 ok1) := hr
    have HE1 : Hid (Rs ok ok1 (mM l) c l1) := hs
    clear hf hr hs
    refine hK1.out _ _ hF1.out ?_
    clear hK1
    intro _
    try simp only [Act.put, List.setIfInBounds_toArray, List.set_cons_zero, List.set_cons_succ]
    refine wpAnyH_ready (rs := [3, 9]) (by kernel_rfl) (by simp) (AllReadyH.cons (i := 3) (o := { dst := some 58, op := Op.call { callee := Callee.value (Operand.func 32), args := #[Operand.tmp 57], argTypes := #[61] }, type := 9, pos := "ref.go:229", after := #[{ on := 2, ground := Ground.data }, { on := 1, ground := Ground.chain }], guard := none }) rfl ?_ (AllReadyH.cons (i := 9) (o := { dst := some 10, op := Op.alloc 51, type := 0, pos := "ref.go:229", after := #[], guard := none }) rfl ?_ AllReadyH.nil))
    · intro K1 hK1
      rw [if_pos (by rfl)]
      have HC2 := text_q V1 g l1 ok1 hR1.out
      go_wp2_with fail
      refine HC2.mono ?_
      rintro e V2 ⟨s, l2, ok2, rfl, hz, hf, hr, hs⟩
      dsimp only
      clear HC2
      have hF2 : Hid (Fk [63] g A V2) := hF1.out.trans hf
      have hB2 : Hid (Blk V2 d5 25 L) := hB1.out.fk hf (by decide)
      have hO2 : Hid (V2.ownsRow lo 47 32 (.slice da dn dc) dn (hsC D)) := own_fk hO1.out hf (by decide)
      have hR2 : Hid (Rg V2 g l2 ok2) := hr
      have HE2 : Hid (Rs ok1 ok2 (tT 1000 l1) s l2 ∧ s.size ≤ 1000) := ⟨hs, hz⟩
      clear hf hr hs
      refine hK1.out _ _ hF2.out ?_
      clear hK1
      intro _
      try simp only [Act.put, List.setIfInBounds_toArray, List.set_cons_zero, List.set_cons_succ]
      refine wpAnyH_ready (rs := [7, 9]) (by kernel_rfl) (by simp) (AllReadyH.cons (i := 7) (o := { dst := some 62, op := Op.call { callee := Callee.value (Operand.func 34), args := #[Operand.tmp 59, Operand.tmp 61], argTypes := #[61, 22] }, type := 49, pos := "ref.go:229", after := #[{ on := 4, ground := Ground.data }, { on := 6, ground := Ground.data }, { on := 3, ground := Ground.chain }], guard := none }) rfl ?_ (AllReadyH.cons (i := 9) (o := { dst := some 10, op := Op.alloc 51, type := 0, pos := "ref.go:229", after := #[], guard := none }) rfl ?_ AllReadyH.nil))
      · intro K1 hK1
        rw [if_pos (by rfl)]
        have HC3 := rvertex_q V2 g l2 ok2 hR2.out da dn dc D hO2.out HD.out.1 HD.out.2.1 HD.out.2.2
        go_wp2_with fail
        refine HC3.mono ?_
        rintro e V3 ⟨v, l3, ok3, rfl, hv, hf, hr, hs⟩
        dsimp only
        clear HC3
        have hF3 : Hid (Fk [63] g A V3) := hF2.out.trans hf
        have hB3 : Hid (Blk V3 d5 25 L) := hB2.out.fk hf (by decide)
        have hO3 : Hid (V3.ownsRow lo 47 32 (.slice da dn dc) dn (hsC D)) := own_fk hO2.out hf (by decide)
        have hR3 : Hid (Rg V3 g l3 ok3) := hr
        have HE3 : Hid (Rs ok2 ok3 (vV D l2) v l3 ∧ v.ok) := ⟨hs, hv⟩
        clear hf hr hs
        refine hK1.out _ _ hF3.out ?_
        clear hK1
        intro _
        try simp only [Act.put, List.setIfInBounds_toArray, List.set_cons_zero, List.set_cons_succ]
        refine wpAnyH_take (i := 8) (oi := { dst := some 63, op := Op.build 51 #[(0, Operand.tmp 56), (1, Operand.tmp 58), (2, Operand.tmp 62)], type := 51, pos := "ref.go:229", after := #[{ on := 1, ground := Ground.data }, { on := 3, ground := Ground.data }, { on := 7, ground := Ground.data }], guard := none }) (v := .agg (mkV c s v).cells.toArray) rfl (by kernel_rfl) (by kernel_rfl) (by kernel_rfl) (fun _ _ _ h => h.elim) (Or.inl ⟨by rfl, ?y6⟩) hF3.out ?_
        case y6 =>
          intro V hV
          exact yl_builtP V 51 _ _ rfl (by simp only [List.map_toArray, List.map_cons, List.map_nil]; exact built51v HE3.out.2 c s)
        simp only [Act.put, List.setIfInBounds_toArray, List.set_cons_zero, List.set_cons_succ]
        refine wpAnyH_ready (rs := [9]) (by kernel_rfl) (by simp) (AllReadyH.cons (i := 9) (o := { dst := some 10, op := Op.alloc 51, type := 0, pos := "ref.go:229", after := #[], guard := none }) rfl ?_ AllReadyH.nil)
        · intro K1 hK1
          rw [if_pos (by rfl)]
          have hz4 := HZ.out
          obtain ⟨z, hzz⟩ : ∃ z, V3.heap.size = z := ⟨_, rfl⟩
          obtain ⟨V4, hv4⟩ : ∃ V, V3.alloc (.cells o00.cells.toArray 51) = V := ⟨_, rfl⟩
          have hb4 : Below V3.heap.size V3 V4 := by rw [← hv4]; exact below_al _ _
          have hk4 : Blk V4 z 51 o00.cells := by rw [← hv4, ← hzz]; exact Blk.new _ _ _
          go_wp2
          have hfz : Fk [63] g V3 V4 := Fk.of_below hb4 (by have := hR3.out.lt; omega)
          have hF4 : Hid (Fk [63] g A V4) := hF3.out.trans hfz
          have hB4 : Hid (Blk V4 d5 25 L) := hB3.out.fk hfz (by decide)
          have hO4 : Hid (V4.ownsRow lo 47 32 (.slice da dn dc) dn (hsC D)) := own_fk hO3.out hfz (by decide)
          have hR4 : Hid (Rg V4 g l3 ok3) := hR3.out.below hb4
          have hZ4 : Hid (Blk V4 z 51 o00.cells ∧ A.heap.size ≤ z) := ⟨hk4, by have := hF3.out.size; omega⟩
          clear hfz hb4 hk4 hv4 hzz hz4
          refine hK1.out _ _ hF4.out ?_
          clear hK1
          intro _
          try simp only [Act.put, List.setIfInBounds_toArray, List.set_cons_zero, List.set_cons_succ]
          refine wpAnyH_ready (rs := [10]) (by kernel_rfl) (by simp) (AllReadyH.cons (i := 10) (o := { dst := none, op := Op.store 51 (Operand.tmp 10) (Operand.tmp 63), type := 0, pos := "ref.go:229", after := #[{ on := 9, ground := Ground.data }, { on := 8, ground := Ground.data }, { on := 7, ground := Ground.chain }, { on := 0, ground := Ground.phase }, { on := 1, ground := Ground.phase }, { on := 2, ground := Ground.phase }, { on := 3, ground := Ground.phase }, { on := 4, ground := Ground.phase }, { on := 5, ground := Ground.phase }, { on := 6, ground := Ground.phase }, { on := 7, ground := Ground.phase }, { on := 8, ground := Ground.phase }, { on := 9, ground := Ground.phase }], guard := none }) rfl ?_ AllReadyH.nil)
          · intro K1 hK1
            refine step_store_blk (by rfl) 51 (.tmp 10) (.tmp 63) rfl z 0 51 o00.cells (mkV c s v).cells rfl rfl hZ4.out.1 (by rw [mkV_len HE3.out.2, OpV.len o00_ok]; omega) (info51n (mkV_len HE3.out.2 c s)) (mkV_one c s v) ?_
            intro V5 hx5 hg5
            have hS5 : Hid (Fk [63] g A V5 ∧ Blk V5 z 51 (mkV c s v).cells ∧ Fk [51] g V4 V5) := ⟨hF4.out.far hg5.out hZ4.out.2 HLg.out, blk_all hx5.out (by rw [mkV_len HE3.out.2, OpV.len o00_ok]), Fk.of_blk hg5.out hZ4.out.1 (by have := hZ4.out.2; have := HLg.out; omega) (by simp)⟩
            clear hx5 hg5
            refine hK1.out _ _ hS5.out.1 ?_
            clear hK1
            intro _
            try simp only [Act.put, List.setIfInBounds_toArray, List.set_cons_zero, List.set_cons_succ]
            refine wpAnyH_done (by kernel_rfl) ?_ _
            exact hQ V5 c s v l1 l2 l3 ok1 ok2 ok3 z hS5.out.1 hS5.out.2.1 (hR4.out.fk hS5.out.2.2 (by decide)) hZ4.out.2 HE1.out HE2.out.1 HE3.out.1 HE2.out.2 HE3.out.2
      · intro K1 hK1
        rw [if_pos (by rfl)]
        have hz3 := HZ.out
        obtain ⟨z, hzz⟩ : ∃ z, V2.heap.size = z := ⟨_, rfl⟩
        obtain ⟨V3, hv3⟩ : ∃ V, V2.alloc (.cells o00.cells.toArray 51) = V := ⟨_, rfl⟩
        have hb3 : Below V2.heap.size V2 V3 := by rw [← hv3]; exact below_al _ _
        have hk3 : Blk V3 z 51 o00.cells := by rw [← hv3, ← hzz]; exact Blk.new _ _ _
        go_wp2
        have hfz : Fk [63] g V2 V3 := Fk.of_below hb3 (by have := hR2.out.lt; omega)
        have hF3 : Hid (Fk [63] g A V3) := hF2.out.trans hfz
        have hB3 : Hid (Blk V3 d5 25 L) := hB2.out.fk hfz (by decide)
        have hO3 : Hid (V3.ownsRow lo 47 32 (.slice da dn dc) dn (hsC D)) := own_fk hO2.out hfz (by decide)
        have hR3 : Hid (Rg V3 g l2 ok2) := hR2.out.below hb3
        have hZ3 : Hid (Blk V3 z 51 o00.cells ∧ A.heap.size ≤ z) := ⟨hk3, by have := hF2.out.size; omega⟩
        clear hfz hb3 hk3 hv3 hzz hz3
        refine hK1.out _ _ hF3.out ?_
        clear hK1
        intro _
        try simp only [Act.put, List.setIfInBounds_toArray, List.set_cons_zero, List.set_cons_succ]
        refine wpAnyH_ready (rs := [7]) (by kernel_rfl) (by simp) (AllReadyH.cons (i := 7) (o := { dst := some 62, op := Op.call { callee := Callee.value (Operand.func 34), args := #[Operand.tmp 59, Operand.tmp 61], argTypes := #[61, 22] }, type := 49, pos := "ref.go:229", after := #[{ on := 4, ground := Ground.data }, { on := 6, ground := Ground.data }, { on := 3, ground := Ground.chain }], guard := none }) rfl ?_ AllReadyH.nil)
        · intro K1 hK1
          rw [if_pos (by rfl)]
          have HC4 := rvertex_q V3 g l2 ok2 hR3.out da dn dc D hO3.out HD.out.1 HD.out.2.1 HD.out.2.2
          go_wp2_with fail
          refine HC4.mono ?_
          rintro e V4 ⟨v, l3, ok3, rfl, hv, hf, hr, hs⟩
          dsimp only
          clear HC4
          have hF4 : Hid (Fk [63] g A V4) := hF3.out.trans hf
          have hB4 : Hid (Blk V4 d5 25 L) := hB3.out.fk hf (by decide)
          have hO4 : Hid (V4.ownsRow lo 47 32 (.slice da dn dc) dn (hsC D)) := own_fk hO3.out hf (by decide)
          have hZ4 : Hid (Blk V4 z 51 o00.cells ∧ A.heap.size ≤ z) := ⟨hZ3.out.1.fk hf (by decide), hZ3.out.2⟩
          have hR4 : Hid (Rg V4 g l3 ok3) := hr
          have HE3 : Hid (Rs ok2 ok3 (vV D l2) v l3 ∧ v.ok) := ⟨hs, hv⟩
          clear hf hr hs
          refine hK1.out _ _ hF4.out ?_
          clear hK1
          intro _
          try simp only [Act.put, List.setIfInBounds_toArray, List.set_cons_zero, List.set_cons_succ]
          refine wpAnyH_take (i := 8) (oi := { dst := some 63, op := Op.build 51 #[(0, Operand.tmp 56), (1, Operand.tmp 58), (2, Operand.tmp 62)], type := 51, pos := "ref.go:229", after := #[{ on := 1, ground := Ground.data }, { on := 3, ground := Ground.data }, { on := 7, ground := Ground.data }], guard := none }) (v := .agg (mkV c s v).cells.toArray) rfl (by kernel_rfl) (by kernel_rfl) (by kernel_rfl) (fun _ _ _ h => h.elim) (Or.inl ⟨by rfl, ?y7⟩) hF4.out ?_
          case y7 =>
            intro V hV
            exact yl_builtP V 51 _ _ rfl (by simp only [List.map_toArray, List.map_cons, List.map_nil]; exact built51v HE3.out.2 c s)
          simp only [Act.put, List.setIfInBounds_toArray, List.set_cons_zero, List.set_cons_succ]
          refine wpAnyH_ready (rs := [10]) (by kernel_rfl) (by simp) (AllReadyH.cons (i := 10) (o := { dst := none, op := Op.store 51 (Operand.tmp 10) (Operand.tmp 63), type := 0, pos := "ref.go:229", after := #[{ on := 9, ground := Ground.data }, { on := 8, ground := Ground.data }, { on := 7, ground := Ground.chain }, { on := 0, ground := Ground.phase }, { on := 1, ground := Ground.phase }, { on := 2, ground := Ground.phase }, { on := 3, ground := Ground.phase }, { on := 4, ground := Ground.phase }, { on := 5, ground := Ground.phase }, { on := 6, ground := Ground.phase }, { on := 7, ground := Ground.phase }, { on := 8, ground := Ground.phase }, { on := 9, ground := Ground.phase }], guard := none }) rfl ?_ AllReadyH.nil)
          · intro K1 hK1
            refine step_store_blk (by rfl) 51 (.tmp 10) (.tmp 63) rfl z 0 51 o00.cells (mkV c s v).cells rfl rfl hZ4.out.1 (by rw [mkV_len HE3.out.2, OpV.len o00_ok]; omega) (info51n (mkV_len HE3.out.2 c s)) (mkV_one c s v) ?_
            intro V5 hx5 hg5
            have hS5 : Hid (Fk [63] g A V5 ∧ Blk V5 z 51 (mkV c s v).cells ∧ Fk [51] g V4 V5) := ⟨hF4.out.far hg5.out hZ4.out.2 HLg.out, blk_all hx5.out (by rw [mkV_len HE3.out.2, OpV.len o00_ok]), Fk.of_blk hg5.out hZ4.out.1 (by have := hZ4.out.2; have := HLg.out; omega) (by simp)⟩
            clear hx5 hg5
            refine hK1.out _ _ hS5.out.1 ?_
            clear hK1
            intro _
            try simp only [Act.put, List.setIfInBounds_toArray, List.set_cons_zero, List.set_cons_succ]
            refine wpAnyH_done (by kernel_rfl) ?_ _
            exact hQ V5 c s v l1 l2 l3 ok1 ok2 ok3 z hS5.out.1 hS5.out.2.1 (hR4.out.fk hS5.out.2.2 (by decide)) hZ4.out.2 HE1.out HE2.out.1 HE3.out.1 HE2.out.2 HE3.out.2
    · intro K1 hK1
      rw [if_pos (by rfl)]
      have hz2 := HZ.out
      obtain ⟨z, hzz⟩ : ∃ z, V1.heap.size = z := ⟨_, rfl⟩
      obtain ⟨V2, hv2⟩ : ∃ V, V1.alloc (.cells o00.cells.toArray 51) = V := ⟨_, rfl⟩
      have hb2 : Below V1.heap.size V1 V2 := by rw [← hv2]; exact below_al _ _
      have hk2 : Blk V2 z 51 o00.cells := by rw [← hv2, ← hzz]; exact Blk.new _ _ _
      go_wp2
      have hfz : Fk [63] g V1 V2 := Fk.of_below hb2 (by have := hR1.out.lt; omega)
      have hF2 : Hid (Fk [63] g A V2) := hF1.out.trans hfz
      have hB2 : Hid (Blk V2 d5 25 L) := hB1.out.fk hfz (by decide)
      have hO2 : Hid (V2.ownsRow lo 47 32 (.slice da dn dc) dn (hsC D)) := own_fk hO1.out hfz (by decide)
      have hR2 : Hid (Rg V2 g l1 ok1) := hR1.out.below hb2
      have hZ2 : Hid (Blk V2 z 51 o00.cells ∧ A.heap.size ≤ z) := ⟨hk2, by have := hF1.out.size; omega⟩
      clear hfz hb2 hk2 hv2 hzz hz2
      refine hK1.out _ _ hF2.out ?_
      clear hK1
      intro _
      try simp only [Act.put, List.setIfInBounds_toArray, List.set_cons_zero, List.set_cons_succ]
      refine wpAnyH_ready (rs := [3]) (by kernel_rfl) (by simp) (AllReadyH.cons (i := 3) (o := { dst := some 58, op := Op.call { callee := Callee.value (Operand.func 32), args := #[Operand.tmp 57], argTypes := #[61] }, type := 9, pos := "ref.go:229", after := #[{ on := 2, ground := Ground.data }, { on := 1, ground := Ground.chain }], guard := none }) rfl ?_ AllReadyH.nil)
      · intro K1 hK1
        rw [if_pos (by rfl)]
        have HC3 := text_q V2 g l1 ok1 hR2.out
        go_wp2_with fail
        refine HC3.mono ?_
        rintro e V3 ⟨s, l2, ok2, rfl, hz, hf, hr, hs⟩
        dsimp only
        clear HC3
        have hF3 : Hid (Fk [63] g A V3) := hF2.out.trans hf
        have hB3 : Hid (Blk V3 d5 25 L) := hB2.out.fk hf (by decide)
        have hO3 : Hid (V3.ownsRow lo 47 32 (.slice da dn dc) dn (hsC D)) := own_fk hO2.out hf (by decide)
        have hZ3 : Hid (Blk V3 z 51 o00.cells ∧ A.heap.size ≤ z) := ⟨hZ2.out.1.fk hf (by decide), hZ2.out.2⟩
        have hR3 : Hid (Rg V3 g l2 ok2) := hr
        have HE2 : Hid (Rs ok1 ok2 (tT 1000 l1) s l2 ∧ s.size ≤ 1000) := ⟨hs, hz⟩
        clear hf hr hs
        refine hK1.out _ _ hF3.out ?_
        clear hK1
        intro _
        try simp only [Act.put, List.setIfInBounds_toArray, List.set_cons_zero, List.set_cons_succ]
        refine wpAnyH_ready (rs := [7]) (by kernel_rfl) (by simp) (AllReadyH.cons (i := 7) (o := { dst := some 62, op := Op.call { callee := Callee.value (Operand.func 34), args := #[Operand.tmp 59, Operand.tmp 61], argTypes := #[61, 22] }, type := 49, pos := "ref.go:229", after := #[{ on := 4, ground := Ground.data }, { on := 6, ground := Ground.data }, { on := 3, ground := Ground.chain }], guard := none }) rfl ?_ AllReadyH.nil)
        · intro K1 hK1
          rw [if_pos (by rfl)]
          have HC4 := rvertex_q V3 g l2 ok2 hR3.out da dn dc D hO3.out HD.out.1 HD.out.2.1 HD.out.2.2
          go_wp2_with fail
          refine HC4.mono ?_
          rintro e V4 ⟨v, l3, ok3, rfl, hv, hf, hr, hs⟩
          dsimp only
          clear HC4
          have hF4 : Hid (Fk [63] g A V4) := hF3.out.trans hf
          have hB4 : Hid (Blk V4 d5 25 L) := hB3.out.fk hf (by decide)
          have hO4 : Hid (V4.ownsRow lo 47 32 (.slice da dn dc) dn (hsC D)) := own_fk hO3.out hf (by decide)
          have hZ4 : Hid (Blk V4 z 51 o00.cells ∧ A.heap.size ≤ z) := ⟨hZ3.out.1.fk hf (by decide), hZ3.out.2⟩
          have hR4 : Hid (Rg V4 g l3 ok3) := hr
          have HE3 : Hid (Rs ok2 ok3 (vV D l2) v l3 ∧ v.ok) := ⟨hs, hv⟩
          clear hf hr hs
          refine hK1.out _ _ hF4.out ?_
          clear hK1
          intro _
          try simp only [Act.put, List.setIfInBounds_toArray, List.set_cons_zero, List.set_cons_succ]
          refine wpAnyH_take (i := 8) (oi := { dst := some 63, op := Op.build 51 #[(0, Operand.tmp 56), (1, Operand.tmp 58), (2, Operand.tmp 62)], type := 51, pos := "ref.go:229", after := #[{ on := 1, ground := Ground.data }, { on := 3, ground := Ground.data }, { on := 7, ground := Ground.data }], guard := none }) (v := .agg (mkV c s v).cells.toArray) rfl (by kernel_rfl) (by kernel_rfl) (by kernel_rfl) (fun _ _ _ h => h.elim) (Or.inl ⟨by rfl, ?y8⟩) hF4.out ?_
          case y8 =>
            intro V hV
            exact yl_builtP V 51 _ _ rfl (by simp only [List.map_toArray, List.map_cons, List.map_nil]; exact built51v HE3.out.2 c s)
          simp only [Act.put, List.setIfInBounds_toArray, List.set_cons_zero, List.set_cons_succ]
          refine wpAnyH_ready (rs := [10]) (by kernel_rfl) (by simp) (AllReadyH.cons (i := 10) (o := { dst := none, op := Op.store 51 (Operand.tmp 10) (Operand.tmp 63), type := 0, pos := "ref.go:229", after := #[{ on := 9, ground := Ground.data }, { on := 8, ground := Ground.data }, { on := 7, ground := Ground.chain }, { on := 0, ground := Ground.phase }, { on := 1, ground := Ground.phase }, { on := 2, ground := Ground.phase }, { on := 3, ground := Ground.phase }, { on := 4, ground := Ground.phase }, { on := 5, ground := Ground.phase }, { on := 6, ground := Ground.phase }, { on := 7, ground := Ground.phase }, { on := 8, ground := Ground.phase }, { on := 9, ground := Ground.phase }], guard := none }) rfl ?_ AllReadyH.nil)
          · intro K1 hK1
            refine step_store_blk (by rfl) 51 (.tmp 10) (.tmp 63) rfl z 0 51 o00.cells (mkV c s v).cells rfl rfl hZ4.out.1 (by rw [mkV_len HE3.out.2, OpV.len o00_ok]; omega) (info51n (mkV_len HE3.out.2 c s)) (mkV_one c s v) ?_
            intro V5 hx5 hg5
            have hS5 : Hid (Fk [63] g A V5 ∧ Blk V5 z 51 (mkV c s v).cells ∧ Fk [51] g V4 V5) := ⟨hF4.out.far hg5.out hZ4.out.2 HLg.out, blk_all hx5.out (by rw [mkV_len HE3.out.2, OpV.len o00_ok]), Fk.of_blk hg5.out hZ4.out.1 (by have := hZ4.out.2; have := HLg.out; omega) (by simp)⟩
            clear hx5 hg5
            refine hK1.out _ _ hS5.out.1 ?_
            clear hK1
            intro _
            try simp only [Act.put, List.setIfInBounds_toArray, List.set_cons_zero, List.set_cons_succ]
            refine wpAnyH_done (by kernel_rfl) ?_ _
            exact hQ V5 c s v l1 l2 l3 ok1 ok2 ok3 z hS5.out.1 hS5.out.2.1 (hR4.out.fk hS5.out.2.2 (by decide)) hZ4.out.2 HE1.out HE2.out.1 HE3.out.1 HE2.out.2 HE3.out.2
  · intro K1 hK1
    rw [if_pos (by rfl)]
    have hz1 := HZ.out
    obtain ⟨z, hzz⟩ : ∃ z, V0.heap.size = z := ⟨_, rfl⟩
    obtain ⟨V1, hv1⟩ : ∃ V, V0.alloc (.cells o00.cells.toArray 51) = V := ⟨_, rfl⟩
    have hb1 : Below V0.heap.size V0 V1 := by rw [← hv1]; exact below_al _ _
    have hk1 : Blk V1 z 51 o00.cells := by rw [← hv1, ← hzz]; exact Blk.new _ _ _
    go_wp2
    have hfz : Fk [63] g V0 V1 := Fk.of_below hb1 (by have := hR0.out.lt; omega)
    have hF1 : Hid (Fk [63] g A V1) := hS0.out.trans hfz
    have hB1 : Hid (Blk V1 d5 25 L) := hB0.out.fk hfz (by decide)
    have hO1 : Hid (V1.ownsRow lo 47 32 (.slice da dn dc) dn (hsC D)) := own_fk hO0.out hfz (by decide)
    have hR1 : Hid (Rg V1 g l ok) := hR0.out.below hb1
    have hZ1 : Hid (Blk V1 z 51 o00.cells ∧ A.heap.size ≤ z) := ⟨hk1, by have := hS0.out.size; omega⟩
    clear hfz hb1 hk1 hv1 hzz hz1
    refine hK1.out _ _ hF1.out ?_
    clear hK1
    intro _
    try simp only [Act.put, List.setIfInBounds_toArray, List.set_cons_zero, List.set_cons_succ]
    refine wpAnyH_ready (rs := [1]) (by kernel_rfl) (by simp) (AllReadyH.cons (i := 1) (o := { dst := some 56, op := Op.call { callee := Callee.value (Operand.func 31), args := #[Operand.tmp 55], argTypes := #[61] }, type := 3, pos := "ref.go:229", after := #[{ on := 0, ground := Ground.data }], guard := none }) rfl ?_ AllReadyH.nil)
    · intro K1 hK1
      rw [if_pos (by rfl)]
      have HC2 := one_q V1 g l ok hR1.out
      go_wp2_with fail
      refine HC2.mono ?_
      rintro e V2 ⟨c, l1, ok1, rfl, hf, hr, hs⟩
      dsimp only
      clear HC2
      have hF2 : Hid (Fk [63] g A V2) := hF1.out.trans hf
      have hB2 : Hid (Blk V2 d5 25 L) := hB1.out.fk hf (by decide)
      have hO2 : Hid (V2.ownsRow lo 47 32 (.slice da dn dc) dn (hsC D)) := own_fk hO1.out hf (by decide)
      have hZ2 : Hid (Blk V2 z 51 o00.cells ∧ A.heap.size ≤ z) := ⟨hZ1.out.1.fk hf (by decide), hZ1.out.2⟩
      have hR2 : Hid (Rg V2 g l1 ok1) := hr
      have HE1 : Hid (Rs ok ok1 (mM l) c l1) := hs
      clear hf hr hs
      refine hK1.out _ _ hF2.out ?_
      clear hK1
      intro _
      try simp only [Act.put, List.setIfInBounds_toArray, List.set_cons_zero, List.set_cons_succ]
      refine wpAnyH_ready (rs := [3]) (by kernel_rfl) (by simp) (AllReadyH.cons (i := 3) (o := { dst := some 58, op := Op.call { callee := Callee.value (Operand.func 32), args := #[Operand.tmp 57], argTypes := #[61] }, type := 9, pos := "ref.go:229", after := #[{ on := 2, ground := Ground.data }, { on := 1, ground := Ground.chain }], guard := none }) rfl ?_ AllReadyH.nil)
      · intro K1 hK1
        rw [if_pos (by rfl)]
        have HC3 := text_q V2 g l1 ok1 hR2.out
        go_wp2_with fail
        refine HC3.mono ?_
        rintro e V3 ⟨s, l2, ok2, rfl, hz, hf, hr, hs⟩
        dsimp only
        clear HC3
        have hF3 : Hid (Fk [63] g A V3) := hF2.out.trans hf
        have hB3 : Hid (Blk V3 d5 25 L) := hB2.out.fk hf (by decide)
        have hO3 : Hid (V3.ownsRow lo 47 32 (.slice da dn dc) dn (hsC D)) := own_fk hO2.out hf (by decide)
        have hZ3 : Hid (Blk V3 z 51 o00.cells ∧ A.heap.size ≤ z) := ⟨hZ2.out.1.fk hf (by decide), hZ2.out.2⟩
        have hR3 : Hid (Rg V3 g l2 ok2) := hr
        have HE2 : Hid (Rs ok1 ok2 (tT 1000 l1) s l2 ∧ s.size ≤ 1000) := ⟨hs, hz⟩
        clear hf hr hs
        refine hK1.out _ _ hF3.out ?_
        clear hK1
        intro _
        try simp only [Act.put, List.setIfInBounds_toArray, List.set_cons_zero, List.set_cons_succ]
        refine wpAnyH_ready (rs := [7]) (by kernel_rfl) (by simp) (AllReadyH.cons (i := 7) (o := { dst := some 62, op := Op.call { callee := Callee.value (Operand.func 34), args := #[Operand.tmp 59, Operand.tmp 61], argTypes := #[61, 22] }, type := 49, pos := "ref.go:229", after := #[{ on := 4, ground := Ground.data }, { on := 6, ground := Ground.data }, { on := 3, ground := Ground.chain }], guard := none }) rfl ?_ AllReadyH.nil)
        · intro K1 hK1
          rw [if_pos (by rfl)]
          have HC4 := rvertex_q V3 g l2 ok2 hR3.out da dn dc D hO3.out HD.out.1 HD.out.2.1 HD.out.2.2
          go_wp2_with fail
          refine HC4.mono ?_
          rintro e V4 ⟨v, l3, ok3, rfl, hv, hf, hr, hs⟩
          dsimp only
          clear HC4
          have hF4 : Hid (Fk [63] g A V4) := hF3.out.trans hf
          have hB4 : Hid (Blk V4 d5 25 L) := hB3.out.fk hf (by decide)
          have hO4 : Hid (V4.ownsRow lo 47 32 (.slice da dn dc) dn (hsC D)) := own_fk hO3.out hf (by decide)
          have hZ4 : Hid (Blk V4 z 51 o00.cells ∧ A.heap.size ≤ z) := ⟨hZ3.out.1.fk hf (by decide), hZ3.out.2⟩
          have hR4 : Hid (Rg V4 g l3 ok3) := hr
          have HE3 : Hid (Rs ok2 ok3 (vV D l2) v l3 ∧ v.ok) := ⟨hs, hv⟩
          clear hf hr hs
          refine hK1.out _ _ hF4.out ?_
          clear hK1
          intro _
          try simp only [Act.put, List.setIfInBounds_toArray, List.set_cons_zero, List.set_cons_succ]
          refine wpAnyH_take (i := 8) (oi := { dst := some 63, op := Op.build 51 #[(0, Operand.tmp 56), (1, Operand.tmp 58), (2, Operand.tmp 62)], type := 51, pos := "ref.go:229", after := #[{ on := 1, ground := Ground.data }, { on := 3, ground := Ground.data }, { on := 7, ground := Ground.data }], guard := none }) (v := .agg (mkV c s v).cells.toArray) rfl (by kernel_rfl) (by kernel_rfl) (by kernel_rfl) (fun _ _ _ h => h.elim) (Or.inl ⟨by rfl, ?y9⟩) hF4.out ?_
          case y9 =>
            intro V hV
            exact yl_builtP V 51 _ _ rfl (by simp only [List.map_toArray, List.map_cons, List.map_nil]; exact built51v HE3.out.2 c s)
          simp only [Act.put, List.setIfInBounds_toArray, List.set_cons_zero, List.set_cons_succ]
          refine wpAnyH_ready (rs := [10]) (by kernel_rfl) (by simp) (AllReadyH.cons (i := 10) (o := { dst := none, op := Op.store 51 (Operand.tmp 10) (Operand.tmp 63), type := 0, pos := "ref.go:229", after := #[{ on := 9, ground := Ground.data }, { on := 8, ground := Ground.data }, { on := 7, ground := Ground.chain }, { on := 0, ground := Ground.phase }, { on := 1, ground := Ground.phase }, { on := 2, ground := Ground.phase }, { on := 3, ground := Ground.phase }, { on := 4, ground := Ground.phase }, { on := 5, ground := Ground.phase }, { on := 6, ground := Ground.phase }, { on := 7, ground := Ground.phase }, { on := 8, ground := Ground.phase }, { on := 9, ground := Ground.phase }], guard := none }) rfl ?_ AllReadyH.nil)
          · intro K1 hK1
            refine step_store_blk (by rfl) 51 (.tmp 10) (.tmp 63) rfl z 0 51 o00.cells (mkV c s v).cells rfl rfl hZ4.out.1 (by rw [mkV_len HE3.out.2, OpV.len o00_ok]; omega) (info51n (mkV_len HE3.out.2 c s)) (mkV_one c s v) ?_
            intro V5 hx5 hg5
            have hS5 : Hid (Fk [63] g A V5 ∧ Blk V5 z 51 (mkV c s v).cells ∧ Fk [51] g V4 V5) := ⟨hF4.out.far hg5.out hZ4.out.2 HLg.out, blk_all hx5.out (by rw [mkV_len HE3.out.2, OpV.len o00_ok]), Fk.of_blk hg5.out hZ4.out.1 (by have := hZ4.out.2; have := HLg.out; omega) (by simp)⟩
            clear hx5 hg5
            refine hK1.out _ _ hS5.out.1 ?_
            clear hK1
            intro _
            try simp only [Act.put, List.setIfInBounds_toArray, List.set_cons_zero, List.set_cons_succ]
            refine wpAnyH_done (by kernel_rfl) ?_ _
            exact hQ V5 c s v l1 l2 l3 ok1 ok2 ok3 z hS5.out.1 hS5.out.2.1 (hR4.out.fk hS5.out.2.2 (by decide)) hZ4.out.2 HE1.out HE2.out.1 HE3.out.1 HE2.out.2 HE3.out.2
set_option maxRecDepth 100000 in
set_option maxHeartbeats 4000000 in
theorem rd26 {Q : Exit → Act → World → Prop} {x0 x1 x2 x3 x5 x6 x7 x8 x9 x11 x12 x13 x14 x15 x16 x17 x18 x19 x20 x21 x22 x23 x24 x25 x26 x27 x28 x29 x30 x31 x32 x33 x34 x35 x36 x37 x38 x39 x40 x41 x42 x43 x44 x45 x46 x47 x48 x49 x50 x51 x52 x53 x54 x55 x56 x57 x58 x59 x60 x61 x62 x63 x64 x65 x66 x67 x68 x69 x70 x71 x72 x73 x74 x75 x76 x77 x78 x79 x80 x81 x82 x83 x84 x85 x86 x87 x88 x89 x90 x91 x92 x93 x94 x95 x96 x97 x98 x99 x100 x101 x102 x103 x104 x105 x106 x107 x108 x109 x110 : Value} {ds : List Deferred} {A : World} {g d10 lo rn rc : Nat} {l : List UInt8} {ok : Bool} {ra : Option Addr} {L C : List Value}
    (HRn : Hid (rn ≤ 64)) (HLc : Hid (L[68]? = some (.slice ra rn rc))) (HLo : Hid (g ≤ lo ∧ lo ≤ A.heap.size)) (HLb : Hid (g ≤ d10)) (HRk : Hid (Rg A g l ok)) (HBk : Hid (Blk A d10 51 L)) (HOw : Hid (A.ownsRow lo 9 1 (.slice ra rn rc) rn C))
    (hQ : ∀ Vc Vm Va (s : BA) (l2 : List UInt8) (ok2 : Bool) ra2 rc2 z, Rs ok ok2 (tT 1000 l) s l2 → s.size ≤ 1000 → Fk [63] g A Vm → Rg Vc g l2 ok2 → Below Vc.heap.size Vc Vm → Vm.grownBy Va (Value.slice ra rn rc).ownBlock → Va.ownsRow lo 9 1 (.slice ra2 (rn + 1) rc2) (rn + 1) (C ++ [Value.string s]) → Blk Va d10 51 L → Q .normal { tmps := #[x0, x1, x2, x3, .pointer (some ⟨g, 0, none⟩), x5, x6, x7, x8, x9, .pointer (some ⟨d10, 0, none⟩), x11, x12, x13, x14, x15, x16, x17, x18, x19, x20, x21, x22, x23, x24, x25, x26, x27, x28, x29, x30, x31, x32, x33, x34, x35, x36, x37, x38, x39, x40, x41, x42, x43, x44, x45, x46, x47, x48, x49, x50, x51, x52, x53, x54, x55, x56, x57, x58, x59, x60, x61, x62, x63, x64, x65, x66, x67, x68, x69, x70, x71, x72, x73, x74, x75, x76, x77, .pointer (some ⟨d10, 68, none⟩), .slice ra rn rc, .pointer (some ⟨g, 0, none⟩), .string s, .slice (some ⟨z, 0, none⟩) 1 1, .slice ra2 (rn + 1) rc2, .pointer (some ⟨d10, 68, none⟩), x85, x86, x87, x88, x89, x90, x91, x92, x93, x94, x95, x96, x97, x98, x99, x100, x101, x102, x103, x104, x105, x106, x107, x108, x109, x110], defers := ds } (Va.setCell ⟨d10, 68, none⟩ (.slice ra2 (rn + 1) rc2))) :
    (Code.region 26 #[{ dst := some 78, op := Op.fieldAddr 51 (Operand.tmp 10) 4, type := 0, pos := "ref.go:233", after := #[], guard := none }, { dst := some 79, op := Op.load 31 (Operand.tmp 78), type := 31, pos := "ref.go:233", after := #[{ on := 0, ground := Ground.data }], guard := none }, { dst := some 80, op := Op.move (Operand.tmp 4), type := 61, pos := "ref.go:233", after := #[], guard := none }, { dst := some 81, op := Op.call { callee := Callee.value (Operand.func 32), args := #[Operand.tmp 80], argTypes := #[61] }, type := 9, pos := "ref.go:233", after := #[{ on := 2, ground := Ground.data }], guard := none }, { dst := some 82, op := Op.buildSlice 31 1 #[(0, Operand.tmp 81)], type := 31, pos := "ref.go:233", after := #[{ on := 3, ground := Ground.data }], guard := none }, { dst := some 83, op := Op.call { callee := Callee.builtin Builtin.append, args := #[Operand.tmp 79, Operand.tmp 82], argTypes := #[31, 31] }, type := 31, pos := "ref.go:233", after := #[{ on := 1, ground := Ground.data }, { on := 4, ground := Ground.data }, { on := 3, ground := Ground.chain }], guard := none }, { dst := some 84, op := Op.fieldAddr 51 (Operand.tmp 10) 4, type := 0, pos := "ref.go:233", after := #[{ on := 0, ground := Ground.phase }, { on := 1, ground := Ground.phase }, { on := 2, ground := Ground.phase }, { on := 3, ground := Ground.phase }, { on := 4, ground := Ground.phase }, { on := 5, ground := Ground.phase }], guard := none }, { dst := none, op := Op.store 31 (Operand.tmp 84) (Operand.tmp 83), type := 0, pos := "ref.go:233", after := #[{ on := 6, ground := Ground.data }, { on := 5, ground := Ground.data }, { on := 5, ground := Ground.chain }, { on := 0, ground := Ground.phase }, { on := 1, ground := Ground.phase }, { on := 2, ground := Ground.phase }, { on := 3, ground := Ground.phase }, { on := 4, ground := Ground.phase }, { on := 5, ground := Ground.phase }], guard := none }] true).wp Try.prog Q { tmps := #[x0, x1, x2, x3, .pointer (some ⟨g, 0, none⟩), x5, x6, x7, x8, x9, .pointer (some ⟨d10, 0, none⟩), x11, x12, x13, x14, x15, x16, x17, x18, x19, x20, x21, x22, x23, x24, x25, x26, x27, x28, x29, x30, x31, x32, x33, x34, x35, x36, x37, x38, x39, x40, x41, x42, x43, x44, x45, x46, x47, x48, x49, x50, x51, x52, x53, x54, x55, x56, x57, x58, x59, x60, x61, x62, x63, x64, x65, x66, x67, x68, x69, x70, x71, x72, x73, x74, x75, x76, x77, x78, x79, x80, x81, x82, x83, x84, x85, x86, x87, x88, x89, x90, x91, x92, x93, x94, x95, x96, x97, x98, x99, x100, x101, x102, x103, x104, x105, x106, x107, x108, x109, x110], defers := ds } A := by
  refine Code.wp_mono (Q := fun x a' w' => match x with | .normal => Q .normal a' w' | _ => False) (by intro x a' w' h; cases x <;> first | exact h | exact h.elim) ?_
  refine wp_region_held (S := fun V => Fk [63, 9, 51] g A V) (by kernel_rfl) ?_
  have hS0 : Hid (Fk [63, 9, 51] g A A.drew) := Fk.of_below (below_drew0 A) (by have := HRk.out.lt; omega)
  change wpAnyH Try.prog .any _ _ (fun V => Fk [63, 9, 51] g A V) 8 (Array.replicate 8 false) _ A.drew
  obtain ⟨V0, hV0⟩ : ∃ V0, A.drew = V0 := ⟨_, rfl⟩
  rw [hV0]
  rw [hV0] at hS0
  have hR0 : Hid (Rg V0 g l ok) := by rw [← hV0]; exact HRk.out.below (below_drew0 A)
  have hB0 : Hid (Blk V0 d10 51 L) := by rw [← hV0]; exact HBk.out.drew
  have hO0 : Hid (V0.ownsRow lo 9 1 (.slice ra rn rc) rn C) := by rw [← hV0]; exact ownsRow_below HOw.out (below_drew0 A)
  have hF0 : Hid (Fk [63] g A V0) := by rw [← hV0]; exact Fk.of_below (below_drew0 A) (by have := HRk.out.lt; omega)
  clear hV0
  refine wpAnyH_take (i := 0) (oi := { dst := some 78, op := Op.fieldAddr 51 (Operand.tmp 10) 4, type := 0, pos := "ref.go:233", after := #[], guard := none }) (v := .pointer (some ⟨d10, 68, none⟩)) rfl (by kernel_rfl) (by kernel_rfl) (by kernel_rfl) (fun _ _ _ h => h.elim) (Or.inl ⟨by rfl, ?y1⟩) hS0.out ?_
  case y1 =>
    intro V hV
    go_simp
  simp only [Act.put, List.setIfInBounds_toArray, List.set_cons_zero, List.set_cons_succ]
  refine wpAnyH_take (i := 2) (oi := { dst := some 80, op := Op.move (Operand.tmp 4), type := 61, pos := "ref.go:233", after := #[], guard := none }) (v := .pointer (some ⟨g, 0, none⟩)) rfl (by kernel_rfl) (by kernel_rfl) (by kernel_rfl) (fun _ _ _ h => h.elim) (Or.inl ⟨by rfl, ?y2⟩) hS0.out ?_
  case y2 =>
    intro V hV
    go_simp
  simp only [Act.put, List.setIfInBounds_toArray, List.set_cons_zero, List.set_cons_succ]
  refine wpAnyH_ready (rs := [1, 3]) (by kernel_rfl) (by simp) (AllReadyH.cons (i := 1) (o := { dst := some 79, op := Op.load 31 (Operand.tmp 78), type := 31, pos := "ref.go:233", after := #[{ on := 0, ground := Ground.data }], guard := none }) rfl ?_ (AllReadyH.cons (i := 3) (o := { dst := some 81, op := Op.call { callee := Callee.value (Operand.func 32), args := #[Operand.tmp 80], argTypes := #[61] }, type := 9, pos := "ref.go:233", after := #[{ on := 2, ground := Ground.data }], guard := none }) rfl ?_ AllReadyH.nil))
  · intro K1 hK1
    rw [if_pos (by rfl)]
    have hc1 : V0.cell? ⟨d10, 68, none⟩ = some (.slice ra rn rc) := hB0.out.cell HLc.out
    go_wp2
    clear hc1
    refine hK1.out _ _ hS0.out ?_
    clear hK1
    intro _
    try simp only [Act.put, List.setIfInBounds_toArray, List.set_cons_zero, List.set_cons_succ]
    refine wpAnyH_ready (rs := [3]) (by kernel_rfl) (by simp) (AllReadyH.cons (i := 3) (o := { dst := some 81, op := Op.call { callee := Callee.value (Operand.func 32), args := #[Operand.tmp 80], argTypes := #[61] }, type := 9, pos := "ref.go:233", after := #[{ on := 2, ground := Ground.data }], guard := none }) rfl ?_ AllReadyH.nil)
    · intro K1 hK1
      rw [if_pos (by rfl)]
      have HC2 := text_q V0 g l ok hR0.out
      go_wp2_with fail
      refine HC2.mono ?_
      rintro e V2 ⟨s, l2, ok2, rfl, hz, hf, hr, hs⟩
      dsimp only
      clear HC2
      have hF2 : Hid (Fk [63] g A V2) := hF0.out.trans hf
      have hB2 : Hid (Blk V2 d10 51 L) := hB0.out.fk hf (by decide)
      have hO2 : Hid (V2.ownsRow lo 9 1 (.slice ra rn rc) rn C) := own_fk hO0.out hf (by decide)
      have hR2 : Hid (Rg V2 g l2 ok2) := hr
      have HE : Hid (Rs ok ok2 (tT 1000 l) s l2 ∧ s.size ≤ 1000) := ⟨hs, hz⟩
      clear hf hr hs hz
      have hS2 : Hid (Fk [63, 9, 51] g A V2) := hF2.out.more (by simp)
      refine hK1.out _ _ hS2.out ?_
      clear hK1
      intro _
      try simp only [Act.put, List.setIfInBounds_toArray, List.set_cons_zero, List.set_cons_succ]
      refine wpAnyH_ready (rs := [4]) (by kernel_rfl) (by simp) (AllReadyH.cons (i := 4) (o := { dst := some 82, op := Op.buildSlice 31 1 #[(0, Operand.tmp 81)], type := 31, pos := "ref.go:233", after := #[{ on := 3, ground := Ground.data }], guard := none }) rfl ?_ AllReadyH.nil)
      · intro K1 hK1
        obtain ⟨z3, hz3⟩ : ∃ z, V2.heap.size = z := ⟨_, rfl⟩
        obtain ⟨V3, hv3⟩ : ∃ V, V2.alloc (.cells ([Value.string s]).toArray 9) = V := ⟨_, rfl⟩
        refine step_bs (by rfl) 31 1 _ rfl (.slice (some ⟨z3, 0, none⟩) 1 1) V3 (by rw [← hv3, ← hz3]; simp only [List.map_toArray, List.map_cons, List.map_nil]; exact bs31 s V2) ?_
        have hb3 : Hid (Below V2.heap.size V2 V3 ∧ Blk V3 z3 9 [Value.string s]) := by rw [← hv3, ← hz3]; exact ⟨below_al _ _, Blk.new _ _ _⟩
        clear hv3 hz3
        have hF3 : Hid (Fk [63] g A V3) := hF2.out.then hb3.out.1 (by have := hR2.out.lt; omega)
        have hB3 : Hid (Blk V3 d10 51 L) := hB2.out.below hb3.out.1 hB2.out.lt
        have hO3 : Hid (V3.ownsRow lo 9 1 (.slice ra rn rc) rn C) := ownsRow_below hO2.out hb3.out.1
        have hS3 : Hid (Fk [63, 9, 51] g A V3) := hF3.out.more (by simp)
        refine hK1.out _ _ hS3.out ?_
        clear hK1
        intro _
        try simp only [Act.put, List.setIfInBounds_toArray, List.set_cons_zero, List.set_cons_succ]
        refine wpAnyH_ready (rs := [5]) (by kernel_rfl) (by simp) (AllReadyH.cons (i := 5) (o := { dst := some 83, op := Op.call { callee := Callee.builtin Builtin.append, args := #[Operand.tmp 79, Operand.tmp 82], argTypes := #[31, 31] }, type := 31, pos := "ref.go:233", after := #[{ on := 1, ground := Ground.data }, { on := 4, ground := Ground.data }, { on := 3, ground := Ground.chain }], guard := none }) rfl ?_ AllReadyH.nil)
        · intro K1 hK1
          obtain ⟨ra2, rc2, V4, hr4, ho4, hg4⟩ := app_one9 V3 lo (.slice ra rn rc) rn C hO3.out z3 [Value.string s] ⟨rfl, by intro u hu; simp only [List.mem_cons, List.not_mem_nil, or_false] at hu; subst hu; rfl⟩ hb3.out.2 (by have := HRn.out; omega) (by have := HLo.out; have := hS3.out.size; omega)
          refine step_apd (t := 31) (by rfl) (.tmp 79) (.tmp 82) rfl hr4 rfl rfl ?_
          have hG4 : Hid (V3.grownBy V4 (Value.slice ra rn rc).ownBlock ∧ V4.ownsRow lo 9 1 (.slice ra2 (rn + 1) rc2) (rn + 1) (C ++ [Value.string s])) := ⟨hg4, ho4⟩
          have hB4 : Hid (Blk V4 d10 51 L) := hB3.out.kept hg4 (own_ne hO3.out hB3.out (by decide))
          have hS4 : Hid (Fk [63, 9, 51] g A V4) := hS3.out.trans (fk_own hO3.out hg4 (by have := HLo.out; omega) (by have := hS3.out.size; have := HLo.out; omega) (by simp))
          clear hr4 ho4 hg4
          refine hK1.out _ _ hS4.out ?_
          clear hK1
          intro _
          try simp only [Act.put, List.setIfInBounds_toArray, List.set_cons_zero, List.set_cons_succ]
          refine wpAnyH_take (i := 6) (oi := { dst := some 84, op := Op.fieldAddr 51 (Operand.tmp 10) 4, type := 0, pos := "ref.go:233", after := #[{ on := 0, ground := Ground.phase }, { on := 1, ground := Ground.phase }, { on := 2, ground := Ground.phase }, { on := 3, ground := Ground.phase }, { on := 4, ground := Ground.phase }, { on := 5, ground := Ground.phase }], guard := none }) (v := .pointer (some ⟨d10, 68, none⟩)) rfl (by kernel_rfl) (by kernel_rfl) (by kernel_rfl) (fun _ _ _ h => h.elim) (Or.inl ⟨by rfl, ?y3⟩) hS4.out ?_
          case y3 =>
            intro V hV
            go_simp
          simp only [Act.put, List.setIfInBounds_toArray, List.set_cons_zero, List.set_cons_succ]
          refine wpAnyH_ready (rs := [7]) (by kernel_rfl) (by simp) (AllReadyH.cons (i := 7) (o := { dst := none, op := Op.store 31 (Operand.tmp 84) (Operand.tmp 83), type := 0, pos := "ref.go:233", after := #[{ on := 6, ground := Ground.data }, { on := 5, ground := Ground.data }, { on := 5, ground := Ground.chain }, { on := 0, ground := Ground.phase }, { on := 1, ground := Ground.phase }, { on := 2, ground := Ground.phase }, { on := 3, ground := Ground.phase }, { on := 4, ground := Ground.phase }, { on := 5, ground := Ground.phase }], guard := none }) rfl ?_ AllReadyH.nil)
          · intro K1 hK1
            refine step_stc (by rfl) 31 (.tmp 84) (.tmp 83) rfl infoS31 (b := d10) (i := 68) (v := .slice ra2 (rn + 1) rc2) rfl rfl rfl rfl (hB4.out.cell HLc.out) (hB4.out.free _) ?_
            obtain ⟨V5, hv5⟩ : ∃ V, V4.setCell ⟨d10, 68, none⟩ (.slice ra2 (rn + 1) rc2) = V := ⟨_, rfl⟩
            rw [hv5]
            have hS5 : Hid (Fk [63, 9, 51] g A V5) := by rw [← hv5]; exact hS4.out.trans (Fk.of_blk (grown_setCell _ _ _ _) hB4.out HLb.out (by simp))
            refine hK1.out _ _ hS5.out ?_
            clear hK1
            intro _
            try simp only [Act.put, List.setIfInBounds_toArray, List.set_cons_zero, List.set_cons_succ]
            refine wpAnyH_done (by kernel_rfl) ?_ _
            exact by rw [← hv5]; exact hQ V2 V3 V4 s l2 ok2 ra2 rc2 _ HE.out.1 HE.out.2 hF3.out hR2.out hb3.out.1 hG4.out.1 hG4.out.2 hB4.out
  · intro K1 hK1
    rw [if_pos (by rfl)]
    have HC1 := text_q V0 g l ok hR0.out
    go_wp2_with fail
    refine HC1.mono ?_
    rintro e V1 ⟨s, l2, ok2, rfl, hz, hf, hr, hs⟩
    dsimp only
    clear HC1
    have hF1 : Hid (Fk [63] g A V1) := hF0.out.trans hf
    have hB1 : Hid (Blk V1 d10 51 L) := hB0.out.fk hf (by decide)
    have hO1 : Hid (V1.ownsRow lo 9 1 (.slice ra rn rc) rn C) := own_fk hO0.out hf (by decide)
    have hR1 : Hid (Rg V1 g l2 ok2) := hr
    have HE : Hid (Rs ok ok2 (tT 1000 l) s l2 ∧ s.size ≤ 1000) := ⟨hs, hz⟩
    clear hf hr hs hz
    have hS1 : Hid (Fk [63, 9, 51] g A V1) := hF1.out.more (by simp)
    refine hK1.out _ _ hS1.out ?_
    clear hK1
    intro _
    try simp only [Act.put, List.setIfInBounds_toArray, List.set_cons_zero, List.set_cons_succ]
    refine wpAnyH_ready (rs := [1, 4]) (by kernel_rfl) (by simp) (AllReadyH.cons (i := 1) (o := { dst := some 79, op := Op.load 31 (Operand.tmp 78), type := 31, pos := "ref.go:233", after := #[{ on := 0, ground := Ground.data }], guard := none }) rfl ?_ (AllReadyH.cons (i := 4) (o := { dst := some 82, op := Op.buildSlice 31 1 #[(0, Operand.tmp 81)], type := 31, pos := "ref.go:233", after := #[{ on := 3, ground := Ground.data }], guard := none }) rfl ?_ AllReadyH.nil))
    · intro K1 hK1
      rw [if_pos (by rfl)]
      have hc2 : V1.cell? ⟨d10, 68, none⟩ = some (.slice ra rn rc) := hB1.out.cell HLc.out
      go_wp2
      clear hc2
      refine hK1.out _ _ hS1.out ?_
      clear hK1
      intro _
      try simp only [Act.put, List.setIfInBounds_toArray, List.set_cons_zero, List.set_cons_succ]
      refine wpAnyH_ready (rs := [4]) (by kernel_rfl) (by simp) (AllReadyH.cons (i := 4) (o := { dst := some 82, op := Op.buildSlice 31 1 #[(0, Operand.tmp 81)], type := 31, pos := "ref.go:233", after := #[{ on := 3, ground := Ground.data }], guard := none }) rfl ?_ AllReadyH.nil)
      · intro K1 hK1
        obtain ⟨z3, hz3⟩ : ∃ z, V1.heap.size = z := ⟨_, rfl⟩
        obtain ⟨V3, hv3⟩ : ∃ V, V1.alloc (.cells ([Value.string s]).toArray 9) = V := ⟨_, rfl⟩
        refine step_bs (by rfl) 31 1 _ rfl (.slice (some ⟨z3, 0, none⟩) 1 1) V3 (by rw [← hv3, ← hz3]; simp only [List.map_toArray, List.map_cons, List.map_nil]; exact bs31 s V1) ?_
        have hb3 : Hid (Below V1.heap.size V1 V3 ∧ Blk V3 z3 9 [Value.string s]) := by rw [← hv3, ← hz3]; exact ⟨below_al _ _, Blk.new _ _ _⟩
        clear hv3 hz3
        have hF3 : Hid (Fk [63] g A V3) := hF1.out.then hb3.out.1 (by have := hR1.out.lt; omega)
        have hB3 : Hid (Blk V3 d10 51 L) := hB1.out.below hb3.out.1 hB1.out.lt
        have hO3 : Hid (V3.ownsRow lo 9 1 (.slice ra rn rc) rn C) := ownsRow_below hO1.out hb3.out.1
        have hS3 : Hid (Fk [63, 9, 51] g A V3) := hF3.out.more (by simp)
        refine hK1.out _ _ hS3.out ?_
        clear hK1
        intro _
        try simp only [Act.put, List.setIfInBounds_toArray, List.set_cons_zero, List.set_cons_succ]
        refine wpAnyH_ready (rs := [5]) (by kernel_rfl) (by simp) (AllReadyH.cons (i := 5) (o := { dst := some 83, op := Op.call { callee := Callee.builtin Builtin.append, args := #[Operand.tmp 79, Operand.tmp 82], argTypes := #[31, 31] }, type := 31, pos := "ref.go:233", after := #[{ on := 1, ground := Ground.data }, { on := 4, ground := Ground.data }, { on := 3, ground := Ground.chain }], guard := none }) rfl ?_ AllReadyH.nil)
        · intro K1 hK1
          obtain ⟨ra2, rc2, V4, hr4, ho4, hg4⟩ := app_one9 V3 lo (.slice ra rn rc) rn C hO3.out z3 [Value.string s] ⟨rfl, by intro u hu; simp only [List.mem_cons, List.not_mem_nil, or_false] at hu; subst hu; rfl⟩ hb3.out.2 (by have := HRn.out; omega) (by have := HLo.out; have := hS3.out.size; omega)
          refine step_apd (t := 31) (by rfl) (.tmp 79) (.tmp 82) rfl hr4 rfl rfl ?_
          have hG4 : Hid (V3.grownBy V4 (Value.slice ra rn rc).ownBlock ∧ V4.ownsRow lo 9 1 (.slice ra2 (rn + 1) rc2) (rn + 1) (C ++ [Value.string s])) := ⟨hg4, ho4⟩
          have hB4 : Hid (Blk V4 d10 51 L) := hB3.out.kept hg4 (own_ne hO3.out hB3.out (by decide))
          have hS4 : Hid (Fk [63, 9, 51] g A V4) := hS3.out.trans (fk_own hO3.out hg4 (by have := HLo.out; omega) (by have := hS3.out.size; have := HLo.out; omega) (by simp))
          clear hr4 ho4 hg4
          refine hK1.out _ _ hS4.out ?_
          clear hK1
          intro _
          try simp only [Act.put, List.setIfInBounds_toArray, List.set_cons_zero, List.set_cons_succ]
          refine wpAnyH_take (i := 6) (oi := { dst := some 84, op := Op.fieldAddr 51 (Operand.tmp 10) 4, type := 0, pos := "ref.go:233", after := #[{ on := 0, ground := Ground.phase }, { on := 1, ground := Ground.phase }, { on := 2, ground := Ground.phase }, { on := 3, ground := Ground.phase }, { on := 4, ground := Ground.phase }, { on := 5, ground := Ground.phase }], guard := none }) (v := .pointer (some ⟨d10, 68, none⟩)) rfl (by kernel_rfl) (by kernel_rfl) (by kernel_rfl) (fun _ _ _ h => h.elim) (Or.inl ⟨by rfl, ?y4⟩) hS4.out ?_
          case y4 =>
            intro V hV
            go_simp
          simp only [Act.put, List.setIfInBounds_toArray, List.set_cons_zero, List.set_cons_succ]
          refine wpAnyH_ready (rs := [7]) (by kernel_rfl) (by simp) (AllReadyH.cons (i := 7) (o := { dst := none, op := Op.store 31 (Operand.tmp 84) (Operand.tmp 83), type := 0, pos := "ref.go:233", after := #[{ on := 6, ground := Ground.data }, { on := 5, ground := Ground.data }, { on := 5, ground := Ground.chain }, { on := 0, ground := Ground.phase }, { on := 1, ground := Ground.phase }, { on := 2, ground := Ground.phase }, { on := 3, ground := Ground.phase }, { on := 4, ground := Ground.phase }, { on := 5, ground := Ground.phase }], guard := none }) rfl ?_ AllReadyH.nil)
          · intro K1 hK1
            refine step_stc (by rfl) 31 (.tmp 84) (.tmp 83) rfl infoS31 (b := d10) (i := 68) (v := .slice ra2 (rn + 1) rc2) rfl rfl rfl rfl (hB4.out.cell HLc.out) (hB4.out.free _) ?_
            obtain ⟨V5, hv5⟩ : ∃ V, V4.setCell ⟨d10, 68, none⟩ (.slice ra2 (rn + 1) rc2) = V := ⟨_, rfl⟩
            rw [hv5]
            have hS5 : Hid (Fk [63, 9, 51] g A V5) := by rw [← hv5]; exact hS4.out.trans (Fk.of_blk (grown_setCell _ _ _ _) hB4.out HLb.out (by simp))
            refine hK1.out _ _ hS5.out ?_
            clear hK1
            intro _
            try simp only [Act.put, List.setIfInBounds_toArray, List.set_cons_zero, List.set_cons_succ]
            refine wpAnyH_done (by kernel_rfl) ?_ _
            exact by rw [← hv5]; exact hQ V1 V3 V4 s l2 ok2 ra2 rc2 _ HE.out.1 HE.out.2 hF3.out hR1.out hb3.out.1 hG4.out.1 hG4.out.2 hB4.out
    · intro K1 hK1
      obtain ⟨z2, hz2⟩ : ∃ z, V1.heap.size = z := ⟨_, rfl⟩
      obtain ⟨V2, hv2⟩ : ∃ V, V1.alloc (.cells ([Value.string s]).toArray 9) = V := ⟨_, rfl⟩
      refine step_bs (by rfl) 31 1 _ rfl (.slice (some ⟨z2, 0, none⟩) 1 1) V2 (by rw [← hv2, ← hz2]; simp only [List.map_toArray, List.map_cons, List.map_nil]; exact bs31 s V1) ?_
      have hb2 : Hid (Below V1.heap.size V1 V2 ∧ Blk V2 z2 9 [Value.string s]) := by rw [← hv2, ← hz2]; exact ⟨below_al _ _, Blk.new _ _ _⟩
      clear hv2 hz2
      have hF2 : Hid (Fk [63] g A V2) := hF1.out.then hb2.out.1 (by have := hR1.out.lt; omega)
      have hB2 : Hid (Blk V2 d10 51 L) := hB1.out.below hb2.out.1 hB1.out.lt
      have hO2 : Hid (V2.ownsRow lo 9 1 (.slice ra rn rc) rn C) := ownsRow_below hO1.out hb2.out.1
      have hS2 : Hid (Fk [63, 9, 51] g A V2) := hF2.out.more (by simp)
      refine hK1.out _ _ hS2.out ?_
      clear hK1
      intro _
      try simp only [Act.put, List.setIfInBounds_toArray, List.set_cons_zero, List.set_cons_succ]
      refine wpAnyH_ready (rs := [1]) (by kernel_rfl) (by simp) (AllReadyH.cons (i := 1) (o := { dst := some 79, op := Op.load 31 (Operand.tmp 78), type := 31, pos := "ref.go:233", after := #[{ on := 0, ground := Ground.data }], guard := none }) rfl ?_ AllReadyH.nil)
      · intro K1 hK1
        rw [if_pos (by rfl)]
        have hc3 : V2.cell? ⟨d10, 68, none⟩ = some (.slice ra rn rc) := hB2.out.cell HLc.out
        go_wp2
        clear hc3
        refine hK1.out _ _ hS2.out ?_
        clear hK1
        intro _
        try simp only [Act.put, List.setIfInBounds_toArray, List.set_cons_zero, List.set_cons_succ]
        refine wpAnyH_ready (rs := [5]) (by kernel_rfl) (by simp) (AllReadyH.cons (i := 5) (o := { dst := some 83, op := Op.call { callee := Callee.builtin Builtin.append, args := #[Operand.tmp 79, Operand.tmp 82], argTypes := #[31, 31] }, type := 31, pos := "ref.go:233", after := #[{ on := 1, ground := Ground.data }, { on := 4, ground := Ground.data }, { on := 3, ground := Ground.chain }], guard := none }) rfl ?_ AllReadyH.nil)
        · intro K1 hK1
          obtain ⟨ra2, rc2, V4, hr4, ho4, hg4⟩ := app_one9 V2 lo (.slice ra rn rc) rn C hO2.out z2 [Value.string s] ⟨rfl, by intro u hu; simp only [List.mem_cons, List.not_mem_nil, or_false] at hu; subst hu; rfl⟩ hb2.out.2 (by have := HRn.out; omega) (by have := HLo.out; have := hS2.out.size; omega)
          refine step_apd (t := 31) (by rfl) (.tmp 79) (.tmp 82) rfl hr4 rfl rfl ?_
          have hG4 : Hid (V2.grownBy V4 (Value.slice ra rn rc).ownBlock ∧ V4.ownsRow lo 9 1 (.slice ra2 (rn + 1) rc2) (rn + 1) (C ++ [Value.string s])) := ⟨hg4, ho4⟩
          have hB4 : Hid (Blk V4 d10 51 L) := hB2.out.kept hg4 (own_ne hO2.out hB2.out (by decide))
          have hS4 : Hid (Fk [63, 9, 51] g A V4) := hS2.out.trans (fk_own hO2.out hg4 (by have := HLo.out; omega) (by have := hS2.out.size; have := HLo.out; omega) (by simp))
          clear hr4 ho4 hg4
          refine hK1.out _ _ hS4.out ?_
          clear hK1
          intro _
          try simp only [Act.put, List.setIfInBounds_toArray, List.set_cons_zero, List.set_cons_succ]
          refine wpAnyH_take (i := 6) (oi := { dst := some 84, op := Op.fieldAddr 51 (Operand.tmp 10) 4, type := 0, pos := "ref.go:233", after := #[{ on := 0, ground := Ground.phase }, { on := 1, ground := Ground.phase }, { on := 2, ground := Ground.phase }, { on := 3, ground := Ground.phase }, { on := 4, ground := Ground.phase }, { on := 5, ground := Ground.phase }], guard := none }) (v := .pointer (some ⟨d10, 68, none⟩)) rfl (by kernel_rfl) (by kernel_rfl) (by kernel_rfl) (fun _ _ _ h => h.elim) (Or.inl ⟨by rfl, ?y5⟩) hS4.out ?_
          case y5 =>
            intro V hV
            go_simp
          simp only [Act.put, List.setIfInBounds_toArray, List.set_cons_zero, List.set_cons_succ]
          refine wpAnyH_ready (rs := [7]) (by kernel_rfl) (by simp) (AllReadyH.cons (i := 7) (o := { dst := none, op := Op.store 31 (Operand.tmp 84) (Operand.tmp 83), type := 0, pos := "ref.go:233", after := #[{ on := 6, ground := Ground.data }, { on := 5, ground := Ground.data }, { on := 5, ground := Ground.chain }, { on := 0, ground := Ground.phase }, { on := 1, ground := Ground.phase }, { on := 2, ground := Ground.phase }, { on := 3, ground := Ground.phase }, { on := 4, ground := Ground.phase }, { on := 5, ground := Ground.phase }], guard := none }) rfl ?_ AllReadyH.nil)
          · intro K1 hK1
            refine step_stc (by rfl) 31 (.tmp 84) (.tmp 83) rfl infoS31 (b := d10) (i := 68) (v := .slice ra2 (rn + 1) rc2) rfl rfl rfl rfl (hB4.out.cell HLc.out) (hB4.out.free _) ?_
            obtain ⟨V5, hv5⟩ : ∃ V, V4.setCell ⟨d10, 68, none⟩ (.slice ra2 (rn + 1) rc2) = V := ⟨_, rfl⟩
            rw [hv5]
            have hS5 : Hid (Fk [63, 9, 51] g A V5) := by rw [← hv5]; exact hS4.out.trans (Fk.of_blk (grown_setCell _ _ _ _) hB4.out HLb.out (by simp))
            refine hK1.out _ _ hS5.out ?_
            clear hK1
            intro _
            try simp only [Act.put, List.setIfInBounds_toArray, List.set_cons_zero, List.set_cons_succ]
            refine wpAnyH_done (by kernel_rfl) ?_ _
            exact by rw [← hv5]; exact hQ V1 V2 V4 s l2 ok2 ra2 rc2 _ HE.out.1 HE.out.2 hF2.out hR1.out hb2.out.1 hG4.out.1 hG4.out.2 hB4.out
end Go.Proofs.Ytgdecjacbkicmaa.Oct

/- Layer 10 (patch): Decode of the reference. -/
namespace Go.Proofs.Ytgdecjacbkicmaa.Oct
open Go.RowKit
set_option maxRecDepth 100000
set_option linter.unusedSimpArgs false
set_option linter.unusedVariables false

theorem rep_succ {α β : Type} (f : List UInt8 → Option (α × List UInt8)) (i : Nat) (l : List UInt8) (k : List α × List UInt8 → Option β) : (rep f (i + 1) l).bind k = (f l).bind fun x => (rep f i x.2).bind fun y => k (x.1 :: y.1, y.2) := by
  conv => lhs; unfold rep
  cases f l with
  | none => rfl
  | some x =>
    simp only [Option.bind_some]
    cases rep f i x.2 with
    | none => rfl
    | some y => rfl
def hT (m : Nat) (l : List UInt8) : Option (Hs × List UInt8) := if m ≤ l.length then some (l.take m, l.drop m) else none
theorem hT_succ {β : Type} (m : Nat) (l : List UInt8) (k : Hs × List UInt8 → Option β) : (hT (m + 1) l).bind k = (mM l).bind fun x => (hT m x.2).bind fun y => k (x.1 :: y.1, y.2) := by
  unfold hT
  cases l with
  | nil => rfl
  | cons c r =>
    show _ = (if m ≤ r.length then some (r.take m, r.drop m) else none).bind _
    by_cases h : m ≤ r.length
    · rw [if_pos h, if_pos (by simpa using h)]
      rfl
    · rw [if_neg h, if_neg (by simpa using h)]
      rfl
theorem hT_zero (l : List UInt8) : hT 0 l = some ([], l) := rfl
theorem hH_eq (l : List UInt8) : hH l = hT 32 l := rfl
theorem oO_eq (P T : Nat) (D : List Hs) (l : List UInt8) : oO P T D l = (mM l).bind fun k => (tT P k.2).bind fun s => (vV D s.2).bind fun u => if k.1 = 1 then (vV D u.2).bind fun d => (nN 64 d.2).bind fun m => (rep (tT T) m.1 m.2).bind fun t => some (mkO k.1 s.1 u.1 d.1 t.1, t.2) else some (mkO k.1 s.1 u.1 vTop [], u.2) := by
  cases l <;> rfl
def K1 (a : BA) (t : Nat) (s : BA) (D : List Hs) (r : List UInt8) : Option (PV × List UInt8) := (nN 16 r).bind fun m => (rep (oO 1000 1000 D) m.1 m.2).bind fun o => some (mkP a t s D o.1, o.2)
def K0 (r : List UInt8) : Option (PV × List UInt8) := (tT 1000 r).bind fun a => (nN 1099511627776 a.2).bind fun t => (tT 1000 t.2).bind fun s => (nN 16 s.2).bind fun n => (rep hH n.1 n.2).bind fun d => K1 a.1 t.1 s.1 d.1 d.2
theorem pP_eq (l : List UInt8) : pP 1000 1000 1000 l = (mM l).bind fun c => if c.1 = 80 then K0 c.2 else none := by
  cases l <;> rfl
theorem hsF_acc {acc : Hs} {k : Nat} (h : acc.length = k) (c : UInt8) : hsF acc k = hsF (acc ++ [c]) k := by
  unfold hsF
  rw [List.take_append_of_le_length (by omega)]
theorem hsF_full {acc : Hs} (h : acc.length = 32) : hsF acc 32 = acc := by
  unfold hsF
  rw [List.take_of_length_le (by omega)]
  simp
def DR (w : World) (l : List UInt8) (e : Ending) (w' : World) : Prop := Below w.heap.size w w' ∧ ((e = .returned (.tuple #[.agg p00.cells.toArray, iv 103]) ∧ ∀ p, pP 1000 1000 1000 l = some (p, []) → chk p ≠ 0) ∨ ∃ p q, pP 1000 1000 1000 l = some (p, []) ∧ chk p = 0 ∧ e = .returned (.tuple #[.agg q.cells.toArray, iv 0]) ∧ PT w' q ∧ Tw p q)
theorem build63 (a : Option Addr) (n c : Nat) : Try.prog.built 63 [(0, .slice a n c), (1, .bool true)] = some #[.slice a n c, .bool true] := by kernel_rfl
theorem setln {w : World} {b : Nat} {L : List Value} {i : Nat} {v : Value} {W : World} (h : Blk w b 25 L) (e : w.setCell ⟨b, i, none⟩ v = W) : Blk W b 25 (L.set i v) := by subst e; exact h.set i v
/-- where the reference's Decode stands, behind its first number -/
structure RI (w : World) (g d2 d5 lo : Nat) (l : List UInt8) (ok : Bool) (q : PV) (V : World) : Prop where
  bel : Below w.heap.size w V
  rg : Rg V g l ok
  k2 : Blk V d2 25 p00.cells
  k5 : Blk V d5 25 q.cells
  dep : V.ownsRow lo 47 32 (.slice q.da q.dn q.dc) q.dn (hsC q.D)
  dl : q.D.length = q.dn
  d32 : ∀ h ∈ q.D, h.length = 32
  dn16 : q.dn ≤ 16
  ops : V.ownsRow lo 51 69 (.slice q.oa q.on q.oc) q.on (cellsO q.O)
  ol : q.O.length = q.on
  st : ∀ o ∈ q.O, o.ok ∧ StG V o
  on16 : q.on ≤ 16
  gd : w.heap.size ≤ d2 ∧ d2 < g ∧ g < d5 ∧ d5 < lo ∧ lo ≤ V.heap.size
theorem RI.fk {S : List TypeId} {w : World} {g d2 d5 lo : Nat} {l l' : List UInt8} {ok ok' : Bool} {q : PV} {V V' : World} (h : RI w g d2 d5 lo l ok q V) (k : Fk S g V V') (hs : 25 ∉ S ∧ 47 ∉ S ∧ 51 ∉ S ∧ 9 ∉ S) (hr : Rg V' g l' ok') : RI w g d2 d5 lo l' ok' q V' :=
  ⟨h.bel.trans (k.below.mono (by have := h.gd; omega)), hr, h.k2.fk k hs.1, h.k5.fk k hs.1, own_fk h.dep k hs.2.1, h.dl, h.d32, h.dn16, own_fk h.ops k hs.2.2.1, h.ol, fun o ho => ⟨(h.st o ho).1, (h.st o ho).2.fk k hs.2.2.2⟩, h.on16, by have := h.gd; have := k.size; omega⟩
theorem RI.below {w : World} {g d2 d5 lo : Nat} {l : List UInt8} {ok : Bool} {q : PV} {V V' : World} (h : RI w g d2 d5 lo l ok q V) (hb : Below V.heap.size V V') : RI w g d2 d5 lo l ok q V' :=
  h.fk (Fk.of_below (S := []) hb (by have := h.gd; omega)) (by simp) (h.rg.below hb)
/-- behind a change of a block that is new -/
theorem RI.far {w : World} {g d2 d5 lo : Nat} {l : List UInt8} {ok : Bool} {q : PV} {V V1 V2 : World} (h : RI w g d2 d5 lo l ok q V) (hb : Below V.heap.size V V1) {d : Nat} (hg : V1.grownBy V2 (some d)) (hd : V.heap.size ≤ d) : RI w g d2 d5 lo l ok q V2 :=
  h.below (below_gr hb hg hd)
theorem PT.ri {w : World} {g d2 d5 lo : Nat} {l : List UInt8} {ok : Bool} {q : PV} {V : World} (h : RI w g d2 d5 lo l ok q V) (h1 : q.au.size ≤ 1000) (h2 : q.nt.size ≤ 1000) : PT V q :=
  ⟨own_lo h.dep (Nat.zero_le _), h.dl, h.d32, own_lo h.ops (Nat.zero_le _), h.ol, h.st, by have := h.dn16; omega, by have := h.on16; omega, h1, h2⟩
/-- a hash more -/
theorem RI.hash {w : World} {g d2 d5 lo : Nat} {l : List UInt8} {ok : Bool} {q : PV} {V Vm Va : World} {x : Hs} {ra : Option Addr} {rc : Nat} (h : RI w g d2 d5 lo l ok q V) (hb : Below V.heap.size V Vm) (hg : Vm.grownBy Va (Value.slice q.da q.dn q.dc).ownBlock) (ho : Va.ownsRow lo 47 32 (.slice ra (q.dn + 1) rc) (q.dn + 1) (hsC q.D ++ U x)) (hx : x.length = 32) (hn : q.dn < 16) :
    RI w g d2 d5 lo l ok { q with da := ra, dn := q.dn + 1, dc := rc, D := q.D ++ [x] } (Va.setCell ⟨d5, 3, none⟩ (.slice ra (q.dn + 1) rc)) ∧ Blk Va d5 25 q.cells := by
  have h0 := h.below hb
  have hgd := h0.gd
  have hfa : Fk [47] g Vm Va := fk_own h0.dep hg (by omega) (by omega) (by simp)
  have k5 := h0.k5.fk hfa (by decide)
  have hgs := grown_setCell Va d5 3 (.slice ra (q.dn + 1) rc)
  have hfs : Fk [25] g Va (Va.setCell ⟨d5, 3, none⟩ (.slice ra (q.dn + 1) rc)) := Fk.of_blk hgs k5 (by omega) (by simp)
  have e : hsC (q.D ++ [x]) = hsC q.D ++ U x := by unfold hsC; simp
  refine ⟨⟨h0.bel.trans ((hfa.below.mono (by omega)).trans (hfs.below.mono (by omega))), (h0.rg.fk hfa (by decide)).fk hfs (by decide), (h0.k2.fk hfa (by decide)).kept hgs (by simp; omega), k5.set 3 _, ?_, by show (q.D ++ [x]).length = _; rw [List.length_append, h.dl]; rfl, ?_, hn, own_fk (own_fk h0.ops hfa (by decide)) hfs (by decide), h.ol, fun o ho => ⟨(h0.st o ho).1, ((h0.st o ho).2.fk hfa (by decide)).fk hfs (by decide)⟩, h.on16, by have := hfa.size; have := hfs.size; omega⟩, k5⟩
  · show World.ownsRow _ _ _ _ _ _ (hsC (q.D ++ [x]))
    rw [e]
    exact own_fk ho hfs (by decide)
  · intro y hy
    rcases List.mem_append.1 hy with h1 | h1
    · exact h.d32 y h1
    · rw [List.mem_singleton.1 h1]; exact hx
/-- an operation more -/
theorem RI.op {w : World} {g d2 d5 lo : Nat} {l : List UInt8} {ok : Bool} {q : PV} {V Vm Va : World} {x : OpV} {ra : Option Addr} {rc : Nat} (h : RI w g d2 d5 lo l ok q V) (hb : Below V.heap.size V Vm) (hg : Vm.grownBy Va (Value.slice q.oa q.on q.oc).ownBlock) (ho : Va.ownsRow lo 51 69 (.slice ra (q.on + 1) rc) (q.on + 1) (cellsO q.O ++ x.cells)) (hx : x.ok ∧ StG V x) (hn : q.on < 16) :
    RI w g d2 d5 lo l ok { q with oa := ra, on := q.on + 1, oc := rc, O := q.O ++ [x] } (Va.setCell ⟨d5, 4, none⟩ (.slice ra (q.on + 1) rc)) ∧ Blk Va d5 25 q.cells := by
  have h0 := h.below hb
  have hgd := h0.gd
  have hfa : Fk [51] g Vm Va := fk_own h0.ops hg (by omega) (by omega) (by simp)
  have k5 := h0.k5.fk hfa (by decide)
  have hgs := grown_setCell Va d5 4 (.slice ra (q.on + 1) rc)
  have hfs : Fk [25] g Va (Va.setCell ⟨d5, 4, none⟩ (.slice ra (q.on + 1) rc)) := Fk.of_blk hgs k5 (by omega) (by simp)
  have e : cellsO (q.O ++ [x]) = cellsO q.O ++ x.cells := by unfold cellsO; simp
  refine ⟨⟨h0.bel.trans ((hfa.below.mono (by omega)).trans (hfs.below.mono (by omega))), (h0.rg.fk hfa (by decide)).fk hfs (by decide), (h0.k2.fk hfa (by decide)).kept hgs (by simp; omega), k5.set 4 _, own_fk (own_fk h0.dep hfa (by decide)) hfs (by decide), h.dl, h.d32, h.dn16, ?_, by show (q.O ++ [x]).length = _; rw [List.length_append, h.ol]; rfl, ?_, hn, by have := hfa.size; have := hfs.size; omega⟩, k5⟩
  · show World.ownsRow _ _ _ _ _ _ (cellsO (q.O ++ [x]))
    rw [e]
    exact own_fk ho hfs (by decide)
  · intro y hy
    rcases List.mem_append.1 hy with h1 | h1
    · exact ⟨(h0.st y h1).1, ((h0.st y h1).2.fk hfa (by decide)).fk hfs (by decide)⟩
    · rw [List.mem_singleton.1 h1]; exact ⟨hx.1, ((hx.2.below hb).fk hfa (by decide)).fk hfs (by decide)⟩
end Go.Proofs.Ytgdecjacbkicmaa.Oct

/- Layer 10 (patch): Decode of the reference, whole. -/
namespace Go.Proofs.Ytgdecjacbkicmaa.Oct
open Go.RowKit
set_option maxRecDepth 100000
set_option linter.unusedSimpArgs false
set_option linter.unusedVariables false

def opK {β : Type} (D : List Hs) (G : OpV × List UInt8 → Option β) (c : UInt8) (s : BA) (v : Vx) (r : List UInt8) : Option β := if c = 1 then (vV D r).bind fun d => (nN 64 d.2).bind fun m => (rep (tT 1000) m.1 m.2).bind fun t => G (mkO c s v d.1 t.1, t.2) else G (mkO c s v vTop [], r)
theorem oO_bind {β : Type} (D : List Hs) (G : OpV × List UInt8 → Option β) (l : List UInt8) : (oO 1000 1000 D l).bind G = (mM l).bind fun k => (tT 1000 k.2).bind fun s => (vV D s.2).bind fun u => opK D G k.1 s.1 u.1 u.2 := by
  rw [oO_eq]
  cases mM l with
  | none => rfl
  | some k =>
    simp only [Option.bind_some]
    cases tT 1000 k.2 with
    | none => rfl
    | some s =>
      simp only [Option.bind_some]
      cases vV D s.2 with
      | none => rfl
      | some u =>
        simp only [Option.bind_some]
        unfold opK
        by_cases h : k.1 = 1
        · rw [if_pos h, if_pos h]
          cases vV D u.2 with
          | none => rfl
          | some d =>
            simp only [Option.bind_some]
            cases nN 64 d.2 with
            | none => rfl
            | some m =>
              simp only [Option.bind_some]
              cases rep (tT 1000) m.1 m.2 with
              | none => rfl
              | some t => rfl
        · rw [if_neg h, if_neg h]
          rfl
set_option maxHeartbeats 16000000 in
theorem rdecode17 (a : Option Addr) (n c : Nat) (l : List UInt8) (w : World) (hin : In w a n c l) : Calls Try.prog 17 #[.slice a n c] w (DR w l) := by
  have hZ := zero25
  have HZ51 : Hid (∀ W, (zeroValue 51).run Try.prog W = .ok (.agg o00.cells.toArray) W) := fun W => by kernel_rfl
  obtain ⟨T, hT⟩ : ∃ T, pP 1000 1000 1000 l = T := ⟨_, rfl⟩
  have HT : Hid (pP 1000 1000 1000 l = T) := hT
  clear hT
  obtain ⟨d2, hd2⟩ : ∃ d, w.heap.size = d := ⟨_, rfl⟩
  obtain ⟨Wa, hWa⟩ : ∃ W, w.alloc (.cells p00.cells.toArray 25) = W := ⟨_, rfl⟩
  obtain ⟨g, hg⟩ : ∃ d, Wa.heap.size = d := ⟨_, rfl⟩
  obtain ⟨Wb, hWb⟩ : ∃ W, Wa.alloc (.cells #[.slice a n c, .bool true] 63) = W := ⟨_, rfl⟩
  obtain ⟨d5, hd5⟩ : ∃ d, Wb.heap.size = d := ⟨_, rfl⟩
  obtain ⟨W, hW⟩ : ∃ W, Wb.alloc (.cells p00.cells.toArray 25) = W := ⟨_, rfl⟩
  have b1 : Below w.heap.size w Wa := by rw [← hWa]; exact below_al _ _
  have b2 : Below Wa.heap.size Wa Wb := by rw [← hWb]; exact below_al _ _
  have b3 : Below Wb.heap.size Wb W := by rw [← hW]; exact below_al _ _
  have k2 : Blk Wa d2 25 p00.cells := by rw [← hWa, ← hd2]; exact Blk.new w _ _
  have kg : Blk Wb g 63 [.slice a n c, .bool true] := by rw [← hWb, ← hg]; exact Blk.new Wa _ _
  have k5 : Blk W d5 25 p00.cells := by rw [← hW, ← hd5]; exact Blk.new Wb _ _
  obtain ⟨lo, hlo⟩ : ∃ d, W.heap.size = d := ⟨_, rfl⟩
  have hdg : d2 < g ∧ g < d5 ∧ d5 < lo := ⟨by have := k2.lt; omega, by have := kg.lt; omega, by have := k5.lt; omega⟩
  have hrg : Rg W g l true := by
    refine ⟨a, n, c, kg.below b3 kg.lt, ((hin.below b1).below b2).below b3, fun hp x hx => ?_⟩
    obtain ⟨b, off, e1, e2, _⟩ := hin.2.2.2.2 hp
    rw [e1] at hx
    cases hx
    show b < g
    omega
  have H0 : Hid (RI w g d2 d5 lo l true p00 W) := ⟨below_tr b1 (below_tr b2 b3), hrg, (k2.below b2 k2.lt).below b3 (by have := b2.size; have := k2.lt; omega), k5, ⟨rfl, .inl ⟨rfl, rfl⟩⟩, rfl, (by intro h hh; cases hh), by show 0 ≤ 16; omega, ⟨rfl, .inl ⟨rfl, rfl⟩⟩, rfl, (by intro h hh; cases hh), by show 0 ≤ 16; omega, ⟨by omega, hdg.1, hdg.2.1, hdg.2.2, by omega⟩⟩
  have hb63 := build63 a n c
  clear hin b1 b2 b3 k2 kg k5 hlo hdg hrg
  go_enter Try.func17, Try.ntmps17
  go_wp2_with (with_reducible change wpList _ _ _ ({ dst := some 13, op := _, type := _, pos := _, after := _, guard := _ } :: _) _ _; refine Hid.out ?_)
  show wpList _ _ _ _ _ _
  refine wpList_built rfl 63 _ rfl #[.slice a n c, .bool true] (by rw [← hb63]; first | (simp; done) | (simp; rfl)) ?_
  clear hb63
  go_wp2_with fail
  refine (one_q W g l true H0.out.rg).mono ?_
  rintro e W1 ⟨b, l1, ok1, rfl, hf, hr, hs⟩
  have hri := H0.out.fk hf (by decide) hr
  by_cases hb80 : ¬ b = 80
  · have hne : ((b.toNat : Nat) : Int) ≠ 80 := fun e => hb80 (UInt8.toNat_inj.1 (by show b.toNat = 80; omega))
    have ebn : (((b.toNat : Nat) : Int) != 80) = true := by simpa using hne
    have HN : Hid (∀ p, pP 1000 1000 1000 l = some (p, []) → chk p ≠ 0) := fun p hp => by
      exfalso
      rw [pP_eq] at hp
      rcases hs with ⟨_, h2⟩ | ⟨_, h2⟩
      · rw [h2] at hp
        simp only [Option.bind_some] at hp
        rw [if_neg hb80] at hp
        cases hp
      · rw [h2] at hp
        cases hp
    have HB : Hid (Blk W1 d2 25 p00.cells ∧ Below w.heap.size w W1 ∧ w.heap.size ≤ d2) := ⟨hri.k2, hri.bel, hri.gd.1⟩
    obtain ⟨m, hm⟩ : ∃ m, b.toNat = m := ⟨_, rfl⟩
    rw [hm] at ebn ⊢
    clear hf hr hs hri hb80 hne hm hW hWa hWb hd2 hg hd5 H0
    go_wp2_with (with_reducible change wpList _ _ _ ({ dst := some 18, op := _, type := _, pos := _, after := _, guard := _ } :: _) _ _; refine Hid.out ?_)
    show wpList _ _ _ _ _ _
    refine wpList_built rfl 25 _ rfl p00.cells.toArray (by rw [← built25b]; first | (simp; done) | (simp; rfl)) ?_
    go_wp2_with (with_reducible change wpList _ _ _ ({ dst := none, op := Op.store 25 _ _, type := _, pos := _, after := _, guard := _ } :: _) _ _; refine Hid.out ?_)
    show wpList _ _ _ _ _ _
    refine wpList_store_blk rfl 25 (.tmp 2) (.tmp 18) rfl d2 0 25 p00.cells p00.cells rfl rfl HB.out.1 (Nat.le_refl _) (info25 p00) (PV.one _) ?_
    intro W9 hx hgs
    have HF : Hid (Blk W9 d2 25 p00.cells ∧ DR w l (.returned (.tuple #[.agg p00.cells.toArray, iv 103])) W9) := ⟨blk_all hx.out rfl, below_gr HB.out.2.1 hgs.out HB.out.2.2, .inl ⟨rfl, HN.out⟩⟩
    clear hx hgs
    go_wp2
    exact ret_cu rfl rfl rfl HF.out.1 Try.underlying25 rfl (info25 p00) HF.out.2
  have hb81 : b = 80 := Classical.not_not.1 hb80
  clear hb80
  subst hb81
  have e80 : (((80 : UInt8).toNat : Nat) : Int) = 80 := rfl
  rw [e80]
  have H1 : Hid (RI w g d2 d5 lo l1 ok1 p00 W1 ∧ Sg T ok1 (K0 l1)) := by
    refine ⟨hri, ?_⟩
    have h0 : Sg T true ((mM l).bind fun c => if c.1 = 80 then K0 c.2 else none) := .inl ⟨rfl, by rw [← HT.out, pP_eq]⟩
    exact (h0.step hs).cong (if_pos rfl)
  clear hf hr hs hri hW hWa hWb hd2 hg hd5 H0 e80
  go_wp2_with fail
  refine (text_q W1 g l1 ok1 H1.out.1.rg).mono ?_
  rintro e W2 ⟨s, l2, ok2, rfl, hz, hf, hr, hs⟩
  have hri := H1.out.1.fk hf (by decide) hr
  have c0 : W2.cell? ⟨d5, 0, none⟩ = some (.string e0) := hri.k5.cell rfl
  have f0 := hri.k5.free 0
  obtain ⟨W3, hW3⟩ : ∃ W, W2.setCell ⟨d5, 0, none⟩ (.string s) = W := ⟨_, rfl⟩
  have hgs : W2.grownBy W3 (some d5) := by rw [← hW3]; exact grown_setCell _ _ _ _
  have hfs : Fk [25] g W2 W3 := Fk.of_blk hgs hri.k5 (by have := hri.gd; omega) (by simp)
  have H3 : Hid (RI w g d2 d5 lo l2 ok2 { p00 with au := s } W3 ∧ Sg T ok2 ((nN 1099511627776 l2).bind fun t => (tT 1000 t.2).bind fun s2 => (nN 16 s2.2).bind fun n => (rep hH n.1 n.2).bind fun d => K1 s t.1 s2.1 d.1 d.2) ∧ s.size ≤ 1000) := by
    refine ⟨⟨hri.bel.trans (hfs.below.mono (by have := hri.gd; omega)), hri.rg.fk hfs (by decide), hri.k2.kept hgs (by have := hri.gd; simp; omega), setln hri.k5 hW3, own_fk hri.dep hfs (by decide), hri.dl, hri.d32, hri.dn16, own_fk hri.ops hfs (by decide), hri.ol, (by intro h hh; cases hh), hri.on16, by have := hri.gd; have := hfs.size; omega⟩, ?_, hz⟩
    exact (show Sg T ok1 ((tT 1000 l1).bind _) from H1.out.2).step hs
  clear hz hf hr hs hri hgs hfs H1
  go_wp2_with fail
  refine (num_q W3 g l2 ok2 H3.out.1.rg 1099511627776 (by omega)).mono ?_
  rintro e W4 ⟨t, l3, ok3, rfl, ht, hf, hr, hs⟩
  have hri := H3.out.1.fk hf (by decide) hr
  clear c0 f0 hW3
  have c0 : W4.cell? ⟨d5, 1, none⟩ = some (iv 0) := hri.k5.cell rfl
  have f0 := hri.k5.free 1
  obtain ⟨W5, hW5⟩ : ∃ W, W4.setCell ⟨d5, 1, none⟩ (iv (t : Int)) = W := ⟨_, rfl⟩
  have hgs : W4.grownBy W5 (some d5) := by rw [← hW5]; exact grown_setCell _ _ _ _
  have hfs : Fk [25] g W4 W5 := Fk.of_blk hgs hri.k5 (by have := hri.gd; omega) (by simp)
  have H5 : Hid (RI w g d2 d5 lo l3 ok3 { p00 with au := s, tm := (t : Int) } W5 ∧ Sg T ok3 ((tT 1000 l3).bind fun s2 => (nN 16 s2.2).bind fun n => (rep hH n.1 n.2).bind fun d => K1 s t s2.1 d.1 d.2) ∧ s.size ≤ 1000) := by
    refine ⟨⟨hri.bel.trans (hfs.below.mono (by have := hri.gd; omega)), hri.rg.fk hfs (by decide), hri.k2.kept hgs (by have := hri.gd; simp; omega), setln hri.k5 hW5, own_fk hri.dep hfs (by decide), hri.dl, hri.d32, hri.dn16, own_fk hri.ops hfs (by decide), hri.ol, (by intro h hh; cases hh), hri.on16, by have := hri.gd; have := hfs.size; omega⟩, ?_, H3.out.2.2⟩
    exact H3.out.2.1.step hs
  clear ht hf hr hs hri hgs hfs H3
  go_wp2_with fail
  refine (text_q W5 g l3 ok3 H5.out.1.rg).mono ?_
  rintro e W6 ⟨s2, l4, ok4, rfl, hz, hf, hr, hs⟩
  have hri := H5.out.1.fk hf (by decide) hr
  clear c0 f0 hW5
  have c0 : W6.cell? ⟨d5, 2, none⟩ = some (.string e0) := hri.k5.cell rfl
  have f0 := hri.k5.free 2
  obtain ⟨W7, hW7⟩ : ∃ W, W6.setCell ⟨d5, 2, none⟩ (.string s2) = W := ⟨_, rfl⟩
  have hgs : W6.grownBy W7 (some d5) := by rw [← hW7]; exact grown_setCell _ _ _ _
  have hfs : Fk [25] g W6 W7 := Fk.of_blk hgs hri.k5 (by have := hri.gd; omega) (by simp)
  obtain ⟨q1, hq1⟩ : ∃ q1 : PV, { p00 with au := s, tm := (t : Int), nt := s2 } = q1 := ⟨_, rfl⟩
  have H7 : Hid (RI w g d2 d5 lo l4 ok4 q1 W7 ∧ Sg T ok4 ((nN 16 l4).bind fun n => (rep hH n.1 n.2).bind fun d => K1 s t s2 d.1 d.2) ∧ s.size ≤ 1000 ∧ s2.size ≤ 1000 ∧ { p00 with au := s, tm := (t : Int), nt := s2 } = q1) := by
    refine ⟨?_, H5.out.2.1.step hs, H5.out.2.2, hz, hq1⟩
    rw [← hq1]
    exact ⟨hri.bel.trans (hfs.below.mono (by have := hri.gd; omega)), hri.rg.fk hfs (by decide), hri.k2.kept hgs (by have := hri.gd; simp; omega), setln hri.k5 hW7, own_fk hri.dep hfs (by decide), hri.dl, hri.d32, hri.dn16, own_fk hri.ops hfs (by decide), hri.ol, (by intro h hh; cases hh), hri.on16, by have := hri.gd; have := hfs.size; omega⟩
  clear hz hf hr hs hri hgs hfs H5 hq1
  go_wp2_with fail
  refine (num_q W7 g l4 ok4 H7.out.1.rg 16 (by omega)).mono ?_
  rintro e W8 ⟨n0, l5, ok5, rfl, hn16, hf, hr, hs⟩
  have H8 : Hid (RI w g d2 d5 lo l5 ok5 q1 W8 ∧ Sg T ok5 ((rep hH n0 l5).bind fun d => K1 s t s2 d.1 d.2) ∧ n0 ≤ 16) := ⟨H7.out.1.fk hf (by decide) hr, H7.out.2.1.step hs, hn16⟩
  have HS : Hid (s.size ≤ 1000 ∧ s2.size ≤ 1000 ∧ { p00 with au := s, tm := (t : Int), nt := s2 } = q1) := H7.out.2.2
  have qn : (n0 : Int) ≤ 16 := by omega
  clear hn16 hf hr hs H7 c0 f0 hW7
  go_wp2
  go_loopw [6] (fun x wr => ∃ i : Nat, x = iv (i : Int) ∧ (i : Int) ≤ 16 ∧ Hid (∃ l6 ok6 da dn dc D, RI w g d2 d5 lo l6 ok6 { q1 with da := da, dn := dn, dc := dc, D := D } wr ∧ Sg T ok6 ((rep hH i l6).bind fun y => K1 s t s2 (D ++ y.1) y.2) ∧ dn + i ≤ 16)) (fun x _ => (intOf x).toNat)
  case atStart =>
    refine ⟨n0, rfl, by omega, l5, ok5, none, 0, 0, [], ?_, ?_, by have := H8.out.2.2; omega⟩
    · have e : ({ q1 with da := none, dn := 0, dc := 0, D := [] } : PV) = q1 := by rw [← HS.out.2.2]; rfl
      rw [e]
      exact H8.out.1
    · exact H8.out.2.1.cong (by simp)
  case round =>
    obtain ⟨V, hV⟩ : ∃ V, V = wr := ⟨_, rfl⟩
    subst hV
    obtain ⟨i, rfl, qi, HI0⟩ := hrel
    obtain ⟨l6, ok6, da, dn, dc, D, h1, h2, h3⟩ := HI0.out
    have HI : Hid (RI w g d2 d5 lo l6 ok6 { q1 with da := da, dn := dn, dc := dc, D := D } V ∧ Sg T ok6 ((rep hH i l6).bind fun y => K1 s t s2 (D ++ y.1) y.2) ∧ dn + i ≤ 16) := ⟨h1, h2, h3⟩
    clear HI0 h1 h2 h3
    by_cases hi : 0 < i
    · have q1' : (0 : Int) < (i : Int) := by omega
      obtain ⟨j, hj⟩ : ∃ j : Nat, i = j + 1 := ⟨i - 1, by omega⟩
      have hj2 : (i : Int) - 1 = (j : Int) := by omega
      have hj3 : (j : Int) ≤ 16 := by have := HI.out.2.2; omega
      have wj : IntKind.i64.wrap (j : Int) = (j : Int) := by rw [IntKind.wrap_i64] <;> omega
      have HJ : Hid (i = j + 1 ∧ j ≤ 16) := ⟨hj, by omega⟩
      obtain ⟨Z, hZ47, HZ47⟩ := zero47
      have hz0 : Z = U (hsF [] 0) := by rw [HZ47.out]; rfl
      obtain ⟨dh, hdh⟩ : ∃ d, V.heap.size = d := ⟨_, rfl⟩
      obtain ⟨Va, hVa⟩ : ∃ W, V.alloc (.cells Z.toArray 47) = W := ⟨_, rfl⟩
      have ba : Below V.heap.size V Va := by rw [← hVa]; exact below_al _ _
      have kh : Blk Va dh 47 (U (hsF [] 0)) := by rw [← hVa, ← hdh, ← hz0]; exact Blk.new V _ _
      have HA : Hid (RI w g d2 d5 lo l6 ok6 { q1 with da := da, dn := dn, dc := dc, D := D } Va ∧ Blk Va dh 47 (U (hsF [] 0)) ∧ Sg T ok6 ((hT 32 l6).bind fun x => (rep hH j x.2).bind fun y => K1 s t s2 (D ++ (x.1 :: y.1)) y.2) ∧ dn + i ≤ 16 ∧ V.heap.size = dh ∧ g < dh ∧ Below V.heap.size V Va) := by
        refine ⟨HI.out.1.below ba, kh, ?_, HI.out.2.2, hdh, by have := HI.out.1.gd; omega, ba⟩
        have h := HI.out.2.1
        rw [hj, rep_succ] at h
        exact h
      have gN : decide (0 < i) = true := decide_eq_true hi
      clear hj hi qi kh ba hz0
      go_wp2
      clear gN
      go_loopw [8] (fun x wr => ∃ k : Nat, x = iv (k : Int) ∧ (k : Int) ≤ 32 ∧ Hid (∃ acc l7 ok7, acc.length = k ∧ Sg T ok7 ((hT (32 - k) l7).bind fun z => (rep hH j z.2).bind fun y => K1 s t s2 (D ++ ((acc ++ z.1) :: y.1)) y.2) ∧ Rg wr g l7 ok7 ∧ Fk [63] g V wr ∧ Blk wr dh 47 (U (hsF acc k)))) (fun x _ => 32 - (intOf x).toNat)
      case atStart => exact ⟨0, rfl, by omega, [], l6, ok6, rfl, HA.out.2.2.1.cong (by simp), HA.out.1.rg, Fk.of_below HA.out.2.2.2.2.2.2 (by have := HI.out.1.gd; omega), HA.out.2.1⟩
      case round =>
        obtain ⟨Vk, hVk⟩ : ∃ V, V = wr := ⟨_, rfl⟩
        subst hVk
        obtain ⟨k, rfl, qk, HK0⟩ := hrel
        obtain ⟨acc, l7, ok7, h1, h2, h3, h4, h5⟩ := HK0.out
        have HK : Hid (acc.length = k ∧ Sg T ok7 ((hT (32 - k) l7).bind fun z => (rep hH j z.2).bind fun y => K1 s t s2 (D ++ ((acc ++ z.1) :: y.1)) y.2) ∧ Rg Vk g l7 ok7 ∧ Fk [63] g V Vk ∧ Blk Vk dh 47 (U (hsF acc k))) := ⟨h1, h2, h3, h4, h5⟩
        clear HK0 h1 h2 h3 h4 h5
        by_cases hk : k < 32
        · have qk1 : (k : Int) < 32 := by omega
          have HKK : Hid (k < 32) := hk
          clear hk qk
          go_wp2_with fail
          refine (one_q Vk g l7 ok7 HK.out.2.2.1).mono ?_
          rintro e Vl ⟨b, l8, ok8, rfl, hf, hr, hs⟩
          have kh : Blk Vl dh 47 (U (hsF acc k)) := HK.out.2.2.2.2.fk hf (by decide)
          have ch : Vl.cell? ⟨dh, k, none⟩ = some (bv 0) := kh.cell (hsF_at (by rw [HK.out.1]; exact Nat.le_refl _) HKK.out)
          have fh := kh.free k
          have wb : IntKind.u8.wrap (b.toNat : Int) = (b.toNat : Int) := by have := b.toNat_lt; rw [IntKind.wrap_u8]; omega
          have qb : (b.toNat : Int) < 256 := by have := b.toNat_lt; omega
          have HL : Hid (Sg T ok8 ((hT (31 - k) l8).bind fun z => (rep hH j z.2).bind fun y => K1 s t s2 (D ++ (((acc ++ [b]) ++ z.1) :: y.1)) y.2) ∧ Rg Vl g l8 ok8 ∧ Fk [63] g V Vl ∧ Blk Vl dh 47 (U (hsF acc k))) := by
            refine ⟨?_, hr, HK.out.2.2.2.1.trans hf, kh⟩
            have h := HK.out.2.1
            have e : 32 - k = (31 - k) + 1 := by have := HKK.out; omega
            rw [e, hT_succ] at h
            exact (h.step hs).cong (by simp)
          clear hf hr hs kh
          go_wp2
          go_roundw
          case rel =>
            have hgs := grown_setCell Vl dh k (bv (b.toNat : Int))
            have hfs : Fk [47] g Vl (Vl.setCell ⟨dh, k, none⟩ (bv (b.toNat : Int))) := Fk.of_blk hgs HL.out.2.2.2 (by have := HA.out; omega) (by simp)
            refine ⟨k + 1, by simp, by have := HKK.out; omega, acc ++ [b], l8, ok8, by rw [List.length_append, HK.out.1]; rfl, ?_, HL.out.2.1.fk hfs (by decide), HL.out.2.2.1.far hgs (by have := HA.out; omega) (by have := HI.out.1.gd; omega), ?_⟩
            · have e : 32 - (k + 1) = 31 - k := by omega
              rw [e]
              exact HL.out.1
            · have hset := HL.out.2.2.2.set k (bv (b.toNat : Int))
              rw [hsF_acc HK.out.1 b, hsF_next (by rw [List.getElem?_append_right (by rw [HK.out.1]; exact Nat.le_refl _), HK.out.1, Nat.sub_self]; rfl) HKK.out] at hset
              exact hset
          case measure => have := HKK.out; simp only [intOf]; omega
        · have qk1 : (32 : Int) ≤ (k : Int) := by omega
          obtain rfl : k = 32 := by omega
          have hri := HI.out.1.fk HK.out.2.2.2.1 (by decide) HK.out.2.2.1
          have c3 : Vk.cell? ⟨d5, 3, none⟩ = some (.slice da dn dc) := hri.k5.cell rfl
          have HM : Hid (RI w g d2 d5 lo l7 ok7 { q1 with da := da, dn := dn, dc := dc, D := D } Vk ∧ Blk Vk dh 47 (U acc) ∧ acc.length = 32 ∧ Sg T ok7 ((rep hH j l7).bind fun y => K1 s t s2 (D ++ (acc :: y.1)) y.2) ∧ dn + i ≤ 16) := by
            refine ⟨hri, by rw [← hsF_full HK.out.1]; exact HK.out.2.2.2.2, HK.out.1, ?_, HI.out.2.2⟩
            refine HK.out.2.1.cong ?_
            rw [Nat.sub_self, hT_zero]
            simp only [Option.bind_some, List.append_nil]
          clear hk qk hri HK HA HI hVa hdh
          go_wp2_with (with_reducible change wpList _ _ _ ({ dst := some 45, op := _, type := _, pos := _, after := _, guard := _ } :: _) _ _; refine Hid.out ?_)
          show wpList _ _ _ _ _ _
          refine wpList_load_mid rfl 47 (.tmp 7) rfl dh 0 rfl (U acc) _ HM.out.2.1.range0 Try.underlying47 rfl (info47 _ HM.out.2.2.1) ?_
          go_wp2_with (with_reducible change wpList _ _ _ ({ dst := some 46, op := _, type := _, pos := _, after := _, guard := _ } :: _) _ _; refine Hid.out ?_)
          show wpList _ _ _ _ _ _
          refine wpList_bs rfl 22 _ rfl (.agg (U acc).toArray) _ rfl (bs22 HM.out.2.2.1 Vk) ?_
          obtain ⟨zb, hzb⟩ : ∃ z, Vk.heap.size = z := ⟨_, rfl⟩
          obtain ⟨Vm, hVm⟩ : ∃ V, Vk.alloc (.cells (U acc).toArray 47) = V := ⟨_, rfl⟩
          have hbm : Below Vk.heap.size Vk Vm := by rw [← hVm]; exact below_al _ _
          have kbm : Blk Vm zb 47 (U acc) := by rw [← hVm, ← hzb]; exact Blk.new _ _ _
          rw [hzb, hVm]
          have him := HM.out.1.below hbm
          obtain ⟨ra2, rc2, Vn, hrun, ho2, hg2⟩ := app_one47 Vm lo (.slice da dn dc) dn (hsC D) him.dep zb (U acc) ⟨by rw [U_length]; exact HM.out.2.2.1, U_one _⟩ kbm (by have := him.dn16; show dn ≤ _; have h : dn ≤ 16 := this; omega) him.gd.2.2.2.2
          have hrh := HM.out.1.hash (x := acc) hbm hg2 ho2 HM.out.2.2.1 (by show dn < 16; have := HM.out.2.2.2.2; have := HJ.out.1; omega)
          have c4 : Vm.cell? ⟨d5, 3, none⟩ = some (.slice da dn dc) := him.k5.cell rfl
          have c5 : Vn.cell? ⟨d5, 3, none⟩ = some (.slice da dn dc) := hrh.2.cell rfl
          have f5 := hrh.2.free 3
          have HN : Hid (RI w g d2 d5 lo l7 ok7 { q1 with da := ra2, dn := dn + 1, dc := rc2, D := D ++ [acc] } (Vn.setCell ⟨d5, 3, none⟩ (.slice ra2 (dn + 1) rc2))) := hrh.1
          clear hbm kbm him ho2 hg2 hrh hVm hzb c3
          go_wp2_with (with_reducible change wpList _ _ _ ({ dst := some 47, op := _, type := _, pos := _, after := _, guard := _ } :: _) _ _; refine Hid.out ?_)
          show wpList _ _ _ _ _ _
          refine wpList_apd (t := 22) rfl (.tmp 44) (.tmp 46) rfl hrun rfl rfl ?_
          clear hrun c4
          go_wp2
          go_roundw
          case rel =>
            exact ⟨j, rfl, by have := HJ.out.1; omega, l7, ok7, ra2, dn + 1, rc2, D ++ [acc], HN.out, HM.out.2.2.2.1.cong (by simp), by have := HM.out.2.2.2.2; have := HJ.out.1; omega⟩
          case measure => have := HJ.out.1; simp only [intOf]; omega
    · have q1' : (i : Int) ≤ 0 := by omega
      obtain rfl : i = 0 := by omega
      obtain ⟨q2, hq2⟩ : ∃ q2 : PV, { q1 with da := da, dn := dn, dc := dc, D := D } = q2 := ⟨_, rfl⟩
      have H10 : Hid (RI w g d2 d5 lo l6 ok6 q2 V ∧ Sg T ok6 (K1 s t s2 D l6) ∧ { q1 with da := da, dn := dn, dc := dc, D := D } = q2) := ⟨by rw [← hq2]; exact HI.out.1, HI.out.2.1.cong (by simp [rep]), hq2⟩
      have HDD : Hid (D.length = dn ∧ (∀ h ∈ D, h.length = 32) ∧ dn ≤ 16) := ⟨HI.out.1.dl, HI.out.1.d32, HI.out.1.dn16⟩
      clear HI hi qi hq2
      go_wp2_with fail
      refine (num_q V g l6 ok6 H10.out.1.rg 16 (by omega)).mono ?_
      rintro e V2 ⟨m0, l7, ok7, rfl, hm16, hf, hr, hs⟩
      have HM : Hid (RI w g d2 d5 lo l7 ok7 q2 V2 ∧ Sg T ok7 ((rep (oO 1000 1000 D) m0 l7).bind fun o => some (mkP s t s2 D o.1, o.2)) ∧ m0 ≤ 16) := ⟨H10.out.1.fk hf (by decide) hr, (show Sg T ok6 ((nN 16 l6).bind _) from H10.out.2.1).step hs, hm16⟩
      have HQ : Hid ({ q1 with da := da, dn := dn, dc := dc, D := D } = q2) := H10.out.2.2
      have qm : (m0 : Int) ≤ 16 := by omega
      clear hm16 hf hr hs H10
      go_wp2
      go_loopw [9] (fun x wr => ∃ i : Nat, x = iv (i : Int) ∧ (i : Int) ≤ 16 ∧ Hid (∃ l8 ok8 oa on oc Q O, RI w g d2 d5 lo l8 ok8 { q2 with oa := oa, on := on, oc := oc, O := Q } wr ∧ Q.map OpV.strip = O.map OpV.strip ∧ O.length = on ∧ Sg T ok8 ((rep (oO 1000 1000 D) i l8).bind fun y => some (mkP s t s2 D (O ++ y.1), y.2)) ∧ on + i ≤ 16)) (fun x _ => (intOf x).toNat)
      case atStart =>
        refine ⟨m0, rfl, by omega, l7, ok7, none, 0, 0, [], [], ?_, rfl, rfl, ?_, by have := HM.out.2.2; omega⟩
        · have e : ({ q2 with oa := none, on := 0, oc := 0, O := [] } : PV) = q2 := by rw [← HQ.out, ← HS.out.2.2]; rfl
          rw [e]
          exact HM.out.1
        · exact HM.out.2.1.cong (by simp)
      case round =>
        obtain ⟨V, hV⟩ : ∃ V, V = wr := ⟨_, rfl⟩
        subst hV
        obtain ⟨i, rfl, qi, HI0⟩ := hrel
        obtain ⟨l8, ok8, oa, on, oc, Q, O, h1, h2, h3, h4, h5⟩ := HI0.out
        have HI : Hid (RI w g d2 d5 lo l8 ok8 { q2 with oa := oa, on := on, oc := oc, O := Q } V ∧ Q.map OpV.strip = O.map OpV.strip ∧ O.length = on ∧ Sg T ok8 ((rep (oO 1000 1000 D) i l8).bind fun y => some (mkP s t s2 D (O ++ y.1), y.2)) ∧ on + i ≤ 16) := ⟨h1, h2, h3, h4, h5⟩
        clear HI0 h1 h2 h3 h4 h5
        by_cases hi : 0 < i
        · have q1' : (0 : Int) < (i : Int) := by omega
          obtain ⟨j, hj⟩ : ∃ j : Nat, i = j + 1 := ⟨i - 1, by omega⟩
          have hj2 : (i : Int) - 1 = (j : Int) := by omega
          have hj3 : (j : Int) ≤ 16 := by have := HI.out.2.2.2.2; omega
          have wj : IntKind.i64.wrap (j : Int) = (j : Int) := by rw [IntKind.wrap_i64] <;> omega
          have HJ : Hid (i = j + 1 ∧ j ≤ 16) := ⟨hj, by omega⟩
          have gN : decide (0 < i) = true := decide_eq_true hi
          obtain ⟨G, hG⟩ : ∃ G : OpV × List UInt8 → Option (PV × List UInt8), (fun x => (rep (oO 1000 1000 D) j x.2).bind fun y => some (mkP s t s2 D (O ++ x.1 :: y.1), y.2)) = G := ⟨_, rfl⟩
          have HGG : Hid ((fun x : OpV × List UInt8 => (rep (oO 1000 1000 D) j x.2).bind fun y => some (mkP s t s2 D (O ++ x.1 :: y.1), y.2)) = G) := hG
          have HSg : Hid (Sg T ok8 ((mM l8).bind fun k => (tT 1000 k.2).bind fun s => (vV D s.2).bind fun u => opK D G k.1 s.1 u.1 u.2)) := by
            show Sg _ _ _
            have h := HI.out.2.2.2.1
            rw [hj, rep_succ] at h
            rw [← oO_bind, ← hG]
            exact h
          have HLg : Hid (g ≤ V.heap.size) := by have := HI.out.1.gd; show _ ≤ _; omega
          have HLc : Hid (({ q2 with oa := oa, on := on, oc := oc, O := Q } : PV).cells[3]? = some (.slice da dn dc)) := by show _ = _; rw [← HQ.out]; rfl
          have HD3 : Hid (D.length = dn ∧ (∀ h ∈ D, h.length = 32) ∧ dn ≤ 1000) := ⟨HDD.out.1, HDD.out.2.1, by have := HDD.out.2.2; omega⟩
          have HRk : Hid (Rg V g l8 ok8) := HI.out.1.rg
          have HBk : Hid (Blk V d5 25 ({ q2 with oa := oa, on := on, oc := oc, O := Q } : PV).cells) := HI.out.1.k5
          have HOw : Hid (V.ownsRow lo 47 32 (.slice da dn dc) dn (hsC D)) := by
            show World.ownsRow _ _ _ _ _ _ _
            have h := HI.out.1.dep
            rw [← HQ.out] at h
            exact h
          clear hj hi qi hG
          go_wp2_with fail
          refine rd20 HZ51 HLg HLc HD3 HRk HBk HOw ?_
          intro V1 cb sp v l9 l10 l11 oka okb okc z hfk hkz hrg hzz hs1 hs2 hs3 hsz hvo
          have HZZ : Hid (V.heap.size ≤ z ∧ sp.size ≤ 1000 ∧ v.ok ∧ g < z) := ⟨hzz, hsz, hvo, by have := HI.out.1.gd; omega⟩
          have H20 : Hid (Fk [63] g V V1 ∧ Blk V1 z 51 (mkV cb sp v).cells ∧ Rg V1 g l11 okc ∧ Sg T okc (opK D G cb sp v l11)) := ⟨hfk, hkz, hrg, ((HSg.out.step hs1).step hs2).step hs3⟩
          have cz : V1.cell? ⟨z, 0, none⟩ = some (iv (cb.toNat : Int)) := hkz.cell rfl
          clear hfk hkz hrg hzz hs1 hs2 hs3 hsz hvo HSg HRk HBk
          by_cases hk1 : ¬ cb = 1
          · have hne : ((cb.toNat : Nat) : Int) ≠ 1 := fun e => hk1 (UInt8.toNat_inj.1 (by show cb.toNat = 1; omega))
            have ebn : (((cb.toNat : Nat) : Int) == 1) = false := by simpa using hne
            have HX : Hid (Rg V1 g l11 okc ∧ Fk [63] g V V1 ∧ Blk V1 z 51 (mkV cb sp v).cells ∧ (mkV cb sp v).ok ∧ StG V1 (mkV cb sp v) ∧ (mkV cb sp v).strip = (mkO cb sp v vTop []).strip ∧ Sg T okc ((rep (oO 1000 1000 D) j l11).bind fun y => some (mkP s t s2 D (O ++ (mkO cb sp v vTop [] :: y.1)), y.2))) := by
              refine ⟨H20.out.2.2.1, H20.out.1, H20.out.2.1, ⟨HZZ.out.2.2.1, vTop_ok, rfl, by show 0 ≤ _; omega, by show sp.size ≤ _; have := HZZ.out.2.1; omega, (fun t ht => by cases ht), Nat.le_refl _, by show 0 ≤ maxLen; omega⟩, ⟨⟨rfl, fun hp => absurd hp (by show ¬ 0 < 0; omega)⟩, fun hp => absurd hp (by show ¬ 0 < 0; omega)⟩, rfl, ?_⟩
              refine H20.out.2.2.2.cong ?_
              unfold opK
              rw [if_neg hk1, ← HGG.out]
            clear hk1 hne H20
            have him := (HI.out.1.fk HX.out.2.1 (by decide) HX.out.1)
            have hdd : V.heap.size ≤ z := HZZ.out.1
            obtain ⟨zb, hzb⟩ : ∃ z, V1.heap.size = z := ⟨_, rfl⟩
            have c8 : V1.cell? ⟨d5, 4, none⟩ = some (.slice oa on oc) := him.k5.cell rfl
            go_wp2_with (with_reducible change wpList _ _ _ ({ dst := some 87, op := _, type := _, pos := _, after := _, guard := _ } :: _) _ _; refine Hid.out ?_)
            show wpList _ _ _ _ _ _
            refine wpList_load_mid rfl 51 (.tmp 10) rfl z 0 rfl (mkV cb sp v).cells _ HX.out.2.2.1.range0 Try.underlying51 rfl (info51 HX.out.2.2.2.1) ?_
            go_wp2_with (with_reducible change wpList _ _ _ ({ dst := some 88, op := _, type := _, pos := _, after := _, guard := _ } :: _) _ _; refine Hid.out ?_)
            show wpList _ _ _ _ _ _
            refine wpList_bs rfl 23 _ rfl (.agg (mkV cb sp v).cells.toArray) _ rfl (bs23 HX.out.2.2.2.1 V1) ?_
            obtain ⟨Vm, hVm⟩ : ∃ V, V1.alloc (.cells (mkV cb sp v).cells.toArray 51) = V := ⟨_, rfl⟩
            have hbm : Below V1.heap.size V1 Vm := by rw [← hVm]; exact below_al _ _
            have kbm : Blk Vm zb 51 (mkV cb sp v).cells := by rw [← hVm, ← hzb]; exact Blk.new _ _ _
            rw [hzb, hVm]
            have him2 := him.below hbm
            obtain ⟨ra2, rc2, Vn, hrun, ho2, hg2⟩ := app_one51 Vm lo (.slice oa on oc) on (cellsO Q) him2.ops zb (mkV cb sp v).cells ⟨OpV.len HX.out.2.2.2.1, OpV.one _⟩ kbm (by have := HI.out.2.2.2.2; show on ≤ _; omega) him2.gd.2.2.2.2
            have hrh := him.op (x := mkV cb sp v) hbm hg2 ho2 ⟨HX.out.2.2.2.1, HX.out.2.2.2.2.1⟩ (by show on < 16; have := HI.out.2.2.2.2; have := HJ.out.1; omega)
            have c4 : Vm.cell? ⟨d5, 4, none⟩ = some (.slice oa on oc) := him2.k5.cell rfl
            have c5 : Vn.cell? ⟨d5, 4, none⟩ = some (.slice oa on oc) := hrh.2.cell rfl
            have f5 := hrh.2.free 4
            have HN : Hid (RI w g d2 d5 lo l11 okc { q2 with oa := ra2, on := on + 1, oc := rc2, O := Q ++ [mkV cb sp v] } (Vn.setCell ⟨d5, 4, none⟩ (.slice ra2 (on + 1) rc2))) := hrh.1
            clear him him2 hbm kbm ho2 hg2 hrh hVm hzb c8 hdd
            go_wp2_with (with_reducible change wpList _ _ _ ({ dst := some 89, op := _, type := _, pos := _, after := _, guard := _ } :: _) _ _; refine Hid.out ?_)
            show wpList _ _ _ _ _ _
            refine wpList_apd (t := 23) rfl (.tmp 86) (.tmp 88) rfl hrun rfl rfl ?_
            clear hrun c4
            go_wp2
            go_roundw
            case rel =>
              exact ⟨j, rfl, by have := HJ.out.1; omega, l11, okc, ra2, on + 1, rc2, Q ++ [mkV cb sp v], O ++ [mkO cb sp v vTop []], HN.out, by rw [List.map_append, List.map_append, HI.out.2.1]; simp only [List.map_cons, List.map_nil, HX.out.2.2.2.2.2.1], by rw [List.length_append, HI.out.2.2.1]; rfl, HX.out.2.2.2.2.2.2.cong (by simp), by have := HI.out.2.2.2.2; have := HJ.out.1; omega⟩
            case measure => have := HJ.out.1; simp only [intOf]; omega
          · have hk2 : cb = 1 := Classical.not_not.1 hk1
            clear hk1
            subst hk2
            have e1 : (((1 : UInt8).toNat : Nat) : Int) = 1 := rfl
            rw [e1] at cz
            have cd : V1.cell? ⟨d5, 3, none⟩ = some (.slice da dn dc) := ((HI.out.1.k5.fk H20.out.1 (by decide)).cell HLc.out)
            have HO1 : Hid (V1.ownsRow lo 47 32 (.slice da dn dc) dn (hsC D)) := own_fk HOw.out H20.out.1 (by decide)
            clear HOw
            go_wp2_with fail
            refine (rvertex_q V1 g l11 okc H20.out.2.2.1 da dn dc D HO1.out HD3.out.1 HD3.out.2.1 HD3.out.2.2).mono ?_
            rintro e V2 ⟨v2, l12, okd, rfl, hv2, hf, hr, hs⟩
            have H21 : Hid (Fk [63] g V V2 ∧ Blk V2 z 51 (mkV 1 sp v).cells ∧ Rg V2 g l12 okd ∧ Sg T okd ((nN 64 l12).bind fun m => (rep (tT 1000) m.1 m.2).bind fun t => G (mkO 1 sp v v2 t.1, t.2)) ∧ v2.ok) := by
              refine ⟨H20.out.1.trans hf, H20.out.2.1.fk hf (by decide), hr, ?_, hv2⟩
              have h := H20.out.2.2.2
              unfold opK at h
              rw [if_pos (by trivial)] at h
              exact h.step hs
            clear hf hr hs hv2 H20 cz cd
            go_wp2_with (with_reducible change wpList _ _ _ ({ dst := none, op := Op.store 49 _ _, type := _, pos := _, after := _, guard := _ } :: _) _ _; refine Hid.out ?_)
            show wpList _ _ _ _ _ _
            refine wpList_store_blk rfl 49 (.tmp 71) (.tmp 70) rfl z 35 51 (mkV 1 sp v).cells v2.cells rfl rfl H21.out.2.1 (by rw [mkV_len HZZ.out.2.2.1, Vx.len H21.out.2.2.2.2]; omega) (info49 H21.out.2.2.2.2) (Vx.one _) ?_
            intro V3 hx hgs
            obtain ⟨o4, ho4⟩ : ∃ o4 : OpV, { mkV 1 sp v with dn := v2 } = o4 := ⟨_, rfl⟩
            have H22 : Hid (Fk [63] g V V3 ∧ Blk V3 z 51 o4.cells ∧ Rg V3 g l12 okd ∧ Sg T okd ((nN 64 l12).bind fun m => (rep (tT 1000) m.1 m.2).bind fun t => G (mkO 1 sp v v2 t.1, t.2)) ∧ { mkV 1 sp v with dn := v2 } = o4 ∧ v2.ok) := by
              have hfs : Fk [51] g V2 V3 := Fk.of_blk hgs.out H21.out.2.1 (by have := HZZ.out; omega) (by simp)
              refine ⟨H21.out.1.far hgs.out HZZ.out.1 HLg.out, ?_, H21.out.2.2.1.fk hfs (by decide), H21.out.2.2.2.1, ho4, H21.out.2.2.2.2⟩
              have e := put_dn (o := mkV 1 sp v) HZZ.out.2.2.1 vTop_ok v2 H21.out.2.2.2.2
              rw [← e] at hx
              rw [← ho4]
              exact hx.out
            clear hx hgs H21 ho4
            go_wp2_with fail
            refine (num_q V3 g l12 okd H22.out.2.2.1 64 (by omega)).mono ?_
            rintro e V4 ⟨m1, l13, oke, rfl, hm1, hf, hr, hs⟩
            have H23 : Hid (Fk [63] g V V4 ∧ Blk V4 z 51 o4.cells ∧ Rg V4 g l13 oke ∧ Sg T oke ((rep (tT 1000) m1 l13).bind fun t => G (mkO 1 sp v v2 t.1, t.2)) ∧ m1 ≤ 64) := ⟨H22.out.1.trans hf, H22.out.2.1.fk hf (by decide), hr, H22.out.2.2.2.1.step hs, hm1⟩
            have HO4 : Hid ({ mkV 1 sp v with dn := v2 } = o4 ∧ v2.ok) := H22.out.2.2.2.2
            have qm1 : (m1 : Int) ≤ 64 := by omega
            clear hm1 hf hr hs H22
            go_wp2
            clear gN
            go_loopw [11] (fun x wr => ∃ k : Nat, x = iv (k : Int) ∧ (k : Int) ≤ 64 ∧ Hid (∃ ts l14 okf la ln lc, ts.length = ln ∧ Sg T okf ((rep (tT 1000) k l14).bind fun y => G (mkO 1 sp v v2 (ts ++ y.1), y.2)) ∧ Rg wr g l14 okf ∧ Fk [63] g V wr ∧ Blk wr z 51 ({ o4 with la := la, ln := ln, lc := lc, ts := ts } : OpV).cells ∧ wr.ownsRow V.heap.size 9 1 (.slice la ln lc) ln (strC ts) ∧ (∀ t ∈ ts, t.size ≤ 1000) ∧ ln + k ≤ 64)) (fun x _ => (intOf x).toNat)
            case atStart =>
              refine ⟨m1, rfl, by omega, [], l13, oke, none, 0, 0, rfl, H23.out.2.2.2.1.cong (by simp), H23.out.2.2.1, H23.out.1, ?_, ⟨rfl, .inl ⟨rfl, rfl⟩⟩, by simp, by have := H23.out.2.2.2.2; omega⟩
              have e : ({ o4 with la := none, ln := 0, lc := 0, ts := [] } : OpV) = o4 := by rw [← HO4.out.1]; rfl
              rw [e]
              exact H23.out.2.1
            case round =>
              obtain ⟨Vk, hVk⟩ : ∃ V, V = wr := ⟨_, rfl⟩
              subst hVk
              obtain ⟨k, rfl, qk, HK0⟩ := hrel
              obtain ⟨ts, l14, okf, la, ln, lc, h1, h2, h3, h4, h5, h6, h7, h8⟩ := HK0.out
              obtain ⟨hst, hty, hlc⟩ := strs_own h6 h1
              obtain ⟨o5, ho5⟩ : ∃ o5 : OpV, { o4 with la := la, ln := ln, lc := lc, ts := ts } = o5 := ⟨_, rfl⟩
              rw [ho5] at h5
              have hok : o5.ok := by
                have hQ := HO4.out
                rw [← ho5, ← hQ.1]
                exact ⟨HZZ.out.2.2.1, hQ.2, h1, by show ln ≤ _; omega, by show sp.size ≤ _; have := HZZ.out.2.1; omega, fun t ht => by have := h7 t ht; omega, hlc⟩
              have HK : Hid (ts.length = ln ∧ Sg T okf ((rep (tT 1000) k l14).bind fun y => G (mkO 1 sp v v2 (ts ++ y.1), y.2)) ∧ Rg Vk g l14 okf ∧ Fk [63] g V Vk ∧ Blk Vk z 51 o5.cells ∧ Vk.ownsRow V.heap.size 9 1 (.slice la ln lc) ln (strC ts) ∧ (∀ t ∈ ts, t.size ≤ 1000) ∧ ln + k ≤ 64 ∧ { o4 with la := la, ln := ln, lc := lc, ts := ts } = o5 ∧ o5.ok ∧ StG Vk o5) := ⟨h1, h2, h3, h4, h5, h6, h7, h8, ho5, hok, by rw [← ho5]; exact ⟨hst, hty⟩⟩
              clear HK0 h1 h2 h3 h4 h5 h6 h7 h8 hst hty hlc ho5 hok
              by_cases hk : 0 < k
              · have qk1 : (0 : Int) < (k : Int) := by omega
                obtain ⟨kk, hkk⟩ : ∃ j : Nat, k = j + 1 := ⟨k - 1, by omega⟩
                have hkk2 : (k : Int) - 1 = (kk : Int) := by omega
                have hkk3 : (kk : Int) ≤ 64 := by omega
                have wkk : IntKind.i64.wrap (kk : Int) = (kk : Int) := by rw [IntKind.wrap_i64] <;> omega
                have HKK : Hid (k = kk + 1) := hkk
                have HRn : Hid (ln ≤ 64) := by have := HK.out.2.2.2.2.2.2.2.1; show _ ≤ _; omega
                have HLc2 : Hid (o5.cells[68]? = some (.slice la ln lc)) := by
                  have h := OpV.c68 HK.out.2.2.2.2.2.2.2.2.2.1
                  rw [← HK.out.2.2.2.2.2.2.2.2.1] at h ⊢
                  exact h
                have HLo : Hid (g ≤ V.heap.size ∧ V.heap.size ≤ Vk.heap.size) := ⟨HLg.out, HK.out.2.2.2.1.size⟩
                have HLb : Hid (g ≤ z) := by have := HZZ.out; show _ ≤ _; omega
                have HRk : Hid (Rg Vk g l14 okf) := HK.out.2.2.1
                have HBk : Hid (Blk Vk z 51 o5.cells) := HK.out.2.2.2.2.1
                have HOw : Hid (Vk.ownsRow V.heap.size 9 1 (.slice la ln lc) ln (strC ts)) := HK.out.2.2.2.2.2.1
                clear hk qk hkk
                go_wp2_with fail
                refine rd26 HRn HLc2 HLo HLb HRk HBk HOw ?_
                intro Vc Vm Va x l15 okg ra2 rc2 zz hs hxz hfk hrg hbb hgr how hbk
                go_wp2
                go_roundw
                case rel =>
                  have hgs := grown_setCell Va z 68 (.slice ra2 (ln + 1) rc2)
                  have hfm : Fk [63] g V Vm := HK.out.2.2.2.1.trans hfk
                  have hO2 : Vm.ownsRow V.heap.size 9 1 (.slice la ln lc) ln (strC ts) := own_fk HOw.out hfk (by decide)
                  have hfa : Fk [9] g Vm Va := fk_own hO2 hgr HLo.out.1 (by have := HLo.out; have := hfk.size; omega) (by simp)
                  have hfw : Fk [63] g V Va := hfm.far_own hO2 hgr (Nat.le_refl _) HLo.out.1
                  have hfs : Fk [51] g Va (Va.setCell ⟨z, 68, none⟩ (.slice ra2 (ln + 1) rc2)) := Fk.of_blk hgs hbk HLb.out (by simp)
                  refine ⟨kk, rfl, hkk3, ts ++ [x], l15, okg, ra2, ln + 1, rc2, by rw [List.length_append, HK.out.1]; rfl, ?_, ((hrg.below hbb).fk hfa (by decide)).fk hfs (by decide), hfw.far hgs HZZ.out.1 HLo.out.1, ?_, ?_, ?_, by have := HK.out.2.2.2.2.2.2.2.1; have := HKK.out; omega⟩
                  · have h := HK.out.2.1
                    rw [HKK.out, rep_succ] at h
                    exact (h.step hs).cong (by simp)
                  · have hset := hbk.set 68 (.slice ra2 (ln + 1) rc2)
                    have hu5 := HK.out.2.2.2.2.2.2.2.2.2.1
                    have e := put_ln (o := o5) hu5.1 hu5.2.1 ra2 (ln + 1) rc2 (ts ++ [x])
                    rw [← e, ← HK.out.2.2.2.2.2.2.2.2.1] at hset
                    exact hset
                  · rw [strC_app]
                    exact own_fk how hfs (by decide)
                  · intro y hy
                    rcases List.mem_append.1 hy with h | h
                    · exact HK.out.2.2.2.2.2.2.1 y h
                    · rw [List.mem_singleton.1 h]; exact hxz
                case measure => have := HKK.out; simp only [intOf]; omega
              · have qk1 : (k : Int) ≤ 0 := by omega
                obtain rfl : k = 0 := by omega
                have HX : Hid (Rg Vk g l14 okf ∧ Fk [63] g V Vk ∧ Blk Vk z 51 o5.cells ∧ o5.ok ∧ StG Vk o5 ∧ o5.strip = (mkO 1 sp v v2 ts).strip ∧ Sg T okf ((rep (oO 1000 1000 D) j l14).bind fun y => some (mkP s t s2 D (O ++ (mkO 1 sp v v2 ts :: y.1)), y.2))) := by
                  refine ⟨HK.out.2.2.1, HK.out.2.2.2.1, HK.out.2.2.2.2.1, HK.out.2.2.2.2.2.2.2.2.2.1, HK.out.2.2.2.2.2.2.2.2.2.2, ?_, ?_⟩
                  · rw [← HK.out.2.2.2.2.2.2.2.2.1, ← HO4.out.1]
                    unfold OpV.strip mkO mkV
                    simp only [HK.out.1]
                  · refine HK.out.2.1.cong ?_
                    rw [← HGG.out]
                    simp [rep]
                clear hk qk HK H23
                have him := (HI.out.1.fk HX.out.2.1 (by decide) HX.out.1)
                have hdd : V.heap.size ≤ z := HZZ.out.1
                obtain ⟨zb, hzb⟩ : ∃ z, Vk.heap.size = z := ⟨_, rfl⟩
                have c8 : Vk.cell? ⟨d5, 4, none⟩ = some (.slice oa on oc) := him.k5.cell rfl
                go_wp2_with (with_reducible change wpList _ _ _ ({ dst := some 87, op := _, type := _, pos := _, after := _, guard := _ } :: _) _ _; refine Hid.out ?_)
                show wpList _ _ _ _ _ _
                refine wpList_load_mid rfl 51 (.tmp 10) rfl z 0 rfl (o5).cells _ HX.out.2.2.1.range0 Try.underlying51 rfl (info51 HX.out.2.2.2.1) ?_
                go_wp2_with (with_reducible change wpList _ _ _ ({ dst := some 88, op := _, type := _, pos := _, after := _, guard := _ } :: _) _ _; refine Hid.out ?_)
                show wpList _ _ _ _ _ _
                refine wpList_bs rfl 23 _ rfl (.agg (o5).cells.toArray) _ rfl (bs23 HX.out.2.2.2.1 Vk) ?_
                obtain ⟨Vm, hVm⟩ : ∃ V, Vk.alloc (.cells (o5).cells.toArray 51) = V := ⟨_, rfl⟩
                have hbm : Below Vk.heap.size Vk Vm := by rw [← hVm]; exact below_al _ _
                have kbm : Blk Vm zb 51 (o5).cells := by rw [← hVm, ← hzb]; exact Blk.new _ _ _
                rw [hzb, hVm]
                have him2 := him.below hbm
                obtain ⟨ra2, rc2, Vn, hrun, ho2, hg2⟩ := app_one51 Vm lo (.slice oa on oc) on (cellsO Q) him2.ops zb (o5).cells ⟨OpV.len HX.out.2.2.2.1, OpV.one _⟩ kbm (by have := HI.out.2.2.2.2; show on ≤ _; omega) him2.gd.2.2.2.2
                have hrh := him.op (x := o5) hbm hg2 ho2 ⟨HX.out.2.2.2.1, HX.out.2.2.2.2.1⟩ (by show on < 16; have := HI.out.2.2.2.2; have := HJ.out.1; omega)
                have c4 : Vm.cell? ⟨d5, 4, none⟩ = some (.slice oa on oc) := him2.k5.cell rfl
                have c5 : Vn.cell? ⟨d5, 4, none⟩ = some (.slice oa on oc) := hrh.2.cell rfl
                have f5 := hrh.2.free 4
                have HN : Hid (RI w g d2 d5 lo l14 okf { q2 with oa := ra2, on := on + 1, oc := rc2, O := Q ++ [o5] } (Vn.setCell ⟨d5, 4, none⟩ (.slice ra2 (on + 1) rc2))) := hrh.1
                clear him him2 hbm kbm ho2 hg2 hrh hVm hzb c8 hdd
                go_wp2_with (with_reducible change wpList _ _ _ ({ dst := some 89, op := _, type := _, pos := _, after := _, guard := _ } :: _) _ _; refine Hid.out ?_)
                show wpList _ _ _ _ _ _
                refine wpList_apd (t := 23) rfl (.tmp 86) (.tmp 88) rfl hrun rfl rfl ?_
                clear hrun c4
                go_wp2
                go_roundw
                case rel =>
                  exact ⟨j, rfl, by have := HJ.out.1; omega, l14, okf, ra2, on + 1, rc2, Q ++ [o5], O ++ [mkO 1 sp v v2 ts], HN.out, by rw [List.map_append, List.map_append, HI.out.2.1]; simp only [List.map_cons, List.map_nil, HX.out.2.2.2.2.2.1], by rw [List.length_append, HI.out.2.2.1]; rfl, HX.out.2.2.2.2.2.2.cong (by simp), by have := HI.out.2.2.2.2; have := HJ.out.1; omega⟩
                case measure => have := HJ.out.1; simp only [intOf]; omega
        · have q1' : (i : Int) ≤ 0 := by omega
          obtain rfl : i = 0 := by omega
          obtain ⟨q3, hq3⟩ : ∃ q3 : PV, { q2 with oa := oa, on := on, oc := oc, O := Q } = q3 := ⟨_, rfl⟩
          have H30 : Hid (RI w g d2 d5 lo l8 ok8 q3 V ∧ Sg T ok8 (some (mkP s t s2 D O, l8)) ∧ Tw (mkP s t s2 D O) q3 ∧ PT V q3) := by
            have hri := HI.out.1
            rw [hq3] at hri
            have h1 : q3.au.size ≤ 1000 := by rw [← hq3, ← HQ.out, ← HS.out.2.2]; exact HS.out.1
            have h2 : q3.nt.size ≤ 1000 := by rw [← hq3, ← HQ.out, ← HS.out.2.2]; exact HS.out.2.1
            refine ⟨hri, HI.out.2.2.2.1.cong (by simp [rep]), ?_, PT.ri hri h1 h2⟩
            rw [← hq3, ← HQ.out, ← HS.out.2.2]
            exact ⟨rfl, rfl, rfl, rfl, HDD.out.1.symm, HI.out.2.2.1.symm, HI.out.2.1.symm⟩
          obtain ⟨aa, nn, cc, hbk, hinn, hnn⟩ := H30.out.1.rg
          have cg0 : V.cell? ⟨g, 0, none⟩ = some (.slice aa nn cc) := hbk.cell rfl
          have cg1 : V.cell? ⟨g, 1, none⟩ = some (.bool ok8) := hbk.cell rfl
          have HNL : Hid (l8.length = nn) := hinn.1
          have qnn : (nn : Int) ≤ 140737488355328 := by have := hinn.2.2.1; omega
          have HB : Hid (Blk V d2 25 p00.cells ∧ Below w.heap.size w V ∧ w.heap.size ≤ d2) := ⟨H30.out.1.k2, H30.out.1.bel, H30.out.1.gd.1⟩
          clear hbk hinn hnn HI hi qi hq3 HM
          cases ok8 with
          | false =>
            have HN : Hid (∀ p, pP 1000 1000 1000 l = some (p, []) → chk p ≠ 0) := fun p hp => by
              exfalso
              rw [HT.out] at hp
              rcases H30.out.2.1 with ⟨h, _⟩ | ⟨_, h⟩
              · cases h
              · rw [h] at hp; cases hp
            go_wp2_with (with_reducible change wpList _ _ _ ({ dst := some 109, op := _, type := _, pos := _, after := _, guard := _ } :: _) _ _; refine Hid.out ?_)
            show wpList _ _ _ _ _ _
            refine wpList_built rfl 25 _ rfl p00.cells.toArray (by rw [← built25b]; first | (simp; done) | (simp; rfl)) ?_
            go_wp2_with (with_reducible change wpList _ _ _ ({ dst := none, op := Op.store 25 _ _, type := _, pos := _, after := _, guard := _ } :: _) _ _; refine Hid.out ?_)
            show wpList _ _ _ _ _ _
            refine wpList_store_blk rfl 25 (.tmp 2) (.tmp 109) rfl d2 0 25 p00.cells p00.cells rfl rfl HB.out.1 (Nat.le_refl _) (info25 p00) (PV.one _) ?_
            intro W9 hx hgs
            have HF : Hid (Blk W9 d2 25 p00.cells ∧ DR w l (.returned (.tuple #[.agg p00.cells.toArray, iv 103])) W9) := ⟨blk_all hx.out rfl, below_gr HB.out.2.1 hgs.out HB.out.2.2, .inl ⟨rfl, HN.out⟩⟩
            clear hx hgs
            go_wp2
            exact ret_cu rfl rfl rfl HF.out.1 Try.underlying25 rfl (info25 p00) HF.out.2
          | true =>
            have HTT : Hid (T = some (mkP s t s2 D O, l8)) := by
              rcases H30.out.2.1 with ⟨_, h⟩ | ⟨h, _⟩
              · exact h
              · cases h
            by_cases hn0 : 0 < nn
            · have qn1 : (0 : Int) < (nn : Int) := by omega
              have gn : decide (0 < nn) = true := decide_eq_true hn0
              have HN : Hid (∀ p, pP 1000 1000 1000 l = some (p, []) → chk p ≠ 0) := fun p hp => by
                exfalso
                rw [HT.out, HTT.out] at hp
                simp only [Option.some.injEq, Prod.mk.injEq] at hp
                have := HNL.out
                rw [hp.2, List.length_nil] at this
                omega
              clear hn0
              go_wp2_with (with_reducible change wpList _ _ _ ({ dst := some 109, op := _, type := _, pos := _, after := _, guard := _ } :: _) _ _; refine Hid.out ?_)
              show wpList _ _ _ _ _ _
              refine wpList_built rfl 25 _ rfl p00.cells.toArray (by rw [← built25b]; first | (simp; done) | (simp; rfl)) ?_
              go_wp2_with (with_reducible change wpList _ _ _ ({ dst := none, op := Op.store 25 _ _, type := _, pos := _, after := _, guard := _ } :: _) _ _; refine Hid.out ?_)
              show wpList _ _ _ _ _ _
              refine wpList_store_blk rfl 25 (.tmp 2) (.tmp 109) rfl d2 0 25 p00.cells p00.cells rfl rfl HB.out.1 (Nat.le_refl _) (info25 p00) (PV.one _) ?_
              intro W9 hx hgs
              have HF : Hid (Blk W9 d2 25 p00.cells ∧ DR w l (.returned (.tuple #[.agg p00.cells.toArray, iv 103])) W9) := ⟨blk_all hx.out rfl, below_gr HB.out.2.1 hgs.out HB.out.2.2, .inl ⟨rfl, HN.out⟩⟩
              clear hx hgs
              go_wp2
              exact ret_cu rfl rfl rfl HF.out.1 Try.underlying25 rfl (info25 p00) HF.out.2
            · obtain rfl : nn = 0 := by omega
              have hl8 : l8 = [] := List.length_eq_zero_iff.1 HNL.out
              have HTT2 : Hid (pP 1000 1000 1000 l = some (mkP s t s2 D O, [])) := by show _ = _; rw [HT.out, HTT.out, hl8]
              obtain ⟨E, hE⟩ : ∃ E, chk (mkP s t s2 D O) = E := ⟨_, rfl⟩
              have HE : Hid (chk (mkP s t s2 D O) = E ∧ chk q3 = E) := ⟨hE, by rw [H30.out.2.2.1.chk]; exact hE⟩
              clear hn0 hl8 hE
              go_wp2_with (with_reducible change wpList _ _ _ ({ dst := some 105, op := _, type := _, pos := _, after := _, guard := _ } :: _) _ _; refine Hid.out ?_)
              show wpList _ _ _ _ _ _
              refine wpList_load_want rfl 25 (.tmp 5) rfl d5 0 rfl q3.cells _ H30.out.1.k5.range0 Try.underlying25 rfl (info25 q3) ?_
              go_wp2_with fail
              refine (rcheck_is V q3 H30.out.2.2.2.pr (by have := H30.out.2.2.2.zd; omega) E HE.out.2).mono ?_
              rintro e V2 ⟨rfl, hb2⟩
              have H31 : Hid (RI w g d2 d5 lo l8 true q3 V2 ∧ PT V2 q3) := ⟨H30.out.1.below hb2, H30.out.2.2.2.below hb2⟩
              have HB2 : Hid (Blk V2 d2 25 p00.cells ∧ Below w.heap.size w V2 ∧ w.heap.size ≤ d2) := ⟨H31.out.1.k2, H31.out.1.bel, H31.out.1.gd.1⟩
              clear hb2 cg0 cg1 HB
              by_cases hE0 : E = 0
              · subst hE0
                go_wp2_with (with_reducible change wpList _ _ _ ({ dst := some 110, op := _, type := _, pos := _, after := _, guard := _ } :: _) _ _; refine Hid.out ?_)
                show wpList _ _ _ _ _ _
                refine wpList_load_mid rfl 25 (.tmp 5) rfl d5 0 rfl q3.cells _ H31.out.1.k5.range0 Try.underlying25 rfl (info25 q3) ?_
                go_wp2_with (with_reducible change wpList _ _ _ ({ dst := none, op := Op.store 25 _ _, type := _, pos := _, after := _, guard := _ } :: _) _ _; refine Hid.out ?_)
                show wpList _ _ _ _ _ _
                refine wpList_store_blk rfl 25 (.tmp 2) (.tmp 110) rfl d2 0 25 p00.cells q3.cells rfl rfl HB2.out.1 (Nat.le_refl _) (info25 q3) (PV.one _) ?_
                intro W9 hx hgs
                have HF : Hid (Blk W9 d2 25 q3.cells ∧ DR w l (.returned (.tuple #[.agg q3.cells.toArray, iv 0])) W9) := by
                  have hfs : Fk [25] 0 V2 W9 := Fk.of_blk hgs.out HB2.out.1 (Nat.zero_le _) (by simp)
                  exact ⟨blk_all hx.out rfl, below_gr HB2.out.2.1 hgs.out HB2.out.2.2, .inr ⟨mkP s t s2 D O, q3, HTT2.out, HE.out.1, rfl, H31.out.2.fk hfs (by decide) (by decide) (by decide), H30.out.2.2.1⟩⟩
                clear hx hgs
                go_wp2
                exact ret_cu rfl rfl rfl HF.out.1 Try.underlying25 rfl (info25 q3) HF.out.2
              · have eE : (E != 0) = true := by simpa using hE0
                have HN : Hid (∀ p, pP 1000 1000 1000 l = some (p, []) → chk p ≠ 0) := fun p hp => by
                  rw [HTT2.out] at hp
                  cases hp
                  rw [HE.out.1]
                  exact hE0
                clear hE0
                go_wp2_with (with_reducible change wpList _ _ _ ({ dst := some 109, op := _, type := _, pos := _, after := _, guard := _ } :: _) _ _; refine Hid.out ?_)
                show wpList _ _ _ _ _ _
                refine wpList_built rfl 25 _ rfl p00.cells.toArray (by rw [← built25b]; first | (simp; done) | (simp; rfl)) ?_
                go_wp2_with (with_reducible change wpList _ _ _ ({ dst := none, op := Op.store 25 _ _, type := _, pos := _, after := _, guard := _ } :: _) _ _; refine Hid.out ?_)
                show wpList _ _ _ _ _ _
                refine wpList_store_blk rfl 25 (.tmp 2) (.tmp 109) rfl d2 0 25 p00.cells p00.cells rfl rfl HB2.out.1 (Nat.le_refl _) (info25 p00) (PV.one _) ?_
                intro W9 hx hgs
                have HF : Hid (Blk W9 d2 25 p00.cells ∧ DR w l (.returned (.tuple #[.agg p00.cells.toArray, iv 103])) W9) := ⟨blk_all hx.out rfl, below_gr HB2.out.2.1 hgs.out HB2.out.2.2, .inl ⟨rfl, HN.out⟩⟩
                clear hx hgs
                go_wp2
                exact ret_cu rfl rfl rfl HF.out.1 Try.underlying25 rfl (info25 p00) HF.out.2
end Go.Proofs.Ytgdecjacbkicmaa.Oct
