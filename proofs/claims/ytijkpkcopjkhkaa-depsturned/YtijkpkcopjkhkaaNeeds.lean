/-
  Layer 12 (deps): Needs and Above.
-/
import Derived.Test.YtijkpkcopjkhkaaNeedsReg
namespace Go.Proofs.Ytijkpkcopjkhkaa.Oct
open Go.RowKit

theorem allS_map {h : Hs} {xs : List Hs} : ∀ {ms : List (Hs × List Hs)}, (ms.map (·.1)).Nodup → (allS (ms.map (fun m => if m.1 = h then (m.1, m.2 ++ xs) else m))).length ≤ (allS ms).length + xs.length
  | [], _ => by simp [allS]
  | m :: ms, hn => by
    simp only [List.map_cons, List.nodup_cons] at hn
    by_cases hc : m.1 = h
    · have e : ms.map (fun m => if m.1 = h then (m.1, m.2 ++ xs) else m) = ms := by
        have : ∀ x ∈ ms, (if x.1 = h then (x.1, x.2 ++ xs) else x) = x := fun x hx => if_neg (fun e => hn.1 (List.mem_map.2 ⟨x, hx, e.trans hc.symm⟩))
        rw [List.map_congr_left this]; simp
      simp only [List.map_cons, e, if_pos hc, allS, List.flatMap_cons, List.length_append]
      omega
    · have ih := allS_map (h := h) (xs := xs) hn.2
      simp only [allS] at ih
      simp only [List.map_cons, if_neg hc, allS, List.flatMap_cons, List.length_append]
      omega
theorem keys_appS (ms : List (Hs × List Hs)) (h : Hs) (xs : List Hs) : (appS ms h xs).map (·.1) = addK (ms.map (·.1)) h := by
  unfold appS addK
  split
  · rw [List.map_map]
    apply List.map_congr_left
    intro m _
    simp only [Function.comp]
    split <;> rfl
  · simp
theorem allS_appS {ms : List (Hs × List Hs)} {h : Hs} {xs : List Hs} (hn : (ms.map (·.1)).Nodup) : (allS (appS ms h xs)).length ≤ (allS ms).length + xs.length := by
  unfold appS
  split
  · exact allS_map hn
  · simp [allS]
theorem keys_downS (l : List It) : ∀ i, ((downS (l.take i)).map (·.1)).Nodup ∧ (allS (downS (l.take i))).length ≤ many (l.take i)
  | 0 => by simp [downS, allS]
  | i + 1 => by
    cases h : l[i]? with
    | none =>
      have : l.take (i + 1) = l.take i := by rw [List.take_add_one, h]; simp
      rw [this]; exact keys_downS l i
    | some x =>
      have ih := keys_downS l i
      rw [downS_take l i x h, many_take l i x h, keys_appS]
      exact ⟨addK_nodup ih.1, Nat.le_trans (allS_appS ih.1) (by omega)⟩
theorem keys_upI {ms : List (Hs × List Hs)} {n : Hs} (hn : (ms.map (·.1)).Nodup) : ∀ (ds : List Hs), ((upI ms n ds).map (·.1)).Nodup ∧ (allS (upI ms n ds)).length ≤ (allS ms).length + ds.length := by
  intro ds
  induction ds generalizing ms with
  | nil => exact ⟨hn, by simp [upI]⟩
  | cons d ds ih =>
    have h1 : ((appS ms d [n]).map (·.1)).Nodup := by rw [keys_appS]; exact addK_nodup hn
    have h2 := ih h1
    have h3 := allS_appS (h := d) (xs := [n]) hn
    refine ⟨h2.1, ?_⟩
    have h4 := h2.2
    show (allS (upI (appS ms d [n]) n ds)).length ≤ _
    simp at h3 ⊢
    omega
theorem keys_upS (l : List It) : ∀ i, ((upS (l.take i)).map (·.1)).Nodup ∧ (allS (upS (l.take i))).length ≤ many (l.take i)
  | 0 => by simp [upS, allS]
  | i + 1 => by
    cases h : l[i]? with
    | none =>
      have : l.take (i + 1) = l.take i := by rw [List.take_add_one, h]; simp
      rw [this]; exact keys_upS l i
    | some x =>
      have ih := keys_upS l i
      have h2 := keys_upI (n := x.name) ih.1 x.deps
      rw [upS_take l i x h, many_take l i x h]
      exact ⟨h2.1, by have := h2.2; have := ih.2; omega⟩
theorem downS_all (l : List It) : (allS (downS l)).length ≤ many l := by
  have := (keys_downS l l.length).2
  rwa [List.take_length] at this
theorem upS_all (l : List It) : (allS (upS l)).length ≤ many l := by
  have := (keys_upS l l.length).2
  rwa [List.take_length] at this
theorem LtH.ne {a b : Hs} (h : LtH a b) : a ≠ b := by rintro rfl; exact LtH.irr a h
theorem rise_nodup {rs : List Hs} (h : rs.Pairwise LtH) : rs.Nodup := List.nodup_iff_pairwise_ne.2 (h.imp LtH.ne)
/-- hashes of a kind, in order -/
def SetP (w : World) (p : Hs → Prop) (e : Ending) (w' : World) : Prop := ∃ a n c rs, e = .returned (.slice a n c) ∧ Hid (HsR w' a n rs ∧ n ≤ 100000 ∧ rs.Pairwise LtH ∧ ∀ x, x ∈ rs ↔ p x) ∧ Hid (Below w.heap.size w w')
theorem SetP.nil (w : World) {p : Hs → Prop} (hp : ∀ x, ¬ p x) {w' : World} (hb : Below w.heap.size w w') : SetP w p (.returned (.slice none 0 0)) w' :=
  ⟨none, 0, 0, [], rfl, ⟨HsR.nil _ _, by omega, List.Pairwise.nil, fun x => ⟨(fun h => by cases h), fun h => absurd h (hp x)⟩⟩, hb⟩
theorem SetP.base {w w1 w2 : World} {p : Hs → Prop} {e : Ending} (h : SetP w1 p e w2) (hb : Below w.heap.size w w1) : SetP w p e w2 := by
  obtain ⟨a, n, c, rs, h1, h2, h3⟩ := h
  exact ⟨a, n, c, rs, h1, h2, hb.trans (h3.out.mono hb.size)⟩
theorem below_undrew {w w' : World} (h : Below w.drew.heap.size w.drew w') : Below w.heap.size w w' := ⟨h.os, h.tape, h.output, h.size, h.block⟩
theorem SetP.is {w w' : World} {p q : Hs → Prop} {e : Ending} (h : SetP w p e w') (hpq : ∀ x, p x ↔ q x) : SetP w q e w' := by
  obtain ⟨a, n, c, rs, h1, h2, h3⟩ := h
  exact ⟨a, n, c, rs, h1, ⟨h2.out.1, h2.out.2.1, h2.out.2.2.1, fun x => (h2.out.2.2.2 x).trans (hpq x)⟩, h3⟩
theorem SetP.bel {w w' : World} {p : Hs → Prop} {e : Ending} (h : SetP w p e w') : Below w.heap.size w w' := by
  obtain ⟨a, n, c, rs, h1, h2, h3⟩ := h
  exact h3.out
theorem reach_set {W : World} {bm B : Nat} {ms : List (Hs × List Hs)} {h : Hs} (hs : StM W bm B ms) (hl : h.length = 32) (hT : (allS ms).length ≤ 90000) :
    Calls Try.prog 30 #[.map (some bm), .agg (U h).toArray] W (SetP W (Reach (getS ms) h)) := by
  obtain ⟨es, hes⟩ := hs
  refine (reach_is W bm B ms h ⟨es, hes⟩ hl hT hes.lens).mono ?_
  rintro e w' ⟨ks, ⟨a, n, c, rs, rfl, H1, H2⟩, H3⟩
  refine ⟨a, n, c, rs, rfl, ⟨H1.out.1, ?_, H1.out.2.2.1, fun x => (H1.out.2.2.2 x).trans (H3.out x)⟩, H2⟩
  have := nodup_le rs (allS ms) (rise_nodup H1.out.2.2.1) (fun x hx => reach_all ((H3.out x).1 ((H1.out.2.2.2 x).1 hx)))
  rw [H1.out.1.1] at this
  omega

set_option maxRecDepth 100000 in
set_option maxHeartbeats 1000000 in
theorem needs_is (w : World) (a : Option Addr) (len cap : Nat) (l : List It) (h : Hs) (hi : Its w a len l) (hl : h.length = 32) (hn : len ≤ 100000) (hm : many l ≤ 90000) :
    Calls Try.prog 14 #[.slice a len cap, .agg (U h).toArray] w (SetP w fun x => len ≤ 256 ∧ Reach (getS (downS l)) h x) := by
  have HI : Hid (Its w a len l ∧ h.length = 32 ∧ len ≤ 100000 ∧ many l ≤ 90000) := ⟨hi, hl, hn, hm⟩
  obtain ⟨W, hW⟩ : ∃ W, w.alloc (.cells (U h).toArray 34) = W := ⟨_, rfl⟩
  have HB : Hid (Below w.heap.size w W ∧ W.rangeAt w.heap.size 0 (U h) ∧ w.heap.size < W.heap.size) := ⟨by rw [← hW]; exact (Below.refl _ w).alloc (Nat.le_refl _) _, by rw [← hW]; exact new34 w h, by rw [← hW]; simp⟩
  have HW : Hid (w.alloc (.cells (U h).toArray 34) = W) := hW
  clear hW hi hl hn hm
  by_cases h256 : 256 < len
  · have hd : decide (256 < len) = true := by simpa using h256
    have HN : Hid (¬ len ≤ 256) := by show ¬ _; omega
    have H23 := isLong_is W a len cap
    rw [hd] at H23
    have H23' : Hid (Calls Try.prog 23 #[.slice a len cap] W fun e w' => e = .returned (.bool true) ∧ W = w') := H23
    clear H23 h256 hd
    go_enter Try.func14, Try.ntmps14
    go_wp2_with fail
    rw [HW.out]
    refine H23'.out.mono ?_
    rintro e w' ⟨rfl, rfl⟩
    go_wp2
    go_ret
    exact SetP.nil w (fun x hx => HN.out hx.1) HB.out.1
  · have hd : decide (256 < len) = false := by simpa using h256
    have HN : Hid (len ≤ 256) := by show _ ≤ _; omega
    have H23 := isLong_is W a len cap
    rw [hd] at H23
    have H23' : Hid (Calls Try.prog 23 #[.slice a len cap] W fun e w' => e = .returned (.bool false) ∧ W = w') := H23
    clear H23 h256 hd
    go_enter Try.func14, Try.ntmps14
    go_wp2_with fail
    rw [HW.out]
    refine H23'.out.mono ?_
    rintro e w' ⟨rfl, rfl⟩
    go_wp2
    refine needs_region (P1 := fun b w1 => StM w1 b W.heap.size (downS l) ∧ Below W.heap.size W w1) (P2 := fun v w2 => SetP W (Reach (getS (downS l)) h) (.returned v) w2) HI.out.2.1 ?_ ?_ ?_ ?_ HB.out.2.1 ?_
    · refine (down_is W.drew a len cap l (HI.out.1.below HB.out.1.drew) HI.out.2.2.1 (by have := HI.out.2.2.2; omega)).mono ?_
      rintro e w1 ⟨b, rfl, H1, H2⟩
      exact ⟨b, rfl, H1.out.1, below_undrew H2.out⟩
    · rintro b w1 ⟨h1, h2⟩
      exact rangeAt_same HB.out.2.1 (h2.block _ HB.out.2.2)
    · rintro b w1 ⟨h1, h2⟩
      refine (reach_set h1 HI.out.2.1 (Nat.le_trans (downS_all l) HI.out.2.2.2)).mono ?_
      intro e w2 hp
      obtain ⟨a2, n2, c2, rs, rfl, H1, H2⟩ := hp
      exact ⟨_, rfl, SetP.base ⟨a2, n2, c2, rs, rfl, H1, H2⟩ h2⟩
    · intro v w2 h1
      exact rangeAt_same HB.out.2.1 (h1.bel.block _ HB.out.2.2)
    · intro b v w2 h1
      obtain ⟨a2, n2, c2, rs, he, H1, H2⟩ := h1
      cases he
      go_wp2
      go_ret
      exact ⟨a2, n2, c2, rs, rfl, ⟨H1.out.1, H1.out.2.1, H1.out.2.2.1, fun x => (H1.out.2.2.2 x).trans ⟨fun h => ⟨HN.out, h⟩, fun h => h.2⟩⟩, HB.out.1.trans (H2.out.mono HB.out.1.size)⟩
#print axioms needs_is
set_option maxRecDepth 100000 in
set_option maxHeartbeats 1000000 in
theorem above_is (w : World) (a : Option Addr) (len cap : Nat) (l : List It) (h : Hs) (hi : Its w a len l) (hl : h.length = 32) (hn : len ≤ 100000) (hm : many l ≤ 90000) :
    Calls Try.prog 16 #[.slice a len cap, .agg (U h).toArray] w (SetP w fun x => len ≤ 256 ∧ Reach (getS (upS l)) h x) := by
  have HI : Hid (Its w a len l ∧ h.length = 32 ∧ len ≤ 100000 ∧ many l ≤ 90000) := ⟨hi, hl, hn, hm⟩
  obtain ⟨W, hW⟩ : ∃ W, w.alloc (.cells (U h).toArray 34) = W := ⟨_, rfl⟩
  have HB : Hid (Below w.heap.size w W ∧ W.rangeAt w.heap.size 0 (U h) ∧ w.heap.size < W.heap.size) := ⟨by rw [← hW]; exact (Below.refl _ w).alloc (Nat.le_refl _) _, by rw [← hW]; exact new34 w h, by rw [← hW]; simp⟩
  have HW : Hid (w.alloc (.cells (U h).toArray 34) = W) := hW
  clear hW hi hl hn hm
  by_cases h256 : 256 < len
  · have hd : decide (256 < len) = true := by simpa using h256
    have HN : Hid (¬ len ≤ 256) := by show ¬ _; omega
    have H23 := isLong_is W a len cap
    rw [hd] at H23
    have H23' : Hid (Calls Try.prog 23 #[.slice a len cap] W fun e w' => e = .returned (.bool true) ∧ W = w') := H23
    clear H23 h256 hd
    go_enter Try.func16, Try.ntmps16
    go_wp2_with fail
    rw [HW.out]
    refine H23'.out.mono ?_
    rintro e w' ⟨rfl, rfl⟩
    go_wp2
    go_ret
    exact SetP.nil w (fun x hx => HN.out hx.1) HB.out.1
  · have hd : decide (256 < len) = false := by simpa using h256
    have HN : Hid (len ≤ 256) := by show _ ≤ _; omega
    have H23 := isLong_is W a len cap
    rw [hd] at H23
    have H23' : Hid (Calls Try.prog 23 #[.slice a len cap] W fun e w' => e = .returned (.bool false) ∧ W = w') := H23
    clear H23 h256 hd
    go_enter Try.func16, Try.ntmps16
    go_wp2_with fail
    rw [HW.out]
    refine H23'.out.mono ?_
    rintro e w' ⟨rfl, rfl⟩
    go_wp2
    refine above_region (P1 := fun b w1 => StM w1 b W.heap.size (upS l) ∧ Below W.heap.size W w1) (P2 := fun v w2 => SetP W (Reach (getS (upS l)) h) (.returned v) w2) HI.out.2.1 ?_ ?_ ?_ ?_ HB.out.2.1 ?_
    · refine (up_is W.drew a len cap l (HI.out.1.below HB.out.1.drew) HI.out.2.2.1 (by have := HI.out.2.2.2; omega)).mono ?_
      rintro e w1 ⟨b, rfl, H1, H2⟩
      exact ⟨b, rfl, H1.out.1, below_undrew H2.out⟩
    · rintro b w1 ⟨h1, h2⟩
      exact rangeAt_same HB.out.2.1 (h2.block _ HB.out.2.2)
    · rintro b w1 ⟨h1, h2⟩
      refine (reach_set h1 HI.out.2.1 (Nat.le_trans (upS_all l) HI.out.2.2.2)).mono ?_
      intro e w2 hp
      obtain ⟨a2, n2, c2, rs, rfl, H1, H2⟩ := hp
      exact ⟨_, rfl, SetP.base ⟨a2, n2, c2, rs, rfl, H1, H2⟩ h2⟩
    · intro v w2 h1
      exact rangeAt_same HB.out.2.1 (h1.bel.block _ HB.out.2.2)
    · intro b v w2 h1
      obtain ⟨a2, n2, c2, rs, he, H1, H2⟩ := h1
      cases he
      go_wp2
      go_ret
      exact ⟨a2, n2, c2, rs, rfl, ⟨H1.out.1, H1.out.2.1, H1.out.2.2.1, fun x => (H1.out.2.2.2 x).trans ⟨fun h => ⟨HN.out, h⟩, fun h => h.2⟩⟩, HB.out.1.trans (H2.out.mono HB.out.1.size)⟩
#print axioms above_is
end Go.Proofs.Ytijkpkcopjkhkaa.Oct
