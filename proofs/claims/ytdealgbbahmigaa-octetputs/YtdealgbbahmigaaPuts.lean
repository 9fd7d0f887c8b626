/-
  'OctetPuts': numbers and texts are laid behind bytes as the document says, in memory of their own: the law's walk.
-/
import Derived.Test.YtdealgbbahmigaaRef
import Derived.Deep.RegionHeldLaw
namespace Go.Proofs.Ytdealgbbahmigaa.Oct
open Go.RowKit

/-- what is owned, as a string, in each later world -/
theorem string_later {B : Nat} {w : World} {v : Value} {l : List UInt8} {S : ByteArray} (h : Own 5 B w v l) (hp : 0 < l.length) (hS : S = ⟨l.toArray⟩) : ∀ W, Below w.heap.size w W → (convert 22 9 v).run Try.prog W = .ok (.string S) W := by
  intro W hb
  obtain ⟨g, cap, rfl, _⟩ := h.shape hp
  rw [hS]
  exact string_own Try.underlying22 Try.underlying5 Try.underlying9 (h.below hb (Nat.le_refl _))

theorem refPut_str (a : Option Addr) (len cap : Nat) (l : List UInt8) (n : Int) (S : ByteArray) (w : World) (hin : In w a len cap l) (h0 : 0 ≤ n) (h1 : n ≤ 18446744073709551615) (hl : len ≤ 1000000) (hS : S = ⟨(l ++ enc n.toNat).toArray⟩) :
    Calls Try.prog 11 #[.slice a len cap, .int .u64 n] w fun e w' => ∃ v, e = .returned v ∧ (convert 22 9 v).run Try.prog w' = .ok (.string S) w' ∧ Below w.heap.size w w' := by
  refine (refPut a len cap l n w hin h0 h1 hl).mono ?_
  rintro e w1 ⟨v, rfl, hown, hb⟩
  exact ⟨v, rfl, string_later hown (by have := enc_pos n.toNat; simp; omega) hS _ (Below.refl _ _), hb⟩

theorem refPutText_str (a : Option Addr) (len cap : Nat) (l : List UInt8) (s S : ByteArray) (w : World) (hin : In w a len cap l) (hl : len + s.size ≤ 1000000) (hS : S = ⟨(l ++ enc s.size ++ s.data.toList).toArray⟩) :
    Calls Try.prog 12 #[.slice a len cap, .string s] w fun e w' => ∃ v, e = .returned v ∧ (convert 22 9 v).run Try.prog w' = .ok (.string S) w' ∧ Below w.heap.size w w' := by
  refine (refPutText a len cap l s w hin hl).mono ?_
  rintro e w1 ⟨v, rfl, hown, hb⟩
  exact ⟨v, rfl, string_later hown (by have := enc_pos s.size; simp; omega) hS _ (Below.refl _ _), hb⟩

/-- what Put and PutText leave, in one form -/
def Left (w w' : World) (x : Nat × Nat × Nat) (l : List UInt8) : Prop :=
  w.heap.size ≤ x.1 ∧ x.1 < w'.heap.size ∧ x.2.1 ≤ 1000000 ∧ l.length = x.2.1 ∧ 0 < l.length ∧ w'.ownsRow w.heap.size 5 1 (.slice (some ⟨x.1, 0, none⟩) x.2.1 x.2.2) x.2.1 (U l) ∧ Below w.heap.size w w'

theorem put_left (a : Option Addr) (len cap : Nat) (l : List UInt8) (n : Int) (w : World) (hin : In w a len cap l) (h0 : 0 ≤ n) (h1 : n ≤ 18446744073709551615) (hl : len ≤ 500000) :
    Calls Try.prog 9 #[.slice a len cap, .int .u64 n] w fun e w' => ∃ g N c, e = .returned (.slice (some ⟨g, 0, none⟩) N c) ∧ Left w w' (g, N, c) (l ++ enc n.toNat) := by
  have hlen := hin.1
  have he := enc_le n.toNat (by omega)
  have hp := enc_pos n.toNat
  refine (put a len cap l n w hin h0 h1).mono ?_
  rintro e w1 ⟨rfl, hown, hb⟩
  have e1 : (l ++ enc n.toNat).length = len + (enc n.toNat).length := by rw [List.length_append, hlen]
  refine ⟨_, _, _, rfl, Nat.le_refl _, ?_, by simp only; omega, e1, by omega, ?_, hb⟩
  · obtain ⟨g, c, e2, _, e3, _⟩ := Own.shape hown (by omega)
    simp only [Value.slice.injEq, Option.some.injEq, Addr.mk.injEq] at e2
    rw [← e2.1.1] at e3
    exact e3
  · have h := hown
    unfold Own at h
    rw [e1] at h
    exact h

theorem putText_left (a : Option Addr) (len cap : Nat) (l : List UInt8) (s : ByteArray) (w : World) (hin : In w a len cap l) (hl : len + s.size ≤ 500000) :
    Calls Try.prog 10 #[.slice a len cap, .string s] w fun e w' => ∃ g N c, e = .returned (.slice (some ⟨g, 0, none⟩) N c) ∧ Left w w' (g, N, c) (l ++ enc s.size ++ s.data.toList) := by
  have hlen := hin.1
  have he := enc_le s.size (by omega)
  have hp := enc_pos s.size
  have hsz : s.data.toList.length = s.size := by rw [Array.length_toList]; rfl
  refine (putText a len cap l s w hin (by omega)).mono ?_
  rintro e w1 ⟨g, cp, rfl, hg1, hg2, _, hown, hb⟩
  refine ⟨_, _, _, rfl, hg1, hg2, ?_, rfl, ?_, hown, hb⟩
  · simp only [List.length_append]; omega
  · simp only [List.length_append]; omega

theorem Left.string {w w' : World} {g N c : Nat} {l : List UInt8} {S : ByteArray} (h : Left w w' (g, N, c) l) (hS : S = ⟨l.toArray⟩) : ∀ W, Below w'.heap.size w' W → (convert 22 9 (.slice (some ⟨g, 0, none⟩) N c)).run Try.prog W = .ok (.string S) W := by
  obtain ⟨_, _, _, e, hp, ho, _⟩ := h
  have ho' : Own 5 w.heap.size w' (.slice (some ⟨g, 0, none⟩) N c) l := own_len e ho
  exact string_later ho' hp hS

theorem Left.own {w w' W : World} {g N c : Nat} {l : List UInt8} (h : Left w w' (g, N, c) l) (hb : Below w'.heap.size w' W) : W.ownsRow w.heap.size 5 1 (.slice (some ⟨g, 0, none⟩) N c) N (U l) := by
  obtain ⟨_, _, _, e, _, ho, _⟩ := h
  exact own_size e ((own_len e ho).below hb (Nat.le_refl _))

theorem In.kept {w w' : World} {row : Option Nat} {b len cap : Nat} {l : List UInt8} (h : In w (some ⟨b, 0, none⟩) len cap l) (hg : w.grownBy w' row) (hne : row ≠ some b) : In w' (some ⟨b, 0, none⟩) len cap l := by
  obtain ⟨h1, h2, h3, h4, h5⟩ := h
  refine ⟨h1, h2, h3, h4, fun hp => ?_⟩
  obtain ⟨b', off, e1, e2, e3⟩ := h5 hp
  simp only [Option.some.injEq, Addr.mk.injEq] at e1
  obtain ⟨rfl, rfl, _⟩ := e1
  refine ⟨b, 0, rfl, Nat.lt_of_lt_of_le e2 hg.size, fun i c hc => ?_⟩
  exact hg.cell (e3 i c hc) (fun e => hne e.symm)

theorem own_head {B g cp len : Nat} {w : World} {l r : List UInt8} (hl : l.length = len) (hlen : len ≤ 140737488355328) (h : Own 5 B w (.slice (some ⟨g, 0, none⟩) (len + r.length) cp) (l ++ r)) : In w (some ⟨g, 0, none⟩) len cp l := by
  have hn : (l ++ r).length = len + r.length := by rw [List.length_append, hl]
  rw [← hn] at h
  have hcap : (l ++ r).length ≤ cp := by
    rcases h.2 with h2 | ⟨g', cap', cur, e1, _, _, e3, _⟩
    · simp at h2
    · simp only [Value.slice.injEq] at e1
      rw [e1.2.2]; exact e3
  refine ⟨hl, by omega, hlen, by simp, fun hp => ?_⟩
  have hg : g < w.heap.size := by
    rcases h.2 with h2 | ⟨g', cap', cur, e1, _, hg, _⟩
    · simp at h2
    · simp only [Value.slice.injEq, Option.some.injEq, Addr.mk.injEq] at e1
      rw [e1.1.1]; exact lt_of_block hg
  refine ⟨g, 0, rfl, hg, fun i c hi => ?_⟩
  have hlt : i < l.length := (List.getElem?_eq_some_iff.1 hi).1
  have e1 := World.ownsRow.cellAt h i (by omega)
  rw [Nat.zero_add, e1, U_get _ i (by omega)]
  have e2 := (List.getElem?_eq_some_iff.1 hi).2
  rw [List.getElem_append_left hlt, e2]

set_option maxHeartbeats 1000000 in
theorem puts_small (a : Option Addr) (len cap : Nat) (l : List UInt8) (n : Int) (s : ByteArray) (w : World) (hin : In w a len cap l) (h0 : 0 ≤ n) (h1 : n ≤ 18446744073709551615) (hl : len + s.size ≤ 100000) :
    Calls Try.prog 3 #[.slice a len cap, .int .u64 n, .string s] w fun e w' => e = .returned (.bool true) ∧ Below w.heap.size w w' := by
  obtain ⟨i0, hi, hz0, hz1, hz2⟩ := info_parts info5
  have HIN : Hid (In w a len cap l) := hin
  have HLL : Hid (l.length = len) := hin.1
  clear hin
  have q : (len : Int) + (s.size : Int) ≤ 100000 := by omega
  have H0 : Hid ((w.alloc (.cells #[] 5)).ownsRow w.heap.size 5 1 (.slice (some ⟨w.heap.size, 0, none⟩) 0 0) 0 (U [])) := World.ownsRow_made w #[] 0 (Nat.le_refl _) (by unfold maxLen; omega) rfl
  have HB0 : Hid (Below w.heap.size w (w.alloc (.cells #[] 5))) := (Below.refl _ _).alloc (Nat.le_refl _) _
  go_enter Try.func3, Try.ntmps3
  go_wp2_with (at_builtin; refine wpList_append_in _ rfl (.tmp 18) (.tmp 19) 22 rfl w.heap.size 5 i0 Try.underlying22 hi hz0 hz1 hz2 _ [] 0 rfl rfl H0.out a len cap l rfl (HIN.out.below HB0.out) (by omega) HB0.out.size ?_)
  intro v1 w1 hown1 hg1
  have hb1 := HB0.out.grown hg1 HB0.out.size (by intro b hb; simp [Value.ownBlock] at hb; omega)
  have HO1 : Hid ((w1.alloc (.cells (U [7, 7]).toArray 5)).ownsRow w.heap.size 5 1 v1 len (U l)) := by
    have h := World.ownsRow.alloc (show w1.ownsRow w.heap.size 5 1 v1 l.length (U l) from hown1) (.cells (U [7, 7]).toArray 5)
    rw [HLL.out] at h; exact h
  have HI1 : Hid (In (w1.alloc (.cells (U [7, 7]).toArray 5)) (some ⟨w1.heap.size, 0, none⟩) 2 2 [7, 7]) := in_new w1 5 [7, 7] (by decide)
  clear hown1 hg1
  go_wp2_with (at_builtin; refine wpList_append_in _ rfl (.tmp 20) (.tmp 21) 22 rfl w.heap.size 5 i0 Try.underlying22 hi hz0 hz1 hz2 _ l len HLL.out rfl HO1.out (some ⟨w1.heap.size, 0, none⟩) 2 2 [7, 7] rfl HI1.out (by omega) (by have := hb1.size; simp; omega) ?_)
  intro v2 w2 hown2 hg2
  have hb2 := (hb1.alloc hb1.size (.cells (U [7, 7]).toArray 5)).grown hg2 (by have := hb1.size; simp; omega) (by intro b hb; exact (HO1.out.lt b hb).1)
  obtain ⟨g, cp, rfl, hgB, hg2lt, hcp1, hcp2⟩ := hown2.shape (by simp)
  have hl2 : (l ++ ([7, 7] : List UInt8)).length = len + 2 := by rw [List.length_append, HLL.out]; rfl
  rw [hl2] at hown2 hcp1 ⊢
  have HL2 : Hid ((l ++ ([7, 7] : List UInt8)).length = len + 2) := hl2
  clear hl2
  have HO2 : Hid (Own 5 w.heap.size w2 (.slice (some ⟨g, 0, none⟩) (len + 2) cp) (l ++ [7, 7])) := hown2
  clear hown2 hg2
  have HI2 : Hid (In w2.drew (some ⟨g, 0, none⟩) len cp l) := (own_head HLL.out (by omega) HO2.out).below (Below.refl _ _).drew
  obtain ⟨S1, hS1⟩ : ∃ S1 : ByteArray, S1 = ⟨(l ++ enc n.toNat).toArray⟩ := ⟨_, rfl⟩
  obtain ⟨S2, hS2⟩ : ∃ S2 : ByteArray, S2 = ⟨(l ++ enc s.size ++ s.data.toList).toArray⟩ := ⟨_, rfl⟩
  obtain ⟨S3, hS3⟩ : ∃ S3 : ByteArray, S3 = ⟨(l ++ [7, 7]).toArray⟩ := ⟨_, rfl⟩
  have HS1 : Hid (S1 = ⟨(l ++ enc n.toNat).toArray⟩) := hS1
  have HS2 : Hid (S2 = ⟨(l ++ enc s.size ++ s.data.toList).toArray⟩) := hS2
  have HS3 : Hid (S3 = ⟨(l ++ [7, 7]).toArray⟩) := hS3
  clear hS1 hS2 hS3
  have q2 : (len : Int) ≤ (cp : Int) := by omega
  have hb2D := hb2.drew
  have HB2 : Hid (Below w.heap.size w w2.drew) := hb2D
  have HBW2 : Hid (Below w.heap.size w w2) := hb2
  clear hb2 hb1 hb2D
  go_wp2_with fail
  go_region_held (fun _ => True) (trivial)
    (first
    | (go_at_call 9; refine (put_left _ len cp l n _ HI2.out h0 h1 (by omega)).mono ?_; rintro e w3 ⟨gx, Nx, cx, rfl, hx⟩; have HX : Hid (Left w2.drew w3 (gx, Nx, cx) (l ++ enc n.toNat)) := hx; clear hx)
    | (go_at_call 10; refine (putText_left _ len cp l s _ (HI2.out.below HX.out.2.2.2.2.2.2) (by omega)).mono ?_; rintro e w4 ⟨gy, Ny, cy, rfl, hy⟩; have HY : Hid (Left w3 w4 (gy, Ny, cy) (l ++ enc s.size ++ s.data.toList)) := hy; clear hy))
  have HB24 : Hid (Below w2.heap.size w2 w4) := by
    have e1 : Below w2.heap.size w2 w3 := ((Below.refl _ w2).drew).trans HX.out.2.2.2.2.2.2
    exact e1.trans (HY.out.2.2.2.2.2.2.mono e1.size)
  have HBw4 : Hid (Below w.heap.size w w4) := HBW2.out.trans (HB24.out.mono HBW2.out.size)
  have HI4 : Hid (In w4.drew a len cap l) := HIN.out.below HBw4.out.drew
  have HCX : Hid (∀ W, Below w4.heap.size w4 W → (convert 22 9 (.slice (some ⟨gx, 0, none⟩) Nx cx)).run Try.prog W = .ok (.string S1) W) := fun W hW => HX.out.string HS1.out W (HY.out.2.2.2.2.2.2.trans (hW.mono HY.out.2.2.2.2.2.2.size))
  have HCY : Hid (∀ W, Below w4.heap.size w4 W → (convert 22 9 (.slice (some ⟨gy, 0, none⟩) Ny cy)).run Try.prog W = .ok (.string S2) W) := fun W hW => HY.out.string HS2.out W hW
  have hk4 : (convert 22 9 (.slice (some ⟨gx, 0, none⟩) Nx cx)).run Try.prog w4.drew = .ok (.string S1) w4.drew ∧ (convert 22 9 (.slice (some ⟨gy, 0, none⟩) Ny cy)).run Try.prog w4.drew = .ok (.string S2) w4.drew := ⟨HCX.out _ (Below.refl _ _).drew, HCY.out _ (Below.refl _ _).drew⟩
  go_wp2_with fail
  go_region_held (fun w' => (convert 22 9 (.slice (some ⟨gx, 0, none⟩) Nx cx)).run Try.prog w' = .ok (.string S1) w' ∧ (convert 22 9 (.slice (some ⟨gy, 0, none⟩) Ny cy)).run Try.prog w' = .ok (.string S2) w') (first | exact hk4 | exact hk5 | exact hk6)
    (first
    | (go_at_call 11; refine (refPut_str a len cap l n S1 _ HI4.out h0 h1 (by omega) HS1.out).mono ?_; rintro e w5 ⟨v5, rfl, hc5, hb5⟩; have HB5 : Hid (Below w4.heap.size w4 w5) := ((Below.refl _ w4).drew).trans hb5; have hk5 := And.intro (HCX.out _ HB5.out) (HCY.out _ HB5.out); clear hb5)
    | (go_at_call 12; refine (refPutText_str a len cap l s S2 _ (HIN.out.below (HBw4.out.trans (HB5.out.mono HBw4.out.size))) (by omega) HS2.out).mono ?_; rintro e w6 ⟨v6, rfl, hc6, hb6⟩; have HB6 : Hid (Below w4.heap.size w4 w6) := HB5.out.trans (hb6.mono HB5.out.size); have hk6 := And.intro (HCX.out _ HB6.out) (HCY.out _ HB6.out); clear hb6))
  clear hk4 hk5 hk6 hc5 hc6
  have HOX : Hid (w6.ownsRow w2.drew.heap.size 5 1 (.slice (some ⟨gx, 0, none⟩) Nx cx) Nx (U (l ++ enc n.toNat))) := HX.out.own (HY.out.2.2.2.2.2.2.trans (HB6.out.mono HY.out.2.2.2.2.2.2.size))
  have HOY : Hid (w6.ownsRow w3.heap.size 5 1 (.slice (some ⟨gy, 0, none⟩) Ny cy) Ny (U (l ++ enc s.size ++ s.data.toList))) := HY.out.own HB6.out
  go_wp2_with fail
  refine (spoil_is _ gx Nx cx _ _ HOX.out (by have := HX.out.2.2.1; simp only at this; omega)).mono ?_
  rintro e w7 ⟨rfl, hg7⟩
  have HG7 : Hid (w6.grownBy w7 (some gx)) := hg7
  have HOY7 : Hid (w7.ownsRow w3.heap.size 5 1 (.slice (some ⟨gy, 0, none⟩) Ny cy) Ny (U (l ++ enc s.size ++ s.data.toList))) := HOY.out.kept hg7 (.inr (by
    have e1 := HX.out.2.1; have e2 := HY.out.1; simp only [Value.ownBlock] at *; intro h; simp at h; omega))
  clear hg7
  go_wp2_with fail
  refine (spoil_is _ gy Ny cy _ _ HOY7.out (by have := HY.out.2.2.1; simp only at this; omega)).mono ?_
  rintro e w8 ⟨rfl, hg8⟩
  have HB28 : Hid (Below w2.heap.size w2 w8) := by
    have e6 : Below w2.heap.size w2 w6 := HB24.out.trans (HB6.out.mono HB24.out.size)
    have e7 := e6.grown HG7.out e6.size (by intro k hk; have := HX.out.1; simp at hk; subst hk; exact this)
    refine e7.grown hg8 e7.size (by intro k hk; have h1 := HY.out.1; have h2 := HX.out.2.2.2.2.2.2.size; simp at hk; subst hk; exact Nat.le_trans h2 h1)
  have HBw8 : Hid (Below w.heap.size w w8) := HBW2.out.trans (HB28.out.mono HBW2.out.size)
  have HI8 : Hid (In w8.drew a len cap l) := HIN.out.below HBw8.out.drew
  have HCG : Hid (∀ W, Below w2.heap.size w2 W → (convert 22 9 (.slice (some ⟨g, 0, none⟩) (len + 2) cp)).run Try.prog W = .ok (.string S3) W) := string_later HO2.out (by simp) HS3.out
  have hkG : (convert 22 9 (.slice (some ⟨g, 0, none⟩) (len + 2) cp)).run Try.prog w8.drew = .ok (.string S3) w8.drew := HCG.out _ HB28.out.drew
  clear hg8
  have HE1 : Hid ((w8.alloc (.cells #[] 5)).drew.ownsRow w8.heap.size 5 1 (.slice (some ⟨w8.heap.size, 0, none⟩) 0 0) 0 (U [])) := World.ownsRow_made w8 #[] 0 (Nat.le_refl _) (by unfold maxLen; omega) rfl
  have HE2 : Hid (((w8.alloc (.cells #[] 5)).alloc (.cells (U [7, 7]).toArray 5)).drew.ownsRow w8.heap.size 5 1 (.slice (some ⟨w8.heap.size, 0, none⟩) 0 0) 0 (U [])) := (World.ownsRow_made w8 #[] 0 (Nat.le_refl _) (by unfold maxLen; omega) rfl).alloc _
  have HE3 : Hid (((w8.alloc (.cells (U [7, 7]).toArray 5)).alloc (.cells #[] 5)).drew.ownsRow w8.heap.size 5 1 (.slice (some ⟨w8.heap.size + 1, 0, none⟩) 0 0) 0 (U [])) := by
    have h := World.ownsRow_made (base := w8.heap.size) (e := 5) (size := 1) (w8.alloc (.cells (U [7, 7]).toArray 5)) #[] 0 (by simp) (by unfold maxLen; omega) rfl
    have e : (w8.alloc (.cells (U [7, 7]).toArray 5)).heap.size = w8.heap.size + 1 := by simp
    rw [e] at h
    exact h
  have HF1 : Hid (Below w8.heap.size w8 (w8.alloc (.cells #[] 5)).drew) := ((Below.refl _ _).alloc (Nat.le_refl _) _).drew
  have HF2 : Hid (Below w8.heap.size w8 ((w8.alloc (.cells #[] 5)).alloc (.cells (U [7, 7]).toArray 5)).drew) := (((Below.refl _ _).alloc (Nat.le_refl _) _).alloc (by simp) _).drew
  have HF3 : Hid (Below w8.heap.size w8 ((w8.alloc (.cells (U [7, 7]).toArray 5)).alloc (.cells #[] 5)).drew) := (((Below.refl _ _).alloc (Nat.le_refl _) _).alloc (by simp) _).drew
  have HF4 : Hid (Below w8.heap.size w8 (w8.alloc (.cells (U [7, 7]).toArray 5)).drew) := ((Below.refl _ _).alloc (Nat.le_refl _) _).drew
  have HJ2 : Hid (In ((w8.alloc (.cells #[] 5)).alloc (.cells (U [7, 7]).toArray 5)).drew (some ⟨w8.heap.size + 1, 0, none⟩) 2 2 [7, 7]) := by
    have h := in_new (w8.alloc (.cells #[] 5)) 5 [7, 7] (by decide)
    have e : (w8.alloc (.cells #[] 5)).heap.size = w8.heap.size + 1 := by simp
    rw [e] at h
    exact h.below (Below.refl _ _).drew
  have HJ3 : Hid (In ((w8.alloc (.cells (U [7, 7]).toArray 5)).alloc (.cells #[] 5)).drew (some ⟨w8.heap.size, 0, none⟩) 2 2 [7, 7]) :=
    ((in_new w8 5 [7, 7] (by decide)).below ((Below.refl _ _).alloc (Nat.le_refl _) _)).below (Below.refl _ _).drew
  have HIW : Hid (∀ W, Below w8.heap.size w8 W → In W a len cap l) := fun W hW => HIN.out.below (HBw8.out.trans (hW.mono HBw8.out.size))
  have HCW : Hid (∀ W, Below w8.heap.size w8 W → (convert 22 9 (.slice (some ⟨g, 0, none⟩) (len + 2) cp)).run Try.prog W = .ok (.string S3) W) := fun W hW => HCG.out W (HB28.out.trans (hW.mono HB28.out.size))
  go_wp2_with fail
  go_region_held_law (fun w' => (convert 22 9 (.slice (some ⟨g, 0, none⟩) (len + 2) cp)).run Try.prog w' = .ok (.string S3) w') (first | exact hkG | exact HCW.out _ HF1.out | exact HCW.out _ HF4.out | exact HCW.out _ HF2.out | exact HCW.out _ HF3.out | exact hk12 | exact hk10 | exact hk9a | exact hk9)
    (first
    | (go_at_call 8; refine (lives _).mono ?_; rintro e w12 ⟨rfl, hb12⟩; have HB12 : Hid (Below w8.heap.size w8 w12) := HB10.out.trans (hb12.mono HB10.out.size); have hk12 := HCW.out _ HB12.out)
    | (refine step_append_in _ (by simp [Region.wanted, yielded]) (.tmp 59) (.tmp 60) 22 rfl w8.heap.size 5 i0 Try.underlying22 hi hz0 hz1 hz2 (.slice (some ⟨w8.heap.size, 0, none⟩) 0 0) [] 0 rfl rfl HE1.out a len cap l rfl (HIW.out _ HF1.out) (by omega) HF1.out.size ?_; intro v9 w9 ho9 hg9; have HB9 : Hid (Below w8.heap.size w8 w9) := HF1.out.grown hg9 HF1.out.size (by intro b hb; exact (HE1.out.lt b hb).1); have hk9 := HCW.out _ HB9.out; have HO9 : Hid (w9.ownsRow w8.heap.size 5 1 v9 len (U l)) := own_size HLL.out ho9; have HB9a : Hid (Below w8.heap.size w8 (w9.alloc (.cells (U [7, 7]).toArray 5))) := HB9.out.alloc HB9.out.size _; have hk9a := HCW.out _ HB9a.out; have HO9a : Hid ((w9.alloc (.cells (U [7, 7]).toArray 5)).ownsRow w8.heap.size 5 1 v9 len (U l)) := HO9.out.alloc _; have HJ9a : Hid (In (w9.alloc (.cells (U [7, 7]).toArray 5)) (some ⟨w9.heap.size, 0, none⟩) 2 2 [7, 7]) := in_new w9 5 [7, 7] (by decide); clear ho9 hg9)
    | (refine step_append_in _ (by simp [Region.wanted, yielded]) (.tmp 59) (.tmp 60) 22 rfl w8.heap.size 5 i0 Try.underlying22 hi hz0 hz1 hz2 (.slice (some ⟨w8.heap.size, 0, none⟩) 0 0) [] 0 rfl rfl HE2.out a len cap l rfl (HIW.out _ HF2.out) (by omega) HF2.out.size ?_; intro v9 w9 ho9 hg9; have HB9 : Hid (Below w8.heap.size w8 w9) := HF2.out.grown hg9 HF2.out.size (by intro b hb; exact (HE2.out.lt b hb).1); have hk9 := HCW.out _ HB9.out; have HO9 : Hid (w9.ownsRow w8.heap.size 5 1 v9 len (U l)) := own_size HLL.out ho9; have HJ9b : Hid (In w9 (some ⟨w8.heap.size + 1, 0, none⟩) 2 2 [7, 7]) := HJ2.out.kept hg9 (by simp [Value.ownBlock]); clear ho9 hg9)
    | (refine step_append_in _ (by simp [Region.wanted, yielded]) (.tmp 59) (.tmp 60) 22 rfl w8.heap.size 5 i0 Try.underlying22 hi hz0 hz1 hz2 (.slice (some ⟨w8.heap.size + 1, 0, none⟩) 0 0) [] 0 rfl rfl HE3.out a len cap l rfl (HIW.out _ HF3.out) (by omega) HF3.out.size ?_; intro v9 w9 ho9 hg9; have HB9 : Hid (Below w8.heap.size w8 w9) := HF3.out.grown hg9 HF3.out.size (by intro b hb; exact (HE3.out.lt b hb).1); have hk9 := HCW.out _ HB9.out; have HO9 : Hid (w9.ownsRow w8.heap.size 5 1 v9 len (U l)) := own_size HLL.out ho9; have HJ9c : Hid (In w9 (some ⟨w8.heap.size, 0, none⟩) 2 2 [7, 7]) := HJ3.out.kept hg9 (by simp [Value.ownBlock]); clear ho9 hg9)
    | (refine step_append_in _ (by rfl) (.tmp 61) (.tmp 62) 22 rfl w8.heap.size 5 i0 Try.underlying22 hi hz0 hz1 hz2 _ l len HLL.out rfl HO9a.out (some ⟨w9.heap.size, 0, none⟩) 2 2 [7, 7] rfl HJ9a.out (by omega) HB9a.out.size ?_; intro v10 w10 ho10 hg10; have HB10 : Hid (Below w8.heap.size w8 w10) := HB9a.out.grown hg10 HB9a.out.size (by intro b hb; exact (HO9a.out.lt b hb).1); have hk10 := HCW.out _ HB10.out; have hc10 := string_later (S := S3) ho10 (by simp) HS3.out w10 (Below.refl _ _); clear ho10 hg10)
    | (refine step_append_in _ (by rfl) (.tmp 61) (.tmp 62) 22 rfl w8.heap.size 5 i0 Try.underlying22 hi hz0 hz1 hz2 _ l len HLL.out rfl HO9.out (some ⟨w8.heap.size + 1, 0, none⟩) 2 2 [7, 7] rfl HJ9b.out (by omega) HB9.out.size ?_; intro v10 w10 ho10 hg10; have HB10 : Hid (Below w8.heap.size w8 w10) := HB9.out.grown hg10 HB9.out.size (by intro b hb; exact (HO9.out.lt b hb).1); have hk10 := HCW.out _ HB10.out; have hc10 := string_later (S := S3) ho10 (by simp) HS3.out w10 (Below.refl _ _); clear ho10 hg10)
    | (refine step_append_in _ (by rfl) (.tmp 61) (.tmp 62) 22 rfl w8.heap.size 5 i0 Try.underlying22 hi hz0 hz1 hz2 _ l len HLL.out rfl HO9.out (some ⟨w8.heap.size, 0, none⟩) 2 2 [7, 7] rfl HJ9c.out (by omega) HB9.out.size ?_; intro v10 w10 ho10 hg10; have HB10 : Hid (Below w8.heap.size w8 w10) := HB9.out.grown hg10 HB9.out.size (by intro b hb; exact (HO9.out.lt b hb).1); have hk10 := HCW.out _ HB10.out; have hc10 := string_later (S := S3) ho10 (by simp) HS3.out w10 (Below.refl _ _); clear ho10 hg10))
  all_goals (go_wp2; go_ret; exact ⟨rfl, HBw8.out.trans (HB12.out.mono HBw8.out.size)⟩)

#print axioms puts_small
end Go.Proofs.Ytdealgbbahmigaa.Oct
