/-
  Layer 16 (token): the chapter's example.
-/
import Derived.Test.YtjeahlfmapacfaaDoorRev
import Derived.Lib.SlBytesConst
namespace Go.Proofs.YtjeahlfmapacfaaDoor.Oct
open Go.RowKit Sha
set_option linter.unusedSimpArgs false
set_option linter.unusedVariables false

def ann : BA := ⟨#[97, 110, 110]⟩
def gA : Gr := ⟨ann, 9, false⟩
theorem key_ann : ∃ T : List UInt8, T.length = 64 ∧ keyG [107] 0 gA = [49, 46, 97, 110, 110, 46, 57, 46] ++ T := by
  refine ⟨hexOf (tagOf [107] (bodyT 1 ann.data.toList 9)), by rw [hexOf_length, tagOf_len], ?_⟩
  unfold keyG txtT sealT
  rw [show (0 + 1 : Nat) = 1 from rfl, show gA.u = ann from rfl, show gA.t = 9 from rfl]
  generalize hexOf (tagOf [107] (bodyT 1 ann.data.toList 9)) = T
  unfold bodyT
  rw [dec_small (u := 1) (by omega), dec_small (u := 9) (by omega)]
  rfl
theorem iss_ann : issE [] ann 0 9 = 0 := by
  unfold issE
  rw [if_neg (by unfold badU ann; decide), if_neg (by omega), if_neg (by simp)]
set_option maxRecDepth 100000 in
set_option maxHeartbeats 1000000 in
theorem lives_is (w : World) (hV : VT w) : Calls Tryd.prog 9 #[] w fun e w' => e = .returned (.bool true) ∧ Below w.heap.size w w' := by
  have HV : Hid (VT w) := hV
  clear hV
  have hcv := Lib.run_convert_bytes_const (P := Tryd.prog) w 22 5 #[.int .u8 107] 1 1 Tryd.underlying22 Tryd.underlying5
  go_enter Tryd.func9, Tryd.ntmps9
  go_wp2_with fail
  generalize hA : w.alloc _ = WA
  obtain ⟨HWA, HIA⟩ : Hid (Below w.heap.size w WA) ∧ Hid (In WA (some ⟨w.heap.size, 0, none⟩) 1 1 [107]) := by
    subst hA
    exact ⟨(Below.refl _ w).alloc (Nat.le_refl _) _, in_const w 5 [107] (1, 2) (by decide)⟩
  clear hcv hA
  refine (newtok_is HIA.out (by omega)).mono ?_
  rintro e W1 ⟨b, m, rfl, hB1, hb1, hm1⟩
  have H1 : Hid (BkAt W1 b m [107] [] ∧ Below w.heap.size w W1 ∧ w.heap.size ≤ m) := ⟨hB1, below_tr HWA.out hb1, Nat.le_trans HWA.out.size hm1⟩
  clear hB1 hb1 hm1 HIA
  go_wp2_with fail
  refine (issue_is H1.out.1 (HV.out.below H1.out.2.1) ann (by decide) 0 9).mono ?_
  intro e W2 hi
  obtain ⟨X, hX, he, hB2, hg2⟩ : ∃ X : BA, X.data.toList = keyG [107] 0 gA ∧ e = .returned (.tuple #[.string X, iv 0]) ∧ BkAt W2 b m [107] [gA] ∧ W1.grownBy W2 (some m) := by
    rcases hi with ⟨h0, _⟩ | ⟨_, X, h1, h2, h3, h4⟩
    · exact absurd iss_ann h0
    · exact ⟨X, h1, h2, h3, h4⟩
  subst he
  clear hi
  obtain ⟨T, hT, hKT⟩ := key_ann
  have hXL := hX
  rw [hKT] at hXL
  have zX : X.size = 72 := by
    have : X.data.toList.length = X.size := rfl
    rw [← this, hXL, List.length_append, hT]
    rfl
  have hat : atF [107] 0 [gA] X.data.toList = some gA := by unfold atF; rw [if_pos hX.symm]
  have e8 : ((X.extract 0 8).toList == [49, 46, 97, 110, 110, 46, 57, 46]) = true := by
    rw [toList_d, ext_data, hXL, List.drop_zero]
    rfl
  have qX : (X.size : Int) = 72 := by omega
  have H2 : Hid (BkAt W2 b m [107] [gA] ∧ Below w.heap.size w W2 ∧ X.size ≤ 20000 ∧ atF [107] 0 [gA] X.data.toList = some gA) := ⟨hB2, below_gr H1.out.2.1 hg2 H1.out.2.2, by omega, hat⟩
  clear hX hXL zX hat hT hKT hB2 hg2
  go_wp2_with fail
  refine (check_tok H2.out.1 (HV.out.below H2.out.2.1) X H2.out.2.2.1 8 _ H2.out.2.2.2 ann 0 rfl rfl).mono ?_
  rintro e W3 ⟨rfl, hb3⟩
  have H3 : Hid (BkAt W3 b m [107] [gA] ∧ Below w.heap.size w W3) := ⟨H2.out.1.below hb3, below_tr H2.out.2.1 hb3⟩
  clear hb3
  go_wp2_with fail
  refine (check_tok H3.out.1 (HV.out.below H3.out.2) X H2.out.2.2.1 9 _ H2.out.2.2.2 e0 162 rfl rfl).mono ?_
  rintro e W4 ⟨rfl, hb4⟩
  have H4 : Hid (Below w.heap.size w W4) := below_tr H3.out.2 hb4
  clear hb4
  have ha : (ann.toList == [97, 110, 110]) = true := by rw [toList_d]; rfl
  generalize ann = an at *
  go_wp2
  go_ret
  exact ⟨rfl, H4.out⟩
#print axioms lives_is
end Go.Proofs.YtjeahlfmapacfaaDoor.Oct
