/-
  Layer 16 (token): Issue, Check, Revoke and New.
-/
import Derived.Test.YtjeahlfmapacfaaDoorFnd
namespace Go.Proofs.YtjeahlfmapacfaaDoor.Oct
open Go.RowKit Sha
set_option linter.unusedSimpArgs false
set_option linter.unusedVariables false

theorem rangeAt_same {w w' : World} {b o : Nat} {cs : List Value} (h : w.rangeAt b o cs) (hs : w'.heap[b]? = w.heap[b]?) : w'.rangeAt b o cs := fun j v hj => (World.cell?_of_block (a := ⟨b, o + j, none⟩) hs).trans (h j v hj)
theorem idx_no {l : List UInt8} (h : (46 : UInt8) ∉ l) : decide (0 ≤ Lib.indexByte l 46) = false := by
  have h1 := Lib.indexByte_ge l 46
  cases hd : decide (0 ≤ Lib.indexByte l 46) with
  | false => rfl
  | true =>
    have h2 : 0 ≤ Lib.indexByte l 46 := by simpa using hd
    obtain ⟨k, hk⟩ : ∃ k : Nat, Lib.indexByte l 46 = k := ⟨(Lib.indexByte l 46).toNat, by omega⟩
    exact absurd (List.mem_of_getElem? (Lib.indexByte_some hk).1) h
theorem idx_yes {l : List UInt8} (h : (46 : UInt8) ∈ l) : decide (0 ≤ Lib.indexByte l 46) = true := by
  have h1 := Lib.indexByte_ge l 46
  cases hd : decide (0 ≤ Lib.indexByte l 46) with
  | true => rfl
  | false =>
    have h2 : ¬ 0 ≤ Lib.indexByte l 46 := by simpa using hd
    obtain ⟨k, hk⟩ := List.mem_iff_getElem?.1 h
    exact absurd hk (Lib.indexByte_none (by omega) k)
/-- is a token not to be given out: for its words -/
def badU (u : BA) (now til : Int) : Prop := u.data.toList = [] ∨ (46 : UInt8) ∈ u.data.toList ∨ now < 0 ∨ 1099511627776 < til
instance (u : BA) (now til : Int) : Decidable (badU u now til) := inferInstanceAs (Decidable (_ ∨ _ ∨ _ ∨ _))
def issE (G : List Gr) (u : BA) (now til : Int) : Int := if badU u now til then 2 else if til ≤ now then 162 else if 256 ≤ G.length then 3 else 0
/-- what Issue leaves -/
def IsP (w : World) (b m : Nat) (S : List UInt8) (G : List Gr) (u : BA) (now til : Int) (e : Ending) (w' : World) : Prop :=
  (issE G u now til ≠ 0 ∧ e = .returned (.tuple #[.string e0, iv (issE G u now til)]) ∧ Below w.heap.size w w') ∨
  (issE G u now til = 0 ∧ ∃ X : BA, X.data.toList = keyG S G.length ⟨u, til.toNat, false⟩ ∧ e = .returned (.tuple #[.string X, iv 0]) ∧ BkAt w' b m S (G ++ [⟨u, til.toNat, false⟩]) ∧ w.grownBy w' (some m))
theorem build64b (u : BA) (t : Int) (W : World) : (Instr.build 64 #[(0, .string u), (1, iv t)]).run Tryd.prog W = .ok (.agg #[.string u, iv t, .bool false]) W := by kernel_rfl
theorem iss2 {G : List Gr} {u : BA} {now til : Int} (h : badU u now til) : issE G u now til = 2 := by unfold issE; rw [if_pos h]
set_option maxRecDepth 100000 in
set_option maxHeartbeats 1000000 in
theorem issue_is {w : World} {b m : Nat} {S : List UInt8} {G : List Gr} (h : BkAt w b m S G) (hV : VT w) (u : BA) (hu : u.size ≤ 15000) (now til : Int) : Calls Tryd.prog 11 #[.pointer (some ⟨b, 0, none⟩), .string u, iv now, iv til] w (IsP w b m S G u now til) := by
  have HB : Hid (BkAt w b m S G ∧ VT w ∧ u.size ≤ 15000) := ⟨h, hV, hu⟩
  have c1 := h.c1.1
  have hl := MP.len h.map Tryd.underlying55 3
  rw [kvs_len] at hl
  have CM : Hid (Calls Tryd.prog 21 #[.pointer (some ⟨b, 0, none⟩)] w fun e w' => e = .returned (.bool true) ∧ w = w') := made_yes h
  have hfew := h.few
  clear h hV hu
  have BAD : ∀ (hb : badU u now til) , Hid (IsP w b m S G u now til (.returned (.tuple #[.string e0, iv 2])) w) := fun hb => .inl ⟨by rw [iss2 hb]; omega, by rw [iss2 hb], Below.refl _ _⟩
  by_cases h1 : u.data.toList = []
  · have HF := BAD (.inl h1)
    have e1 : u.toList.isEmpty = true := by rw [toList_d, h1]; rfl
    clear BAD h1 hfew hl
    go_enter Tryd.func11, Tryd.ntmps11
    go_wp2_with fail
    refine CM.out.mono ?_
    rintro e W ⟨rfl, rfl⟩
    go_wp2
    go_ret2
    exact HF.out
  have e1 : u.toList.isEmpty = false := by rw [toList_d]; cases hh : u.data.toList with | nil => exact absurd hh h1 | cons _ _ => rfl
  have C22 : Hid (∀ V, Calls Tryd.prog 22 #[.string u, .string ⟨#[46]⟩] V fun e w' => e = .returned (.bool (decide (0 ≤ Lib.indexByte u.data.toList 46))) ∧ V = w') := fun V => (con_is u 46 V).mono (fun e W h => ⟨h.1, h.2.symm⟩)
  by_cases h2 : (46 : UInt8) ∈ u.data.toList
  · have HF := BAD (.inr (.inl h2))
    rw [idx_yes h2] at C22
    clear BAD h1 h2 hfew hl
    go_enter Tryd.func11, Tryd.ntmps11
    go_wp2_with fail
    refine CM.out.mono ?_
    rintro e W ⟨rfl, rfl⟩
    go_wp2_with fail
    refine (C22.out w).mono ?_
    rintro e W ⟨rfl, rfl⟩
    go_wp2
    go_ret2
    exact HF.out
  rw [idx_no h2] at C22
  by_cases h3 : now < 0
  · have HF := BAD (.inr (.inr (.inl h3)))
    clear BAD h1 h2 hfew hl
    go_enter Tryd.func11, Tryd.ntmps11
    go_wp2_with fail
    refine CM.out.mono ?_
    rintro e W ⟨rfl, rfl⟩
    go_wp2_with fail
    refine (C22.out w).mono ?_
    rintro e W ⟨rfl, rfl⟩
    go_wp2
    go_ret2
    exact HF.out
  have h3' : 0 ≤ now := by omega
  by_cases h4 : 1099511627776 < til
  · have HF := BAD (.inr (.inr (.inr h4)))
    clear BAD h1 h2 h3 hfew hl
    go_enter Tryd.func11, Tryd.ntmps11
    go_wp2_with fail
    refine CM.out.mono ?_
    rintro e W ⟨rfl, rfl⟩
    go_wp2_with fail
    refine (C22.out w).mono ?_
    rintro e W ⟨rfl, rfl⟩
    go_wp2
    go_ret2
    exact HF.out
  have h4' : til ≤ 1099511627776 := by omega
  have hnb : ¬ badU u now til := by unfold badU; simp only [not_or]; exact ⟨h1, h2, h3, h4⟩
  by_cases h5 : til ≤ now
  · have hi : issE G u now til = 162 := by unfold issE; rw [if_neg hnb, if_pos h5]
    have HF : Hid (IsP w b m S G u now til (.returned (.tuple #[.string e0, iv 162])) w) := .inl ⟨by rw [hi]; omega, by rw [hi], Below.refl _ _⟩
    clear BAD h1 h2 h3 h4 hfew hl hnb hi
    go_enter Tryd.func11, Tryd.ntmps11
    go_wp2_with fail
    refine CM.out.mono ?_
    rintro e W ⟨rfl, rfl⟩
    go_wp2_with fail
    refine (C22.out w).mono ?_
    rintro e W ⟨rfl, rfl⟩
    go_wp2
    go_ret2
    exact HF.out
  have h5' : now < til := by omega
  by_cases h6 : 256 ≤ G.length
  · have hi : issE G u now til = 3 := by unfold issE; rw [if_neg hnb, if_neg h5, if_pos h6]
    have HF : Hid (IsP w b m S G u now til (.returned (.tuple #[.string e0, iv 3])) w) := .inl ⟨by rw [hi]; omega, by rw [hi], Below.refl _ _⟩
    have q6 : (256 : Int) ≤ (G.length : Int) := by omega
    generalize G.length = K at *
    clear BAD h1 h2 h3 h4 h5 h6 hfew hnb hi
    go_enter Tryd.func11, Tryd.ntmps11
    go_wp2_with fail
    refine CM.out.mono ?_
    rintro e W ⟨rfl, rfl⟩
    go_wp2_with fail
    refine (C22.out w).mono ?_
    rintro e W ⟨rfl, rfl⟩
    go_wp2
    go_ret2
    exact HF.out
  have hi : issE G u now til = 0 := by unfold issE; rw [if_neg hnb, if_neg h5, if_neg h6]
  obtain ⟨t, ht⟩ : ∃ t : Nat, til = (t : Int) := ⟨til.toNat, by omega⟩
  subst ht
  obtain ⟨K, hK⟩ : ∃ K, G.length = K := ⟨_, rfl⟩
  rw [hK] at hl
  have q6 : (K : Int) < 256 := by omega
  obtain ⟨X, hX⟩ : ∃ X : BA, X.data.toList = txtT S (K + 1) u.data.toList t := ⟨⟨(txtT S (K + 1) u.data.toList t).toArray⟩, rfl⟩
  have CW : Hid (Calls Tryd.prog 23 #[.pointer (some ⟨b, 0, none⟩), iv ((K : Int) + 1), .string u, iv (t : Int)] w fun e w' => e = .returned (.string X) ∧ Below w.heap.size w w') := by
    obtain ⟨a, n, c, s1, s2, s3⟩ := HB.out.1.sec
    exact write_tok s1 s2 s3 HB.out.2.1 (K + 1) (by omega) u HB.out.2.2 t (by omega) X hX
  have HX : Hid (X.data.toList = txtT S (K + 1) u.data.toList t ∧ G.length = K ∧ K < 256 ∧ issE G u now (t : Int) = 0 ∧ (Gr.mk u t false).ok) := ⟨hX, hK, by omega, hi, HB.out.2.2, by show t ≤ _; omega⟩
  have hbd := build64b u (t : Int)
  clear BAD h1 h2 h3 h4 h5 h6 hfew hnb hi hX hK
  go_enter Tryd.func11, Tryd.ntmps11
  go_wp2_with fail
  refine CM.out.mono ?_
  rintro e W ⟨rfl, rfl⟩
  go_wp2_with fail
  refine (C22.out w).mono ?_
  rintro e W ⟨rfl, rfl⟩
  go_wp2_with fail
  refine CW.out.mono ?_
  rintro e W1 ⟨rfl, hb1⟩
  have H1 : Hid (BkAt W1 b m S G ∧ Below w.heap.size w W1) := ⟨HB.out.1.below hb1, hb1⟩
  have d1 := H1.out.1.c1.1
  obtain ⟨W2, hput, hmp, hgr, hsz⟩ := MP.put (h := X.data.toList) H1.out.1.map Tryd.underlying55 (by
    rw [HX.out.1]
    unfold txtT sealT bodyT
    have z1 := dec_len (K + 1) (by have := HX.out.2.2.1; omega)
    have z2 := dec_len t HX.out.2.2.2.2.2
    have z3 : u.data.toList.length = u.size := rfl
    have z4 := HB.out.2.2
    have z5 := hexOf_length (tagOf S (Lib.decDigits (K + 1) ++ 46 :: (u.data.toList ++ 46 :: Lib.decDigits t)))
    rw [tagOf_len] at z5
    simp only [List.length_append, List.length_cons, z5]
    unfold maxLen
    omega) (.agg #[.string u, iv (t : Int), .bool false])
  have hput2 : (Instr.mapUpdate 55 (.map (some m)) (.string X) (.agg #[.string u, iv (t : Int), .bool false])).run Tryd.prog W1 = .ok () W2 := hput
  have HF : Hid (IsP w b m S G u now (t : Int) (.returned (.tuple #[.string X, iv 0])) W2) := by
    have hnone : atF S 0 G X.data.toList = none := by
      have e : X.data.toList = keyG S K ⟨u, t, false⟩ := HX.out.1
      rw [e]
      exact at_none (by have := HX.out.2.2.1; omega) 0 G (by have := HX.out.2.1; omega)
    have hk0 : khas (kvs S 0 G) X.data.toList = false := by unfold khas; rw [kvs_get, hnone]; rfl
    unfold kput at hmp
    rw [hk0, if_neg (by simp)] at hmp
    refine .inr ⟨HX.out.2.2.2.1, X, ?_, rfl, ?_, grown_tr (gr_of H1.out.2) hgr⟩
    · rw [HX.out.2.1]; exact HX.out.1
    · refine H1.out.1.turned hgr ?_ ?_ ?_
      · rw [kvs_app, Nat.zero_add, HX.out.2.1]
        show MP W2 m (kvs S 0 G ++ [(keyG S K ⟨u, t, false⟩, _)])
        rw [show keyG S K ⟨u, t, false⟩ = X.data.toList from HX.out.1.symm]
        exact hmp
      · rw [List.length_append]; have := HX.out.2.1; have := HX.out.2.2.1; simp; omega
      · intro g hg
        rcases List.mem_append.1 hg with hg | hg
        · exact HB.out.1.ok g hg
        · rw [List.mem_singleton.1 hg]; exact HX.out.2.2.2.2
  clear hb1 hput hmp hgr hsz c1 hl
  go_wp2
  go_ret2
  exact HF.out
#print axioms issue_is
/-- what Check says of what a text stands for -/
def chkE (o : Option Gr) (now : Int) : Int := match o with | none => 160 | some g => showE g now
def chkU (o : Option Gr) (now : Int) : BA := match o with | none => e0 | some g => if showE g now = 0 then g.u else e0
set_option maxRecDepth 100000 in
set_option maxHeartbeats 1000000 in
theorem check_tok {w : World} {b m : Nat} {S : List UInt8} {G : List Gr} (h : BkAt w b m S G) (hV : VT w) (X : BA) (hX : X.size ≤ 20000) (now : Int) (o : Option Gr) (ho : atF S 0 G X.data.toList = o) (U : BA) (E : Int) (hU : chkU o now = U) (hE : chkE o now = E) :
    Calls Tryd.prog 13 #[.pointer (some ⟨b, 0, none⟩), .string X, iv now] w fun e w' => e = .returned (.tuple #[.string U, iv E]) ∧ Below w.heap.size w w' := by
  have CM : Hid (Calls Tryd.prog 21 #[.pointer (some ⟨b, 0, none⟩)] w fun e w' => e = .returned (.bool true) ∧ w = w') := made_yes h
  have CF : Hid (Calls Tryd.prog 28 #[.pointer (some ⟨b, 0, none⟩), .string X, .func (.func 29) #[] #[]] w (FdP w S G X)) := find_tok h hV X hX
  have HO : Hid (atF S 0 G X.data.toList = o) := ho
  have hz := zero64
  clear h hV hX ho
  go_enter Tryd.func13, Tryd.ntmps13
  go_wp2_with fail
  refine CM.out.mono ?_
  rintro e W ⟨rfl, rfl⟩
  go_wp2_with fail
  refine CF.out.mono ?_
  rintro e W1 ⟨hc, hb1⟩
  rw [HO.out] at hc
  obtain ⟨d, hd⟩ : ∃ d, W1.heap.size = d := ⟨_, rfl⟩
  have H1 : Hid (Below w.heap.size w W1 ∧ W1.heap.size = d ∧ w.heap.size ≤ d) := ⟨hb1, hd, by have := hb1.size; omega⟩
  clear hb1
  rcases hc with ⟨hn, rfl⟩ | ⟨g, hg, rfl⟩
  · subst hn
    obtain rfl : U = e0 := hU.symm
    obtain rfl : E = 160 := hE.symm
    clear hU hE
    go_wp2_with (with_reducible change wpList _ _ _ ({ dst := none, op := Op.store 64 _ _, type := _, pos := _, after := _, guard := _ } :: _) _ _; refine Hid.out ?_)
    show wpList _ _ _ _ _ _
    refine wpList_store_blk rfl 64 (.tmp 8) (.tmp 17) rfl d 0 64 [.string e0, iv 0, .bool false] g0.cells rfl rfl (by rw [← H1.out.2.1]; exact Blk.new W1 _ _) (by show 0 + 3 ≤ 3; omega) (size64 _) (Gr.one _) ?_
    intro W2 hx2 hg2
    have H2 : Hid (Below w.heap.size w W2) := below_gr (below_tr H1.out.1 (below_al _ _)) hg2.out H1.out.2.2
    clear hx2 hg2 hd
    go_wp2
    go_ret2
    exact ⟨rfl, H2.out⟩
  · subst hg
    go_wp2_with (with_reducible change wpList _ _ _ ({ dst := none, op := Op.store 64 _ _, type := _, pos := _, after := _, guard := _ } :: _) _ _; refine Hid.out ?_)
    show wpList _ _ _ _ _ _
    refine wpList_store_blk rfl 64 (.tmp 8) (.tmp 17) rfl d 0 64 [.string e0, iv 0, .bool false] g.cells rfl rfl (by rw [← H1.out.2.1]; exact Blk.new W1 _ _) (by show 0 + 3 ≤ 3; omega) (size64 _) (Gr.one _) ?_
    intro W2 hx2 hg2
    have H2 : Hid (Below w.heap.size w W2 ∧ Blk W2 d 64 g.cells) := ⟨below_gr (below_tr H1.out.1 (below_al _ _)) hg2.out H1.out.2.2, blk_all hx2.out rfl⟩
    clear hx2 hg2 hd
    go_wp2_with (with_reducible change wpList _ _ _ ({ dst := some 21, op := _, type := _, pos := _, after := _, guard := _ } :: _) _ _; refine Hid.out ?_)
    show wpList _ _ _ _ _ _
    refine wpList_load_mid rfl 64 (.tmp 8) rfl d 0 rfl g.cells _ H2.out.2.range0 Tryd.underlying64 rfl (size64 _) ?_
    change showE g now = E at hE
    go_wp2_with fail
    refine (state_show g now E hE W2).mono ?_
    rintro e W3 ⟨rfl, hb3⟩
    have H3 : Hid (Below w.heap.size w W3 ∧ Blk W3 d 64 g.cells) := ⟨below_tr H2.out.1 hb3, H2.out.2.below hb3 H2.out.2.lt⟩
    clear hb3
    change (if showE g now = 0 then g.u else e0) = U at hU
    rw [hE] at hU
    by_cases h0 : E = 0
    · rw [if_pos h0] at hU
      have c0 : W3.cell? ⟨d, 0, none⟩ = some (.string U) := by rw [← hU]; exact H3.out.2.cell rfl
      subst h0
      clear hU hE
      go_wp2
      go_ret2
      exact ⟨rfl, H3.out.1⟩
    · rw [if_neg h0] at hU
      subst hU
      have h1 : (E != 0) = true := by simpa using h0
      clear hE h0
      go_wp2
      go_ret2
      exact ⟨rfl, H3.out.1⟩
#print axioms check_tok
end Go.Proofs.YtjeahlfmapacfaaDoor.Oct
