/-
  Layer 16 (token): Issue, Check, Revoke and New.
  Layer 16 (token): Revoke and New.
  Layer 16 (token): the chapter's example.
  Layer 16 (token): the variables that the rows list; the laws' arguments.
  Layer 16 (token): TokenNobody: a book that no call made gives nothing out.
  Layer 16 (token): TokenTaken.
  Layer 16 (token): TokenNone: its arguments; a byte turned.
-/
import Derived.Test.YtjeahlfmapacfaaDoorPkB
import Derived.Deep.RegionHeld
import Derived.Deep.MidRow
import Derived.Lib.SlBytesConst
import Derived.Lib.LaidTab
import Derived.Stop.LaidErr
import Derived.Deep.Slices
import Derived.ProofKit
import Derived.SizedLaws
import Derived.ChangeSame
import Derived.OpenShut
import Derived.ShutString
import Derived.ChangeOld
/- Layer 16 (token): Issue, Check, Revoke and New. -/
namespace Go.Proofs.YtjeahlfmapacfaaDoor.Oct
open Go.RowKit Sha
set_option linter.unusedSimpArgs false
set_option linter.unusedVariables false

theorem rangeAt_same {w w' : World} {b o : Nat} {cs : List Value} (h : w.rangeAt b o cs) (hs : w'.heap[b]? = w.heap[b]?) : w'.rangeAt b o cs := fun j v hj => (World.cell?_of_block (a := ⟨b, o + j, none⟩) hs).trans (h j v hj)
theorem idx_no {l : List UInt8} (h : (46 : UInt8) ∉ l) : decide (0 ≤ Lib.indexByte l 46) = false := by
  have h1 := Lib.indexByte_ge l 46
  cases hd : decide (0 ≤ Lib.indexByte l 46) with
  | false => rfl
  | true =>
    have h2 : 0 ≤ Lib.indexByte l 46 := by simpa using hd
    obtain ⟨k, hk⟩ : ∃ k : Nat, Lib.indexByte l 46 = k := ⟨(Lib.indexByte l 46).toNat, by omega⟩
    exact absurd (List.mem_of_getElem? (Lib.indexByte_some hk).1) h
theorem idx_yes {l : List UInt8} (h : (46 : UInt8) ∈ l) : decide (0 ≤ Lib.indexByte l 46) = true := by
  have h1 := Lib.indexByte_ge l 46
  cases hd : decide (0 ≤ Lib.indexByte l 46) with
  | true => rfl
  | false =>
    have h2 : ¬ 0 ≤ Lib.indexByte l 46 := by simpa using hd
    obtain ⟨k, hk⟩ := List.mem_iff_getElem?.1 h
    exact absurd hk (Lib.indexByte_none (by omega) k)
/-- is a token not to be given out: for its words -/
def badU (u : BA) (now til : Int) : Prop := u.data.toList = [] ∨ (46 : UInt8) ∈ u.data.toList ∨ now < 0 ∨ 1099511627776 < til
instance (u : BA) (now til : Int) : Decidable (badU u now til) := inferInstanceAs (Decidable (_ ∨ _ ∨ _ ∨ _))
def issE (G : List Gr) (u : BA) (now til : Int) : Int := if badU u now til then 2 else if til ≤ now then 162 else if 256 ≤ G.length then 3 else 0
/-- what Issue leaves -/
def IsP (w : World) (b m : Nat) (S : List UInt8) (G : List Gr) (u : BA) (now til : Int) (e : Ending) (w' : World) : Prop :=
  (issE G u now til ≠ 0 ∧ e = .returned (.tuple #[.string e0, iv (issE G u now til)]) ∧ Below w.heap.size w w') ∨
  (issE G u now til = 0 ∧ ∃ X : BA, X.data.toList = keyG S G.length ⟨u, til.toNat, false⟩ ∧ e = .returned (.tuple #[.string X, iv 0]) ∧ BkAt w' b m S (G ++ [⟨u, til.toNat, false⟩]) ∧ w.grownBy w' (some m))
theorem build64b (u : BA) (t : Int) (W : World) : (Instr.build 64 #[(0, .string u), (1, iv t)]).run Tryd.prog W = .ok (.agg #[.string u, iv t, .bool false]) W := by kernel_rfl
theorem iss2 {G : List Gr} {u : BA} {now til : Int} (h : badU u now til) : issE G u now til = 2 := by unfold issE; rw [if_pos h]
set_option maxRecDepth 100000 in
set_option maxHeartbeats 1000000 in
theorem issue_is {w : World} {b m : Nat} {S : List UInt8} {G : List Gr} (h : BkAt w b m S G) (hV : VT w) (u : BA) (hu : u.size ≤ 15000) (now til : Int) : Calls Tryd.prog 11 #[.pointer (some ⟨b, 0, none⟩), .string u, iv now, iv til] w (IsP w b m S G u now til) := by
  have HB : Hid (BkAt w b m S G ∧ VT w ∧ u.size ≤ 15000) := ⟨h, hV, hu⟩
  have c1 := h.c1.1
  have hl := MP.len h.map Tryd.underlying55 3
  rw [kvs_len] at hl
  have CM : Hid (Calls Tryd.prog 21 #[.pointer (some ⟨b, 0, none⟩)] w fun e w' => e = .returned (.bool true) ∧ w = w') := made_yes h
  have hfew := h.few
  clear h hV hu
  have BAD : ∀ (hb : badU u now til) , Hid (IsP w b m S G u now til (.returned (.tuple #[.string e0, iv 2])) w) := fun hb => .inl ⟨by rw [iss2 hb]; omega, by rw [iss2 hb], Below.refl _ _⟩
  by_cases h1 : u.data.toList = []
  · have HF := BAD (.inl h1)
    have e1 : u.toList.isEmpty = true := by rw [toList_d, h1]; rfl
    clear BAD h1 hfew hl
    go_enter Tryd.func11, Tryd.ntmps11
    go_wp2_with fail
    refine CM.out.mono ?_
    rintro e W ⟨rfl, rfl⟩
    go_wp2
    go_ret2
    exact HF.out
  have e1 : u.toList.isEmpty = false := by rw [toList_d]; cases hh : u.data.toList with | nil => exact absurd hh h1 | cons _ _ => rfl
  have C22 : Hid (∀ V, Calls Tryd.prog 22 #[.string u, .string ⟨#[46]⟩] V fun e w' => e = .returned (.bool (decide (0 ≤ Lib.indexByte u.data.toList 46))) ∧ V = w') := fun V => (con_is u 46 V).mono (fun e W h => ⟨h.1, h.2.symm⟩)
  by_cases h2 : (46 : UInt8) ∈ u.data.toList
  · have HF := BAD (.inr (.inl h2))
    rw [idx_yes h2] at C22
    clear BAD h1 h2 hfew hl
    go_enter Tryd.func11, Tryd.ntmps11
    go_wp2_with fail
    refine CM.out.mono ?_
    rintro e W ⟨rfl, rfl⟩
    go_wp2_with fail
    refine (C22.out w).mono ?_
    rintro e W ⟨rfl, rfl⟩
    go_wp2
    go_ret2
    exact HF.out
  rw [idx_no h2] at C22
  by_cases h3 : now < 0
  · have HF := BAD (.inr (.inr (.inl h3)))
    clear BAD h1 h2 hfew hl
    go_enter Tryd.func11, Tryd.ntmps11
    go_wp2_with fail
    refine CM.out.mono ?_
    rintro e W ⟨rfl, rfl⟩
    go_wp2_with fail
    refine (C22.out w).mono ?_
    rintro e W ⟨rfl, rfl⟩
    go_wp2
    go_ret2
    exact HF.out
  have h3' : 0 ≤ now := by omega
  by_cases h4 : 1099511627776 < til
  · have HF := BAD (.inr (.inr (.inr h4)))
    clear BAD h1 h2 h3 hfew hl
    go_enter Tryd.func11, Tryd.ntmps11
    go_wp2_with fail
    refine CM.out.mono ?_
    rintro e W ⟨rfl, rfl⟩
    go_wp2_with fail
    refine (C22.out w).mono ?_
    rintro e W ⟨rfl, rfl⟩
    go_wp2
    go_ret2
    exact HF.out
  have h4' : til ≤ 1099511627776 := by omega
  have hnb : ¬ badU u now til := by unfold badU; simp only [not_or]; exact ⟨h1, h2, h3, h4⟩
  by_cases h5 : til ≤ now
  · have hi : issE G u now til = 162 := by unfold issE; rw [if_neg hnb, if_pos h5]
    have HF : Hid (IsP w b m S G u now til (.returned (.tuple #[.string e0, iv 162])) w) := .inl ⟨by rw [hi]; omega, by rw [hi], Below.refl _ _⟩
    clear BAD h1 h2 h3 h4 hfew hl hnb hi
    go_enter Tryd.func11, Tryd.ntmps11
    go_wp2_with fail
    refine CM.out.mono ?_
    rintro e W ⟨rfl, rfl⟩
    go_wp2_with fail
    refine (C22.out w).mono ?_
    rintro e W ⟨rfl, rfl⟩
    go_wp2
    go_ret2
    exact HF.out
  have h5' : now < til := by omega
  by_cases h6 : 256 ≤ G.length
  · have hi : issE G u now til = 3 := by unfold issE; rw [if_neg hnb, if_neg h5, if_pos h6]
    have HF : Hid (IsP w b m S G u now til (.returned (.tuple #[.string e0, iv 3])) w) := .inl ⟨by rw [hi]; omega, by rw [hi], Below.refl _ _⟩
    have q6 : (256 : Int) ≤ (G.length : Int) := by omega
    generalize G.length = K at *
    clear BAD h1 h2 h3 h4 h5 h6 hfew hnb hi
    go_enter Tryd.func11, Tryd.ntmps11
    go_wp2_with fail
    refine CM.out.mono ?_
    rintro e W ⟨rfl, rfl⟩
    go_wp2_with fail
    refine (C22.out w).mono ?_
    rintro e W ⟨rfl, rfl⟩
    go_wp2
    go_ret2
    exact HF.out
  have hi : issE G u now til = 0 := by unfold issE; rw [if_neg hnb, if_neg h5, if_neg h6]
  obtain ⟨t, ht⟩ : ∃ t : Nat, til = (t : Int) := ⟨til.toNat, by omega⟩
  subst ht
  obtain ⟨K, hK⟩ : ∃ K, G.length = K := ⟨_, rfl⟩
  rw [hK] at hl
  have q6 : (K : Int) < 256 := by omega
  obtain ⟨X, hX⟩ : ∃ X : BA, X.data.toList = txtT S (K + 1) u.data.toList t := ⟨⟨(txtT S (K + 1) u.data.toList t).toArray⟩, rfl⟩
  have CW : Hid (Calls Tryd.prog 23 #[.pointer (some ⟨b, 0, none⟩), iv ((K : Int) + 1), .string u, iv (t : Int)] w fun e w' => e = .returned (.string X) ∧ Below w.heap.size w w') := by
    obtain ⟨a, n, c, s1, s2, s3⟩ := HB.out.1.sec
    exact write_tok s1 s2 s3 HB.out.2.1 (K + 1) (by omega) u HB.out.2.2 t (by omega) X hX
  have HX : Hid (X.data.toList = txtT S (K + 1) u.data.toList t ∧ G.length = K ∧ K < 256 ∧ issE G u now (t : Int) = 0 ∧ (Gr.mk u t false).ok) := ⟨hX, hK, by omega, hi, HB.out.2.2, by show t ≤ _; omega⟩
  have hbd := build64b u (t : Int)
  clear BAD h1 h2 h3 h4 h5 h6 hfew hnb hi hX hK
  go_enter Tryd.func11, Tryd.ntmps11
  go_wp2_with fail
  refine CM.out.mono ?_
  rintro e W ⟨rfl, rfl⟩
  go_wp2_with fail
  refine (C22.out w).mono ?_
  rintro e W ⟨rfl, rfl⟩
  go_wp2_with fail
  refine CW.out.mono ?_
  rintro e W1 ⟨rfl, hb1⟩
  have H1 : Hid (BkAt W1 b m S G ∧ Below w.heap.size w W1) := ⟨HB.out.1.below hb1, hb1⟩
  have d1 := H1.out.1.c1.1
  obtain ⟨W2, hput, hmp, hgr, hsz⟩ := MP.put (h := X.data.toList) H1.out.1.map Tryd.underlying55 (by
    rw [HX.out.1]
    unfold txtT sealT bodyT
    have z1 := dec_len (K + 1) (by have := HX.out.2.2.1; omega)
    have z2 := dec_len t HX.out.2.2.2.2.2
    have z3 : u.data.toList.length = u.size := rfl
    have z4 := HB.out.2.2
    have z5 := hexOf_length (tagOf S (Lib.decDigits (K + 1) ++ 46 :: (u.data.toList ++ 46 :: Lib.decDigits t)))
    rw [tagOf_len] at z5
    simp only [List.length_append, List.length_cons, z5]
    unfold maxLen
    omega) (.agg #[.string u, iv (t : Int), .bool false])
  have hput2 : (Instr.mapUpdate 55 (.map (some m)) (.string X) (.agg #[.string u, iv (t : Int), .bool false])).run Tryd.prog W1 = .ok () W2 := hput
  have HF : Hid (IsP w b m S G u now (t : Int) (.returned (.tuple #[.string X, iv 0])) W2) := by
    have hnone : atF S 0 G X.data.toList = none := by
      have e : X.data.toList = keyG S K ⟨u, t, false⟩ := HX.out.1
      rw [e]
      exact at_none (by have := HX.out.2.2.1; omega) 0 G (by have := HX.out.2.1; omega)
    have hk0 : khas (kvs S 0 G) X.data.toList = false := by unfold khas; rw [kvs_get, hnone]; rfl
    unfold kput at hmp
    rw [hk0, if_neg (by simp)] at hmp
    refine .inr ⟨HX.out.2.2.2.1, X, ?_, rfl, ?_, grown_tr (gr_of H1.out.2) hgr⟩
    · rw [HX.out.2.1]; exact HX.out.1
    · refine H1.out.1.turned hgr ?_ ?_ ?_
      · rw [kvs_app, Nat.zero_add, HX.out.2.1]
        show MP W2 m (kvs S 0 G ++ [(keyG S K ⟨u, t, false⟩, _)])
        rw [show keyG S K ⟨u, t, false⟩ = X.data.toList from HX.out.1.symm]
        exact hmp
      · rw [List.length_append]; have := HX.out.2.1; have := HX.out.2.2.1; simp; omega
      · intro g hg
        rcases List.mem_append.1 hg with hg | hg
        · exact HB.out.1.ok g hg
        · rw [List.mem_singleton.1 hg]; exact HX.out.2.2.2.2
  clear hb1 hput hmp hgr hsz c1 hl
  go_wp2
  go_ret2
  exact HF.out
/-- what Check says of what a text stands for -/
def chkE (o : Option Gr) (now : Int) : Int := match o with | none => 160 | some g => showE g now
def chkU (o : Option Gr) (now : Int) : BA := match o with | none => e0 | some g => if showE g now = 0 then g.u else e0
set_option maxRecDepth 100000 in
set_option maxHeartbeats 1000000 in
theorem check_tok {w : World} {b m : Nat} {S : List UInt8} {G : List Gr} (h : BkAt w b m S G) (hV : VT w) (X : BA) (hX : X.size ≤ 20000) (now : Int) (o : Option Gr) (ho : atF S 0 G X.data.toList = o) (U : BA) (E : Int) (hU : chkU o now = U) (hE : chkE o now = E) :
    Calls Tryd.prog 13 #[.pointer (some ⟨b, 0, none⟩), .string X, iv now] w fun e w' => e = .returned (.tuple #[.string U, iv E]) ∧ Below w.heap.size w w' := by
  have CM : Hid (Calls Tryd.prog 21 #[.pointer (some ⟨b, 0, none⟩)] w fun e w' => e = .returned (.bool true) ∧ w = w') := made_yes h
  have CF : Hid (Calls Tryd.prog 28 #[.pointer (some ⟨b, 0, none⟩), .string X, .func (.func 29) #[] #[]] w (FdP w S G X)) := find_tok h hV X hX
  have HO : Hid (atF S 0 G X.data.toList = o) := ho
  have hz := zero64
  clear h hV hX ho
  go_enter Tryd.func13, Tryd.ntmps13
  go_wp2_with fail
  refine CM.out.mono ?_
  rintro e W ⟨rfl, rfl⟩
  go_wp2_with fail
  refine CF.out.mono ?_
  rintro e W1 ⟨hc, hb1⟩
  rw [HO.out] at hc
  obtain ⟨d, hd⟩ : ∃ d, W1.heap.size = d := ⟨_, rfl⟩
  have H1 : Hid (Below w.heap.size w W1 ∧ W1.heap.size = d ∧ w.heap.size ≤ d) := ⟨hb1, hd, by have := hb1.size; omega⟩
  clear hb1
  rcases hc with ⟨hn, rfl⟩ | ⟨g, hg, rfl⟩
  · subst hn
    obtain rfl : U = e0 := hU.symm
    obtain rfl : E = 160 := hE.symm
    clear hU hE
    go_wp2_with (with_reducible change wpList _ _ _ ({ dst := none, op := Op.store 64 _ _, type := _, pos := _, after := _, guard := _ } :: _) _ _; refine Hid.out ?_)
    show wpList _ _ _ _ _ _
    refine wpList_store_blk rfl 64 (.tmp 8) (.tmp 17) rfl d 0 64 [.string e0, iv 0, .bool false] g0.cells rfl rfl (by rw [← H1.out.2.1]; exact Blk.new W1 _ _) (by show 0 + 3 ≤ 3; omega) (size64 _) (Gr.one _) ?_
    intro W2 hx2 hg2
    have H2 : Hid (Below w.heap.size w W2) := below_gr (below_tr H1.out.1 (below_al _ _)) hg2.out H1.out.2.2
    clear hx2 hg2 hd
    go_wp2
    go_ret2
    exact ⟨rfl, H2.out⟩
  · subst hg
    go_wp2_with (with_reducible change wpList _ _ _ ({ dst := none, op := Op.store 64 _ _, type := _, pos := _, after := _, guard := _ } :: _) _ _; refine Hid.out ?_)
    show wpList _ _ _ _ _ _
    refine wpList_store_blk rfl 64 (.tmp 8) (.tmp 17) rfl d 0 64 [.string e0, iv 0, .bool false] g.cells rfl rfl (by rw [← H1.out.2.1]; exact Blk.new W1 _ _) (by show 0 + 3 ≤ 3; omega) (size64 _) (Gr.one _) ?_
    intro W2 hx2 hg2
    have H2 : Hid (Below w.heap.size w W2 ∧ Blk W2 d 64 g.cells) := ⟨below_gr (below_tr H1.out.1 (below_al _ _)) hg2.out H1.out.2.2, blk_all hx2.out rfl⟩
    clear hx2 hg2 hd
    go_wp2_with (with_reducible change wpList _ _ _ ({ dst := some 21, op := _, type := _, pos := _, after := _, guard := _ } :: _) _ _; refine Hid.out ?_)
    show wpList _ _ _ _ _ _
    refine wpList_load_mid rfl 64 (.tmp 8) rfl d 0 rfl g.cells _ H2.out.2.range0 Tryd.underlying64 rfl (size64 _) ?_
    change showE g now = E at hE
    go_wp2_with fail
    refine (state_show g now E hE W2).mono ?_
    rintro e W3 ⟨rfl, hb3⟩
    have H3 : Hid (Below w.heap.size w W3 ∧ Blk W3 d 64 g.cells) := ⟨below_tr H2.out.1 hb3, H2.out.2.below hb3 H2.out.2.lt⟩
    clear hb3
    change (if showE g now = 0 then g.u else e0) = U at hU
    rw [hE] at hU
    by_cases h0 : E = 0
    · rw [if_pos h0] at hU
      have c0 : W3.cell? ⟨d, 0, none⟩ = some (.string U) := by rw [← hU]; exact H3.out.2.cell rfl
      subst h0
      clear hU hE
      go_wp2
      go_ret2
      exact ⟨rfl, H3.out.1⟩
    · rw [if_neg h0] at hU
      subst hU
      have h1 : (E != 0) = true := by simpa using h0
      clear hE h0
      go_wp2
      go_ret2
      exact ⟨rfl, H3.out.1⟩
end Go.Proofs.YtjeahlfmapacfaaDoor.Oct

/- Layer 16 (token): Revoke and New. -/
namespace Go.Proofs.YtjeahlfmapacfaaDoor.Oct
open Go.RowKit Sha
set_option linter.unusedSimpArgs false
set_option linter.unusedVariables false

theorem drew_one (A : World) (r : Option Nat) : A.grownBy A.drew r := ⟨rfl, rfl, rfl, Nat.le_refl _, fun _ _ _ => rfl⟩
set_option maxRecDepth 100000 in
set_option maxHeartbeats 4000000 in
theorem rv9 {Q : Exit → Act → World → Prop} {x2 x3 x4 x6 x7 x8 x9 x10 x11 x12 x13 x14 x15 x16 x17 x18 x19 x20 x21 x22 x23 x24 x25 x26 x27 x28 x29 : Value} {ds : List Deferred} {A : World} {b m d : Nat} {X : BA} {cs : List Value} {Qm : World → Prop}
    (HN : Hid (b ≠ m ∧ d ≠ m ∧ d < A.heap.size ∧ True)) (c1 : A.cell? ⟨b, 1, none⟩ = some (.map (some m))) (HR : Hid (A.rangeAt d 0 cs)) (HI : Hid ((Tryd.prog.info? 64).map (·.size) = some cs.length)) (HU : Hid (∀ V, Below A.heap.size A V → ∃ V2, (Instr.mapUpdate 55 (.map (some m)) (.string X) (.agg cs.toArray)).run Tryd.prog V = .ok () V2 ∧ V.grownBy V2 (some m) ∧ Qm V2))
    (hQ : ∀ V1, A.grownBy V1 (some m) → Qm V1 → Q .normal { tmps := #[.pointer (some ⟨b, 0, none⟩), .string X, x2, x3, x4, .pointer (some ⟨d, 0, none⟩), x6, x7, x8, x9, x10, x11, x12, x13, x14, x15, x16, x17, x18, x19, x20, x21, x22, x23, .pointer (some ⟨b, 0, none⟩), .pointer (some ⟨b, 0, none⟩), .pointer (some ⟨b, 1, none⟩), .map (some m), .string X, .agg cs.toArray], defers := ds } V1) :
    (Code.region 9 #[{ dst := some 24, op := Op.move (Operand.tmp 0), type := 26, pos := "token.go:69", after := #[], guard := none }, { dst := some 25, op := Op.nilCheck (Operand.tmp 24), type := 0, pos := "token.go:69", after := #[{ on := 0, ground := Ground.data }], guard := none }, { dst := some 26, op := Op.fieldAddr 57 (Operand.tmp 25) 1, type := 0, pos := "token.go:69", after := #[{ on := 1, ground := Ground.data }], guard := none }, { dst := some 27, op := Op.load 55 (Operand.tmp 26), type := 55, pos := "token.go:69", after := #[{ on := 2, ground := Ground.data }], guard := none }, { dst := some 28, op := Op.move (Operand.tmp 1), type := 9, pos := "token.go:69", after := #[], guard := none }, { dst := some 29, op := Op.load 64 (Operand.tmp 5), type := 64, pos := "token.go:69", after := #[], guard := none }, { dst := none, op := Op.mapUpdate 55 (Operand.tmp 27) (Operand.tmp 28) (Operand.tmp 29), type := 0, pos := "token.go:69", after := #[{ on := 3, ground := Ground.data }, { on := 4, ground := Ground.data }, { on := 5, ground := Ground.data }, { on := 0, ground := Ground.phase }, { on := 1, ground := Ground.phase }, { on := 2, ground := Ground.phase }, { on := 3, ground := Ground.phase }, { on := 4, ground := Ground.phase }, { on := 5, ground := Ground.phase }], guard := none }] true).wp Tryd.prog Q { tmps := #[.pointer (some ⟨b, 0, none⟩), .string X, x2, x3, x4, .pointer (some ⟨d, 0, none⟩), x6, x7, x8, x9, x10, x11, x12, x13, x14, x15, x16, x17, x18, x19, x20, x21, x22, x23, x24, x25, x26, x27, x28, x29], defers := ds } A := by
  refine Code.wp_mono (Q := fun x a' w' => match x with | .normal => Q .normal a' w' | _ => False) (by intro x a' w' h; cases x <;> first | exact h | exact h.elim) ?_
  refine wp_region_held (S := fun V => A.grownBy V (some m)) (by kernel_rfl) ?_
  have hS0 : Hid (A.grownBy A.drew (some m)) := drew_one A (some m)
  change wpAnyH Tryd.prog .any _ _ (fun V => A.grownBy V (some m)) 7 (Array.replicate 7 false) _ A.drew
  obtain ⟨V0, hV0⟩ : ∃ V0, A.drew = V0 := ⟨_, rfl⟩
  rw [hV0]
  rw [hV0] at hS0
  have hO0 : Hid (Below A.heap.size A V0) := by rw [← hV0]; exact below_drew0 A
  clear hV0
  refine wpAnyH_take (i := 0) (oi := { dst := some 24, op := Op.move (Operand.tmp 0), type := 26, pos := "token.go:69", after := #[], guard := none }) (v := .pointer (some ⟨b, 0, none⟩)) rfl (by kernel_rfl) (by kernel_rfl) (by kernel_rfl) (fun _ _ _ h => h.elim) (Or.inl ⟨by rfl, ?y1⟩) hS0.out ?_
  case y1 =>
    intro V hV
    go_simp
  simp only [Act.put, List.setIfInBounds_toArray, List.set_cons_zero, List.set_cons_succ]
  refine wpAnyH_take (i := 1) (oi := { dst := some 25, op := Op.nilCheck (Operand.tmp 24), type := 0, pos := "token.go:69", after := #[{ on := 0, ground := Ground.data }], guard := none }) (v := .pointer (some ⟨b, 0, none⟩)) rfl (by kernel_rfl) (by kernel_rfl) (by kernel_rfl) (fun _ _ _ h => h.elim) (Or.inl ⟨by rfl, ?y2⟩) hS0.out ?_
  case y2 =>
    intro V hV
    go_simp
  simp only [Act.put, List.setIfInBounds_toArray, List.set_cons_zero, List.set_cons_succ]
  refine wpAnyH_take (i := 2) (oi := { dst := some 26, op := Op.fieldAddr 57 (Operand.tmp 25) 1, type := 0, pos := "token.go:69", after := #[{ on := 1, ground := Ground.data }], guard := none }) (v := .pointer (some ⟨b, 1, none⟩)) rfl (by kernel_rfl) (by kernel_rfl) (by kernel_rfl) (fun _ _ _ h => h.elim) (Or.inl ⟨by rfl, ?y3⟩) hS0.out ?_
  case y3 =>
    intro V hV
    go_simp
  simp only [Act.put, List.setIfInBounds_toArray, List.set_cons_zero, List.set_cons_succ]
  refine wpAnyH_take (i := 3) (oi := { dst := some 27, op := Op.load 55 (Operand.tmp 26), type := 55, pos := "token.go:69", after := #[{ on := 2, ground := Ground.data }], guard := none }) (v := .map (some m)) rfl (by kernel_rfl) (by kernel_rfl) (by kernel_rfl) (fun _ _ _ h => h.elim) (Or.inl ⟨by rfl, ?y4⟩) hS0.out ?_
  case y4 =>
    intro V hV
    have hc : V.cell? ⟨b, 1, none⟩ = some (.map (some m)) := (show A.grownBy V (some m) from hV).cell (a := ⟨b, 1, none⟩) c1 (by simpa using HN.out.1)
    go_simp
  simp only [Act.put, List.setIfInBounds_toArray, List.set_cons_zero, List.set_cons_succ]
  refine wpAnyH_take (i := 4) (oi := { dst := some 28, op := Op.move (Operand.tmp 1), type := 9, pos := "token.go:69", after := #[], guard := none }) (v := .string X) rfl (by kernel_rfl) (by kernel_rfl) (by kernel_rfl) (fun _ _ _ h => h.elim) (Or.inl ⟨by rfl, ?y5⟩) hS0.out ?_
  case y5 =>
    intro V hV
    go_simp
  simp only [Act.put, List.setIfInBounds_toArray, List.set_cons_zero, List.set_cons_succ]
  refine wpAnyH_take (i := 5) (oi := { dst := some 29, op := Op.load 64 (Operand.tmp 5), type := 64, pos := "token.go:69", after := #[], guard := none }) (v := .agg cs.toArray) rfl (by kernel_rfl) (by kernel_rfl) (by kernel_rfl) (fun _ _ _ h => h.elim) (yieldsIf_load_mid (by rfl) _ _ rfl _ _ rfl (cs) _ (fun V hV => rangeAt_same (HR.out) ((show A.grownBy V (some m) from hV).block _ (HN.out.2.2.1) (by simpa using HN.out.2.1))) Tryd.underlying64 rfl (HI.out)) hS0.out ?_
  simp only [Act.put, List.setIfInBounds_toArray, List.set_cons_zero, List.set_cons_succ]
  refine wpAnyH_ready (rs := [6]) (by kernel_rfl) (by simp) (AllReadyH.cons (i := 6) (o := { dst := none, op := Op.mapUpdate 55 (Operand.tmp 27) (Operand.tmp 28) (Operand.tmp 29), type := 0, pos := "token.go:69", after := #[{ on := 3, ground := Ground.data }, { on := 4, ground := Ground.data }, { on := 5, ground := Ground.data }, { on := 0, ground := Ground.phase }, { on := 1, ground := Ground.phase }, { on := 2, ground := Ground.phase }, { on := 3, ground := Ground.phase }, { on := 4, ground := Ground.phase }, { on := 5, ground := Ground.phase }], guard := none }) rfl ?_ AllReadyH.nil)
  · intro K1 hK1
    rw [if_pos (by rfl)]
    obtain ⟨V1, hrun1, HV1⟩ := HU.out V0 hO0.out
    go_wp2
    clear hrun1
    have hS1 : Hid (A.grownBy V1 (some m)) := grown_tr hS0.out HV1.1
    refine hK1.out _ _ hS1.out ?_
    clear hK1
    intro _
    try simp only [Act.put, List.setIfInBounds_toArray, List.set_cons_zero, List.set_cons_succ]
    refine wpAnyH_done (by kernel_rfl) ?_ _
    exact hQ V1 hS1.out HV1.2
/-- what Revoke says -/
def revE (o : Option Gr) : Int := match o with | none => 160 | some g => if g.bk = true then 161 else 0
def RvP (w : World) (b m : Nat) (S : List UInt8) (G : List Gr) (X : BA) (e : Ending) (w' : World) : Prop :=
  e = .returned (iv (revE (atF S 0 G X.data.toList))) ∧ ((revE (atF S 0 G X.data.toList) ≠ 0 ∧ Below w.heap.size w w') ∨ (revE (atF S 0 G X.data.toList) = 0 ∧ BkAt w' b m S (revF S 0 G X.data.toList) ∧ w.grownBy w' (some m)))
set_option maxRecDepth 100000 in
set_option maxHeartbeats 1000000 in
theorem revoke_is {w : World} {b m : Nat} {S : List UInt8} {G : List Gr} (h : BkAt w b m S G) (hV : VT w) (X : BA) (hX : X.size ≤ 20000) : Calls Tryd.prog 16 #[.pointer (some ⟨b, 0, none⟩), .string X] w (RvP w b m S G X) := by
  have CM : Hid (Calls Tryd.prog 21 #[.pointer (some ⟨b, 0, none⟩)] w fun e w' => e = .returned (.bool true) ∧ w = w') := made_yes h
  have CF : Hid (Calls Tryd.prog 28 #[.pointer (some ⟨b, 0, none⟩), .string X, .func (.func 29) #[] #[]] w (FdP w S G X)) := find_tok h hV X hX
  have HB : Hid (BkAt w b m S G ∧ X.size ≤ 20000) := ⟨h, hX⟩
  have hz := zero64
  clear h hV hX
  go_enter Tryd.func16, Tryd.ntmps16
  go_wp2_with fail
  refine CM.out.mono ?_
  rintro e W ⟨rfl, rfl⟩
  go_wp2_with fail
  refine CF.out.mono ?_
  rintro e W1 ⟨hc, hb1⟩
  obtain ⟨d, hd⟩ : ∃ d, W1.heap.size = d := ⟨_, rfl⟩
  have H1 : Hid (Below w.heap.size w W1 ∧ W1.heap.size = d ∧ w.heap.size ≤ d ∧ BkAt W1 b m S G) := ⟨hb1, hd, by have := hb1.size; omega, HB.out.1.below hb1⟩
  clear hb1
  rcases hc with ⟨hn, rfl⟩ | ⟨g, hg, rfl⟩
  · have HF : Hid (revE (atF S 0 G X.data.toList) = 160) := by show _ = _; rw [hn]; rfl
    clear hn
    go_wp2_with (with_reducible change wpList _ _ _ ({ dst := none, op := Op.store 64 _ _, type := _, pos := _, after := _, guard := _ } :: _) _ _; refine Hid.out ?_)
    show wpList _ _ _ _ _ _
    refine wpList_store_blk rfl 64 (.tmp 5) (.tmp 14) rfl d 0 64 [.string e0, iv 0, .bool false] g0.cells rfl rfl (by rw [← H1.out.2.1]; exact Blk.new W1 _ _) (by show 0 + 3 ≤ 3; omega) (size64 _) (Gr.one _) ?_
    intro W2 hx2 hg2
    have H2 : Hid (Below w.heap.size w W2) := below_gr (below_tr H1.out.1 (below_al _ _)) hg2.out H1.out.2.2.1
    clear hx2 hg2 hd
    go_wp2
    go_ret
    exact ⟨by rw [HF.out]; rfl, .inl ⟨by rw [HF.out]; omega, H2.out⟩⟩
  · have HG : Hid (atF S 0 G X.data.toList = some g) := hg
    clear hg
    go_wp2_with (with_reducible change wpList _ _ _ ({ dst := none, op := Op.store 64 _ _, type := _, pos := _, after := _, guard := _ } :: _) _ _; refine Hid.out ?_)
    show wpList _ _ _ _ _ _
    refine wpList_store_blk rfl 64 (.tmp 5) (.tmp 14) rfl d 0 64 [.string e0, iv 0, .bool false] g.cells rfl rfl (by rw [← H1.out.2.1]; exact Blk.new W1 _ _) (by show 0 + 3 ≤ 3; omega) (size64 _) (Gr.one _) ?_
    intro W2 hx2 hg2
    have H2 : Hid (Below w.heap.size w W2 ∧ Blk W2 d 64 g.cells ∧ BkAt W2 b m S G) := ⟨below_gr (below_tr H1.out.1 (below_al _ _)) hg2.out H1.out.2.2.1, blk_all hx2.out rfl, H1.out.2.2.2.below (below_gr (below_al _ _) hg2.out (by have := H1.out.2.1; omega))⟩
    clear hx2 hg2 hd
    go_wp2_with (with_reducible change wpList _ _ _ ({ dst := some 18, op := _, type := _, pos := _, after := _, guard := _ } :: _) _ _; refine Hid.out ?_)
    show wpList _ _ _ _ _ _
    refine wpList_load_mid rfl 64 (.tmp 5) rfl d 0 rfl g.cells _ H2.out.2.1.range0 Tryd.underlying64 rfl (size64 _) ?_
    obtain ⟨u, t, bk⟩ := g
    cases bk with
    | true =>
      have HF : Hid (revE (atF S 0 G X.data.toList) = 161) := by show _ = _; rw [HG.out]; rfl
      go_wp2_with fail
      refine (state_back ⟨u, t, true⟩ 161 rfl W2).mono ?_
      rintro e W3 ⟨rfl, hb3⟩
      have H3 : Hid (Below w.heap.size w W3) := below_tr H2.out.1 hb3
      clear hb3
      go_wp2
      go_ret
      exact ⟨by rw [HF.out]; rfl, .inl ⟨by rw [HF.out]; omega, H3.out⟩⟩
    | false =>
      have HF : Hid (revE (atF S 0 G X.data.toList) = 0) := by show _ = _; rw [HG.out]; rfl
      go_wp2_with fail
      refine (state_back ⟨u, t, false⟩ 0 rfl W2).mono ?_
      rintro e W3 ⟨rfl, hb3⟩
      have hK3 : Blk W3 d 64 [.string u, iv (t : Int), .bool false] := H2.out.2.1.below hb3 H2.out.2.1.lt
      obtain ⟨W4, hW4⟩ : ∃ W4, W3.setCell ⟨d, 2, none⟩ (.bool true) = W4 := ⟨_, rfl⟩
      have hK4 : Blk W4 d 64 [.string u, iv (t : Int), .bool true] := by rw [← hW4]; exact hK3.set 2 _
      have hg4 : W3.grownBy W4 (some d) := by rw [← hW4]; exact grown_setCell _ _ _ _
      have H4 : Hid (Below w.heap.size w W4 ∧ Blk W4 d 64 [.string u, iv (t : Int), .bool true] ∧ BkAt W4 b m S G) := by
        have hb4 : Below w.heap.size w W4 := below_gr (below_tr H2.out.1 hb3) hg4 H1.out.2.2.1
        exact ⟨hb4, hK4, HB.out.1.below hb4⟩
      have cfr : W3.frozen? ⟨d, 2, none⟩ = false := hK3.free 2
      have cst : W3.cell? ⟨d, 2, none⟩ = some (.bool false) := hK3.cell rfl
      have c1 : W4.cell? ⟨b, 1, none⟩ = some (.map (some m)) := H4.out.2.2.c1.1
      clear hb3 hK3 hK4 hg4
      go_wp2_with fail
      refine rv9 (cs := [.string u, iv (t : Int), .bool true]) (Qm := fun V => BkAt V b m S (revF S 0 G X.data.toList)) ?_ c1 H4.out.2.1.range0 (size64 ⟨u, t, true⟩) ?_ ?_
      · refine ⟨fun e => ?_, fun e => ?_, H4.out.2.1.lt, trivial⟩
        · subst e; exact mp_not_cells H4.out.2.2.map c1
        · subst e; exact mp_not_cells H4.out.2.2.map (H4.out.2.1.cell (i := 0) rfl)
      · intro V hV
        have hBk := H4.out.2.2.below hV
        have hkx : (atF S 0 G X.data.toList).isSome = true := by rw [HG.out]; rfl
        have hkh : khas (kvs S 0 G) X.data.toList = true := by unfold khas; rw [kvs_get, HG.out]; rfl
        obtain ⟨V2, hrun, hmp, hgr, _⟩ := MP.put (h := X.data.toList) hBk.map Tryd.underlying55 (by show X.size ≤ maxLen; have := HB.out.2; unfold maxLen; omega) (.agg #[.string u, iv (t : Int), .bool true])
        refine ⟨V2, hrun, hgr, hBk.turned hgr ?_ (by rw [rev_len]; exact hBk.few) (rev_ok 0 G hBk.ok)⟩
        unfold kput at hmp
        rw [if_pos hkh] at hmp
        have e := kvs_rev (S := S) (h := X.data.toList) (g := ⟨u, t, false⟩) 0 G (by have := hBk.few; omega) HG.out
        rw [← e]
        exact hmp
      · intro V1 hV1 hQ
        have H5 : Hid (BkAt V1 b m S (revF S 0 G X.data.toList) ∧ w.grownBy V1 (some m)) := ⟨hQ, grown_tr (gr_of H4.out.1) hV1⟩
        clear hV1 hQ c1 hW4 cfr cst
        go_wp2
        go_ret
        exact ⟨by rw [HF.out]; rfl, .inr ⟨HF.out, H5.out.1, H5.out.2⟩⟩
theorem sl_nil0 (W : World) : (binOp .eql 22 (.slice none 0 0) (.slice none 0 0)).run Tryd.prog W = .ok (.bool true) W := by kernel_rfl
theorem sl_nil1 (x : Addr) (n c : Nat) (W : World) : (binOp .eql 22 (.slice (some x) n c) (.slice none 0 0)).run Tryd.prog W = .ok (.bool false) W := by kernel_rfl
set_option maxRecDepth 100000 in
theorem clone_nil (w : World) : Calls Tryd.prog 20 #[.slice none 0 0] w fun e w' => e = .returned (.slice none 0 0) ∧ w = w' := by
  have hn := sl_nil0
  go_enter Tryd.func20, Tryd.ntmps20
  go_wp2
  go_ret
  exact ⟨rfl, rfl⟩
set_option maxRecDepth 100000 in
set_option maxHeartbeats 1000000 in
theorem clone_in {w : World} {x : Addr} {n c : Nat} {S : List UInt8} (h : In w (some x) n c S) : Calls Tryd.prog 20 #[.slice (some x) n c] w fun e w' => ∃ v, e = .returned v ∧ Hid (Own 5 w.heap.size w' v S) ∧ Below w.heap.size w w' := by
  obtain ⟨i0, hi, hz0, hz1, hz2⟩ := info_parts info5
  obtain ⟨A, hA⟩ : ∃ A, w.alloc (.cells #[] 5) = A := ⟨_, rfl⟩
  have hb : Below w.heap.size w A := by rw [← hA]; exact below_al _ _
  have HH : Hid (A.ownsRow w.heap.size 5 1 (.slice (some ⟨w.heap.size, 0, none⟩) 0 0) 0 (U []) ∧ In A (some x) n c S ∧ Below w.heap.size w A ∧ 0 + n ≤ 140737488355328) := by
    refine ⟨?_, h.below hb, hb, by have := h.2.2.1; omega⟩
    rw [← hA]
    exact ⟨rfl, .inr ⟨w.heap.size, 0, #[], rfl, Nat.le_refl _, heap_alloc_new _ _, by simp [U], by unfold maxLen; omega, by simp [U], by simp [U]⟩⟩
  have hn := sl_nil1 x n c
  clear hb h
  go_enter Tryd.func20, Tryd.ntmps20
  go_wp2_with (with_reducible change wpList _ _ _ ({ dst := some 7, op := _, type := _, pos := _, after := _, guard := _ } :: _) _ _; refine Hid.out ?_)
  show wpList _ _ _ _ _ _
  refine wpList_append_in _ rfl (.tmp 5) (.tmp 6) 22 rfl w.heap.size 5 i0 Tryd.underlying22 hi hz0 hz1 hz2 (.slice (some ⟨w.heap.size, 0, none⟩) 0 0) [] 0 rfl rfl HH.out.1 (some x) n c S rfl HH.out.2.1 HH.out.2.2.2 HH.out.2.2.1.size ?_
  intro v5 W5 ho5 hg5
  have HF : Hid (Own 5 w.heap.size W5 v5 S ∧ Below w.heap.size w W5) := ⟨ho5, HH.out.2.2.1.grown hg5 HH.out.2.2.1.size (fun j hj => by cases hj; exact Nat.le_refl _)⟩
  clear ho5 hg5
  go_wp2
  go_ret
  exact ⟨_, rfl, HF.out.1, HF.out.2⟩
theorem mk55 (W : World) : (Instr.makeMap 55 none).run Tryd.prog W = .ok (.map (some W.heap.size)) (W.alloc (.map #[] 0)) := by kernel_rfl
theorem build57 (a : Option Addr) (n c m : Nat) (W : World) : (Instr.build 57 #[(0, .slice a n c), (1, .map (some m))]).run Tryd.prog W = .ok (.agg #[.slice a n c, .map (some m)]) W := by kernel_rfl
def NwP (w : World) (S : List UInt8) (e : Ending) (w' : World) : Prop := ∃ b m, e = .returned (.pointer (some ⟨b, 0, none⟩)) ∧ BkAt w' b m S [] ∧ Below w.heap.size w w' ∧ w.heap.size ≤ m
set_option maxRecDepth 100000 in
set_option maxHeartbeats 1000000 in
theorem new_rest {w W1 : World} {a : Option Addr} {n c : Nat} {S : List UInt8} (h : In W1 a n c S) (hn : n ≤ 20000) (hb : Below w.heap.size w W1) : BkAt ((W1.alloc (.map #[] 0)).alloc (.cells #[.slice a n c, .map (some W1.heap.size)] 57)) (W1.heap.size + 1) W1.heap.size S [] ∧ Below w.heap.size w ((W1.alloc (.map #[] 0)).alloc (.cells #[.slice a n c, .map (some W1.heap.size)] 57)) := by
  have hs : (W1.alloc (.map #[] 0)).heap.size = W1.heap.size + 1 := by simp
  have hb2 : Below W1.heap.size W1 ((W1.alloc (.map #[] 0)).alloc (.cells #[.slice a n c, .map (some W1.heap.size)] 57)) := below_tr (below_al _ _) (below_al _ _)
  refine ⟨⟨⟨a, n, c, ?_, h.below hb2, hn⟩, ?_, by simp, by simp⟩, below_tr hb hb2⟩
  · rw [← hs]; exact Blk.new _ _ _
  · exact (MP.made W1).same ((below_al (W1.alloc (.map #[] 0)) _).block W1.heap.size (by rw [hs]; omega))
set_option maxRecDepth 100000 in
set_option maxHeartbeats 1000000 in
theorem newtok_is {w : World} {a : Option Addr} {n c : Nat} {S : List UInt8} (h : In w a n c S) (hn : n ≤ 20000) : Calls Tryd.prog 10 #[.slice a n c] w (NwP w S) := by
  have hmk := mk55
  cases a with
  | none =>
    obtain rfl : c = 0 := h.2.2.2.1 rfl
    obtain rfl : n = 0 := by have := h.2.1; omega
    obtain ⟨W1, hW1⟩ : ∃ W1, (w.alloc (.map #[] 0)).alloc (.cells #[.slice none 0 0, .map (some w.heap.size)] 57) = W1 := ⟨_, rfl⟩
    have HF : Hid (BkAt W1 (w.heap.size + 1) w.heap.size S [] ∧ Below w.heap.size w W1) := by rw [← hW1]; exact new_rest h hn (Below.refl _ _)
    have hbd := build57 none 0 0 w.heap.size
    clear h hn
    go_enter Tryd.func10, Tryd.ntmps10
    go_wp2_with fail
    refine (clone_nil w).mono ?_
    rintro e W ⟨rfl, rfl⟩
    go_wp2
    go_ret
    exact ⟨_, _, by first | rfl | simp, HF.out.1, HF.out.2, Nat.le_refl _⟩
  | some x =>
    have HI : Hid (In w (some x) n c S ∧ n ≤ 20000) := ⟨h, hn⟩
    clear h hn
    go_enter Tryd.func10, Tryd.ntmps10
    go_wp2_with fail
    refine (clone_in HI.out.1).mono ?_
    rintro e W0 ⟨v, rfl, HO, hb0⟩
    obtain ⟨a1, c1, rfl, hin1, -⟩ := own_in HO.out (by have := HI.out.1.1; have := HI.out.2; omega)
    rw [HI.out.1.1] at hin1 ⊢
    obtain ⟨W1, hW1⟩ : ∃ W1, (W0.alloc (.map #[] 0)).alloc (.cells #[.slice a1 n c1, .map (some W0.heap.size)] 57) = W1 := ⟨_, rfl⟩
    have HF : Hid (BkAt W1 (W0.heap.size + 1) W0.heap.size S [] ∧ Below w.heap.size w W1 ∧ w.heap.size ≤ W0.heap.size) := by
      have := new_rest hin1 HI.out.2 hb0
      rw [hW1] at this
      exact ⟨this.1, this.2, hb0.size⟩
    have hbd := build57 a1 n c1 W0.heap.size
    clear HO hb0 hin1
    go_wp2
    go_ret
    exact ⟨_, _, by first | rfl | simp, HF.out.1, HF.out.2.1, HF.out.2.2⟩
end Go.Proofs.YtjeahlfmapacfaaDoor.Oct

/- Layer 16 (token): the chapter's example. -/
namespace Go.Proofs.YtjeahlfmapacfaaDoor.Oct
open Go.RowKit Sha
set_option linter.unusedSimpArgs false
set_option linter.unusedVariables false

def ann : BA := ⟨#[97, 110, 110]⟩
def gA : Gr := ⟨ann, 9, false⟩
theorem key_ann : ∃ T : List UInt8, T.length = 64 ∧ keyG [107] 0 gA = [49, 46, 97, 110, 110, 46, 57, 46] ++ T := by
  refine ⟨hexOf (tagOf [107] (bodyT 1 ann.data.toList 9)), by rw [hexOf_length, tagOf_len], ?_⟩
  unfold keyG txtT sealT
  rw [show (0 + 1 : Nat) = 1 from rfl, show gA.u = ann from rfl, show gA.t = 9 from rfl]
  generalize hexOf (tagOf [107] (bodyT 1 ann.data.toList 9)) = T
  unfold bodyT
  rw [dec_small (u := 1) (by omega), dec_small (u := 9) (by omega)]
  rfl
theorem iss_ann : issE [] ann 0 9 = 0 := by
  unfold issE
  rw [if_neg (by unfold badU ann; decide), if_neg (by omega), if_neg (by simp)]
set_option maxRecDepth 100000 in
set_option maxHeartbeats 1000000 in
theorem lives_is (w : World) (hV : VT w) : Calls Tryd.prog 9 #[] w fun e w' => e = .returned (.bool true) ∧ Below w.heap.size w w' := by
  have HV : Hid (VT w) := hV
  clear hV
  have hcv := Lib.run_convert_bytes_const (P := Tryd.prog) w 22 5 #[.int .u8 107] 1 1 Tryd.underlying22 Tryd.underlying5
  go_enter Tryd.func9, Tryd.ntmps9
  go_wp2_with fail
  generalize hA : w.alloc _ = WA
  obtain ⟨HWA, HIA⟩ : Hid (Below w.heap.size w WA) ∧ Hid (In WA (some ⟨w.heap.size, 0, none⟩) 1 1 [107]) := by
    subst hA
    exact ⟨(Below.refl _ w).alloc (Nat.le_refl _) _, in_const w 5 [107] (1, 2) (by decide)⟩
  clear hcv hA
  refine (newtok_is HIA.out (by omega)).mono ?_
  rintro e W1 ⟨b, m, rfl, hB1, hb1, hm1⟩
  have H1 : Hid (BkAt W1 b m [107] [] ∧ Below w.heap.size w W1 ∧ w.heap.size ≤ m) := ⟨hB1, below_tr HWA.out hb1, Nat.le_trans HWA.out.size hm1⟩
  clear hB1 hb1 hm1 HIA
  go_wp2_with fail
  refine (issue_is H1.out.1 (HV.out.below H1.out.2.1) ann (by decide) 0 9).mono ?_
  intro e W2 hi
  obtain ⟨X, hX, he, hB2, hg2⟩ : ∃ X : BA, X.data.toList = keyG [107] 0 gA ∧ e = .returned (.tuple #[.string X, iv 0]) ∧ BkAt W2 b m [107] [gA] ∧ W1.grownBy W2 (some m) := by
    rcases hi with ⟨h0, _⟩ | ⟨_, X, h1, h2, h3, h4⟩
    · exact absurd iss_ann h0
    · exact ⟨X, h1, h2, h3, h4⟩
  subst he
  clear hi
  obtain ⟨T, hT, hKT⟩ := key_ann
  have hXL := hX
  rw [hKT] at hXL
  have zX : X.size = 72 := by
    have : X.data.toList.length = X.size := rfl
    rw [← this, hXL, List.length_append, hT]
    rfl
  have hat : atF [107] 0 [gA] X.data.toList = some gA := by unfold atF; rw [if_pos hX.symm]
  have e8 : ((X.extract 0 8).toList == [49, 46, 97, 110, 110, 46, 57, 46]) = true := by
    rw [toList_d, ext_data, hXL, List.drop_zero]
    rfl
  have qX : (X.size : Int) = 72 := by omega
  have H2 : Hid (BkAt W2 b m [107] [gA] ∧ Below w.heap.size w W2 ∧ X.size ≤ 20000 ∧ atF [107] 0 [gA] X.data.toList = some gA) := ⟨hB2, below_gr H1.out.2.1 hg2 H1.out.2.2, by omega, hat⟩
  clear hX hXL zX hat hT hKT hB2 hg2
  go_wp2_with fail
  refine (check_tok H2.out.1 (HV.out.below H2.out.2.1) X H2.out.2.2.1 8 _ H2.out.2.2.2 ann 0 rfl rfl).mono ?_
  rintro e W3 ⟨rfl, hb3⟩
  have H3 : Hid (BkAt W3 b m [107] [gA] ∧ Below w.heap.size w W3) := ⟨H2.out.1.below hb3, below_tr H2.out.2.1 hb3⟩
  clear hb3
  go_wp2_with fail
  refine (check_tok H3.out.1 (HV.out.below H3.out.2) X H2.out.2.2.1 9 _ H2.out.2.2.2 e0 162 rfl rfl).mono ?_
  rintro e W4 ⟨rfl, hb4⟩
  have H4 : Hid (Below w.heap.size w W4) := below_tr H3.out.2 hb4
  clear hb4
  have ha : (ann.toList == [97, 110, 110]) = true := by rw [toList_d]; rfl
  generalize ann = an at *
  go_wp2
  go_ret
  exact ⟨rfl, H4.out⟩
end Go.Proofs.YtjeahlfmapacfaaDoor.Oct

/- Layer 16 (token): the variables that the rows list; the laws' arguments. -/
namespace Go.Proofs.YtjeahlfmapacfaaDoor.Oct
open Go.RowKit Go.ChangeShapes Go.WideShapes Go.ChangeAt Go.Deep Sha
set_option maxRecDepth 100000
set_option linter.unusedSimpArgs false
set_option linter.unusedVariables false

theorem own : ownKnob Tryd.prog.godebug = none := by kernel_rfl
theorem laidOut : laidOutB Tryd.prog = true := by kernel_rfl
theorem gS : Tryd.prog.globalNamed "ingot/hash.start" = some 1 := by kernel_rfl
theorem gK : Tryd.prog.globalNamed "ingot/hash.k" = some 2 := by kernel_rfl
theorem gSType : (Tryd.prog.globals[1]?).map (·.type) = some 104 := by kernel_rfl
theorem gKType : (Tryd.prog.globals[2]?).map (·.type) = some 95 := by kernel_rfl
def zS : List Int := Sha.start.words.map fun x => (x.toNat : Int)
def zK : List Int := kTab.map fun x => (x.toNat : Int)
theorem laidS : (Rows.laid_ingot_hash_start : DataW Unit) = Lib.tabData .u32 zS := by kernel_rfl
theorem laidK : (Rows.laid_ingot_hash_k : DataW Unit) = Lib.tabData .u32 zK := by kernel_rfl
theorem u52 : Tryd.prog.underlying 95 = some (.array 64 93) := by kernel_rfl
theorem u45 : Tryd.prog.underlying 104 = some (.array 8 93) := by kernel_rfl
theorem u44 : Tryd.prog.underlying 93 = some (.int .u32) := by kernel_rfl

theorem lt_of_cell {w : World} {b i : Nat} {v : Value} (h : w.cell? ⟨b, i, none⟩ = some v) : b < w.heap.size := by
  rcases Nat.lt_or_ge b w.heap.size with h1 | h1
  · exact h1
  · exfalso
    unfold World.cell? at h
    simp [h1] at h

def z32 : List Int := [0, 1, 28, 2, 29, 14, 24, 3, 30, 22, 20, 15, 25, 17, 4, 8, 31, 27, 13, 23, 21, 19, 16, 7, 26, 12, 18, 6, 11, 5, 10, 9]
def z64 : List Int := [0, 1, 56, 2, 57, 49, 28, 3, 61, 58, 42, 50, 38, 29, 17, 4, 62, 47, 59, 36, 45, 43, 51, 22, 53, 39, 33, 30, 24, 18, 12, 5, 63, 55, 48, 27, 60, 41, 37, 16, 46, 35, 44, 21, 52, 32, 23, 11, 54, 26, 40, 15, 34, 20, 31, 10, 25, 14, 19, 9, 13, 8, 7, 6]
theorem st_of_laid {W : World} (h : laidMetH Tryd.prog [("math/bits.deBruijn32tab", Rows.laid_math_bits_deBruijn32tab), ("math/bits.deBruijn64tab", Rows.laid_math_bits_deBruijn64tab), ("internal/strconv.uint64pow10", Rows.laid_internal_strconv_uint64pow10), ("ingot/hash.start", Rows.laid_ingot_hash_start), ("ingot/hash.k", Rows.laid_ingot_hash_k)] W) : ST W := by
  have h' : laidMet Tryd.prog [("ingot/hash.start", Lib.tabData .u32 zS), ("ingot/hash.k", Rows.laid_ingot_hash_k)] W := by rw [← laidS]; exact laidMet.tail (laidMet.tail (laidMet.tail h))
  have ht := Lib.tabIs_of_head gS gSType u45 u44 (by kernel_rfl) (by kernel_rfl) h'
  have hc : ∀ j, j < 8 → W.cell? ⟨1, j, none⟩ = some (.int .u32 (zS.getD j 0)) := fun j hj => ht.cell gS j hj
  refine ⟨lt_of_cell (hc 0 (by omega)), fun j v hj => ?_⟩
  have hlt : j < 8 := by have := (List.getElem?_eq_some_iff.1 hj).1; exact this
  rw [Nat.zero_add, hc j hlt]
  rw [← hj]
  simp [V, zS, show j < Sha.start.words.length from hlt]
theorem kt_of_laid {W : World} (h : laidMetH Tryd.prog [("math/bits.deBruijn32tab", Rows.laid_math_bits_deBruijn32tab), ("math/bits.deBruijn64tab", Rows.laid_math_bits_deBruijn64tab), ("internal/strconv.uint64pow10", Rows.laid_internal_strconv_uint64pow10), ("ingot/hash.start", Rows.laid_ingot_hash_start), ("ingot/hash.k", Rows.laid_ingot_hash_k)] W) : KT W := by
  have h1 : laidMet Tryd.prog [("ingot/hash.k", Rows.laid_ingot_hash_k)] W := laidMet.tail (laidMet.tail (laidMet.tail (laidMet.tail h)))
  have h' : laidMet Tryd.prog [("ingot/hash.k", Lib.tabData .u32 zK)] W := by rw [← laidK]; exact h1
  have ht := Lib.tabIs_of_head gK gKType u52 u44 (by kernel_rfl) (by kernel_rfl) h'
  have hl : kTab.length = 64 := rfl
  have hc : ∀ j, j < 64 → W.cell? ⟨2, j, none⟩ = some (.int .u32 (zK.getD j 0)) := fun j hj => ht.cell gK j (by simp [zK]; omega)
  refine ⟨lt_of_cell (hc 0 (by omega)), fun t ht => ?_⟩
  rw [hc t ht]
  simp [zK, show t < kTab.length by omega]
theorem gP : Tryd.prog.globalNamed "internal/strconv.uint64pow10" = some 3 := by kernel_rfl
theorem gPType : (Tryd.prog.globals[3]?).map (·.type) = some 121 := by kernel_rfl
theorem laidP : (Rows.laid_internal_strconv_uint64pow10 : DataW Unit) = Lib.tabData .u64 Lib.pow10Tab := by kernel_rfl
theorem u121 : Tryd.prog.underlying 121 = some (.array 20 92) := by kernel_rfl
theorem uE : Tryd.prog.underlying 92 = some (.int .u64) := by kernel_rfl
theorem pt_of_laid {W : World} (h : laidMetH Tryd.prog [("math/bits.deBruijn32tab", Rows.laid_math_bits_deBruijn32tab), ("math/bits.deBruijn64tab", Rows.laid_math_bits_deBruijn64tab), ("internal/strconv.uint64pow10", Rows.laid_internal_strconv_uint64pow10), ("ingot/hash.start", Rows.laid_ingot_hash_start), ("ingot/hash.k", Rows.laid_ingot_hash_k)] W) : PT W := by
  have h1 : laidMet Tryd.prog [("internal/strconv.uint64pow10", Rows.laid_internal_strconv_uint64pow10), ("ingot/hash.start", Rows.laid_ingot_hash_start), ("ingot/hash.k", Rows.laid_ingot_hash_k)] W := laidMet.tail (laidMet.tail h)
  have h' : laidMet Tryd.prog [("internal/strconv.uint64pow10", Lib.tabData .u64 Lib.pow10Tab), ("ingot/hash.start", Rows.laid_ingot_hash_start), ("ingot/hash.k", Rows.laid_ingot_hash_k)] W := by rw [← laidP]; exact h1
  exact Lib.tabIs_of_head gP gPType u121 uE (by kernel_rfl) (by kernel_rfl) h'
theorem vt_of_laid {W : World} (h : laidMetH Tryd.prog [("math/bits.deBruijn32tab", Rows.laid_math_bits_deBruijn32tab), ("math/bits.deBruijn64tab", Rows.laid_math_bits_deBruijn64tab), ("internal/strconv.uint64pow10", Rows.laid_internal_strconv_uint64pow10), ("ingot/hash.start", Rows.laid_ingot_hash_start), ("ingot/hash.k", Rows.laid_ingot_hash_k)] W) : VT W := ⟨kt_of_laid h, st_of_laid h, pt_of_laid h⟩
theorem len7 {α : Type} {l : List α} (h : l.length = 7) : ∃ a0 a1 a2 a3 a4 a5 a6, l = [a0, a1, a2, a3, a4, a5, a6] := by
  rcases l with _ | ⟨a0, _ | ⟨a1, _ | ⟨a2, _ | ⟨a3, _ | ⟨a4, _ | ⟨a5, _ | ⟨a6, _ | ⟨z, l⟩⟩⟩⟩⟩⟩⟩⟩ <;> simp at h
  exact ⟨a0, a1, a2, a3, a4, a5, a6, rfl⟩
theorem cut_at (cs : List Value) (a n b : Nat) (h : a + n = b) : cs.drop a = (cs.drop a).take n ++ cs.drop b := by
  subst h
  rw [← List.drop_drop, List.take_append_drop]
theorem cut_last (cs : List Value) (a n : Nat) (h : cs.length = a + n) : cs.drop a = (cs.drop a).take n := by
  rw [List.take_of_length_le (by rw [List.length_drop]; omega)]
theorem mem_weightsAll {H : Type} {P : Program} {e : TypeId} {d : DataW H} {n : Nat} (hn : n ∈ d.weights P e) : ∀ {ds : List (DataW H)}, d ∈ ds → n ∈ DataW.weightsAll P e ds
  | [], h => by cases h
  | d0 :: r, h => by
    simp only [DataW.weightsAll, List.mem_append]
    rcases List.mem_cons.1 h with rfl | h
    · exact .inl hn
    · exact .inr (mem_weightsAll hn h)
section
variable {H : Type} {enc : TypeId × Value → H} {w : World}
theorem fld_str {n : Nat} {cs : List Value} {x : DataW H × List MemPlace} (h : DataW.trod enc Tryd.prog w 0 (fun _ => true) true n 9 cs = some x) (hx : ∀ k ∈ x.1.weights Tryd.prog 9, k ≤ reachBytes) :
    ∃ s : ByteArray, cs = [.string s] ∧ s.size ≤ 140737488355328 := by
  obtain ⟨s, hs, hd, _⟩ := DataW.trod_string Tryd.underlying9 h
  refine ⟨s, by simpa using hs, ?_⟩
  have hmem : s.size ∈ x.1.weights Tryd.prog 9 := by
    rw [hd]
    simp [DataW.weights]
  have := hx _ hmem
  simp only [reachBytes] at this
  omega
theorem cells_act {fuel : Nat} {cs : List Value} {x : DataW H × List MemPlace} (h : DataW.trod enc Tryd.prog w 0 (fun _ => true) true fuel 32 cs = some x) (hx : ∀ k ∈ x.1.weights Tryd.prog 32, k ≤ reachBytes) :
    ∃ (f0 : Int) (f1 : ByteArray) (f2 : ByteArray) (f3 : Int) (f4 : Int) (f5 : Int) (f6 : Bool), cs = [iv f0] ++ ([.string f1] ++ ([.string f2] ++ ([iv f3] ++ ([iv f4] ++ ([iv f5] ++ ([.bool f6])))))) ∧ (-9223372036854775808 ≤ f0 ∧ f0 ≤ 9223372036854775807) ∧ f1.size ≤ 140737488355328 ∧ f2.size ≤ 140737488355328 ∧ (-9223372036854775808 ≤ f3 ∧ f3 ≤ 9223372036854775807) ∧ (-9223372036854775808 ≤ f4 ∧ f4 ≤ 9223372036854775807) ∧ (-9223372036854775808 ≤ f5 ∧ f5 ≤ 9223372036854775807) ∧ True := by
  obtain ⟨ys, k, hk, hxy, hcl, hxl, hf⟩ := DataW.trod_struct Tryd.underlying32 h
  have hcl' : cs.length = 7 := by rw [hcl]; kernel_rfl
  have hxl' : ys.length = 7 := hxl
  obtain ⟨y0, y1, y2, y3, y4, y5, y6, rfl⟩ := len7 hxl'
  have g0 := hf 0 _ rfl
  change DataW.trod enc Tryd.prog w 0 _ true k 3 ((cs.drop 0).take (Tryd.prog.cellsOf 3)) = some y0 at g0
  rw [show Tryd.prog.cellsOf 3 = 1 by kernel_rfl] at g0
  have w0 : ∀ q ∈ y0.1.weights Tryd.prog 3, q ≤ reachBytes := fun q hq => hx q (by
    rw [show x.1 = DataW.agg [y0.1, y1.1, y2.1, y3.1, y4.1, y5.1, y6.1] from congrArg Prod.fst hxy]
    simp only [DataW.weights, Tryd.underlying32, DataW.weightsEach, List.map, List.mem_append]
    exact .inl hq)
  obtain ⟨f0, e0, _, b0⟩ := DataW.trod_int Tryd.underlying3 g0
  have b0 := bounds_i64 b0
  have g1 := hf 1 _ rfl
  change DataW.trod enc Tryd.prog w 0 _ true k 9 ((cs.drop 1).take (Tryd.prog.cellsOf 9)) = some y1 at g1
  rw [show Tryd.prog.cellsOf 9 = 1 by kernel_rfl] at g1
  have w1 : ∀ q ∈ y1.1.weights Tryd.prog 9, q ≤ reachBytes := fun q hq => hx q (by
    rw [show x.1 = DataW.agg [y0.1, y1.1, y2.1, y3.1, y4.1, y5.1, y6.1] from congrArg Prod.fst hxy]
    simp only [DataW.weights, Tryd.underlying32, DataW.weightsEach, List.map, List.mem_append]
    exact .inr (.inl hq))
  obtain ⟨f1, e1, b1⟩ := fld_str g1 w1
  have g2 := hf 2 _ rfl
  change DataW.trod enc Tryd.prog w 0 _ true k 9 ((cs.drop 2).take (Tryd.prog.cellsOf 9)) = some y2 at g2
  rw [show Tryd.prog.cellsOf 9 = 1 by kernel_rfl] at g2
  have w2 : ∀ q ∈ y2.1.weights Tryd.prog 9, q ≤ reachBytes := fun q hq => hx q (by
    rw [show x.1 = DataW.agg [y0.1, y1.1, y2.1, y3.1, y4.1, y5.1, y6.1] from congrArg Prod.fst hxy]
    simp only [DataW.weights, Tryd.underlying32, DataW.weightsEach, List.map, List.mem_append]
    exact .inr (.inr (.inl hq)))
  obtain ⟨f2, e2, b2⟩ := fld_str g2 w2
  have g3 := hf 3 _ rfl
  change DataW.trod enc Tryd.prog w 0 _ true k 3 ((cs.drop 3).take (Tryd.prog.cellsOf 3)) = some y3 at g3
  rw [show Tryd.prog.cellsOf 3 = 1 by kernel_rfl] at g3
  have w3 : ∀ q ∈ y3.1.weights Tryd.prog 3, q ≤ reachBytes := fun q hq => hx q (by
    rw [show x.1 = DataW.agg [y0.1, y1.1, y2.1, y3.1, y4.1, y5.1, y6.1] from congrArg Prod.fst hxy]
    simp only [DataW.weights, Tryd.underlying32, DataW.weightsEach, List.map, List.mem_append]
    exact .inr (.inr (.inr (.inl hq))))
  obtain ⟨f3, e3, _, b3⟩ := DataW.trod_int Tryd.underlying3 g3
  have b3 := bounds_i64 b3
  have g4 := hf 4 _ rfl
  change DataW.trod enc Tryd.prog w 0 _ true k 3 ((cs.drop 4).take (Tryd.prog.cellsOf 3)) = some y4 at g4
  rw [show Tryd.prog.cellsOf 3 = 1 by kernel_rfl] at g4
  have w4 : ∀ q ∈ y4.1.weights Tryd.prog 3, q ≤ reachBytes := fun q hq => hx q (by
    rw [show x.1 = DataW.agg [y0.1, y1.1, y2.1, y3.1, y4.1, y5.1, y6.1] from congrArg Prod.fst hxy]
    simp only [DataW.weights, Tryd.underlying32, DataW.weightsEach, List.map, List.mem_append]
    exact .inr (.inr (.inr (.inr (.inl hq)))))
  obtain ⟨f4, e4, _, b4⟩ := DataW.trod_int Tryd.underlying3 g4
  have b4 := bounds_i64 b4
  have g5 := hf 5 _ rfl
  change DataW.trod enc Tryd.prog w 0 _ true k 3 ((cs.drop 5).take (Tryd.prog.cellsOf 3)) = some y5 at g5
  rw [show Tryd.prog.cellsOf 3 = 1 by kernel_rfl] at g5
  have w5 : ∀ q ∈ y5.1.weights Tryd.prog 3, q ≤ reachBytes := fun q hq => hx q (by
    rw [show x.1 = DataW.agg [y0.1, y1.1, y2.1, y3.1, y4.1, y5.1, y6.1] from congrArg Prod.fst hxy]
    simp only [DataW.weights, Tryd.underlying32, DataW.weightsEach, List.map, List.mem_append]
    exact .inr (.inr (.inr (.inr (.inr (.inl hq))))))
  obtain ⟨f5, e5, _, b5⟩ := DataW.trod_int Tryd.underlying3 g5
  have b5 := bounds_i64 b5
  have g6 := hf 6 _ rfl
  change DataW.trod enc Tryd.prog w 0 _ true k 4 ((cs.drop 6).take (Tryd.prog.cellsOf 4)) = some y6 at g6
  rw [show Tryd.prog.cellsOf 4 = 1 by kernel_rfl] at g6
  have w6 : ∀ q ∈ y6.1.weights Tryd.prog 4, q ≤ reachBytes := fun q hq => hx q (by
    rw [show x.1 = DataW.agg [y0.1, y1.1, y2.1, y3.1, y4.1, y5.1, y6.1] from congrArg Prod.fst hxy]
    simp only [DataW.weights, Tryd.underlying32, DataW.weightsEach, List.map, List.mem_append]
    exact .inr (.inr (.inr (.inr (.inr (.inr (.inl hq)))))))
  obtain ⟨f6, e6, _⟩ := DataW.trod_bool Tryd.underlying4 g6
  have b6 : True := trivial
  refine ⟨f0, f1, f2, f3, f4, f5, f6, ?_, b0, b1, b2, b3, b4, b5, b6⟩
  refine (show cs = cs.drop 0 from rfl).trans ?_
  rw [cut_at cs 0 1 1 rfl, e0]
  refine congrArg (fun z : List Value => ([iv f0] : List Value) ++ z) ?_
  rw [cut_at cs 1 1 2 rfl, e1]
  refine congrArg (fun z : List Value => ([.string f1] : List Value) ++ z) ?_
  rw [cut_at cs 2 1 3 rfl, e2]
  refine congrArg (fun z : List Value => ([.string f2] : List Value) ++ z) ?_
  rw [cut_at cs 3 1 4 rfl, e3]
  refine congrArg (fun z : List Value => ([iv f3] : List Value) ++ z) ?_
  rw [cut_at cs 4 1 5 rfl, e4]
  refine congrArg (fun z : List Value => ([iv f4] : List Value) ++ z) ?_
  rw [cut_at cs 5 1 6 rfl, e5]
  refine congrArg (fun z : List Value => ([iv f5] : List Value) ++ z) ?_
  rw [cut_last cs 6 1 hcl', e6]
/-- a call, told -/
structure ActV where
  kind : Int
  u : BA
  x : BA
  now : Int
  til : Int
  n : Int
  odd : Bool
def ActV.cells (q : ActV) : List Value := [iv q.kind, .string q.u, .string q.x, iv q.now, iv q.til, iv q.n, .bool q.odd]
def i64 (n : Int) : Prop := -9223372036854775808 ≤ n ∧ n ≤ 9223372036854775807
def ActV.ok (q : ActV) : Prop := i64 q.kind ∧ q.u.size ≤ 140737488355328 ∧ q.x.size ≤ 140737488355328 ∧ i64 q.now ∧ i64 q.til ∧ i64 q.n
instance : Inhabited ActV := ⟨⟨0, e0, e0, 0, 0, 0, false⟩⟩
theorem view_act {fuel : Nat} {xs : Array Value} {x : DataW H × List MemPlace} (h : DataW.trod enc Tryd.prog w 0 (fun _ => true) true fuel 32 (Value.agg xs).cells.toList = some x) (hw : ∀ n ∈ x.1.weights Tryd.prog 32, n ≤ reachBytes) :
    ∃ q : ActV, xs = q.cells.toArray ∧ q.ok := by
  obtain ⟨f0, f1, f2, f3, f4, f5, f6, e, b0, b1, b2, b3, b4, b5, b6⟩ := cells_act h hw
  refine ⟨⟨f0, f1, f2, f3, f4, f5, f6⟩, ?_, b0, b1, b2, b3, b4, b5⟩
  have e' : xs.toList = ActV.cells ⟨f0, f1, f2, f3, f4, f5, f6⟩ := by simpa [Value.cells, ActV.cells] using e
  rw [← e']
structure St1 where
  s : BA
def St1.cells (q : St1) : List Value := [.string q.s]
def St1.ok (q : St1) : Prop := q.s.size ≤ 140737488355328
instance : Inhabited St1 := ⟨⟨e0⟩⟩
/-- texts that came in -/
def SsR (w : World) (a : Option Addr) (len : Nat) (l : List St1) : Prop :=
  l.length = len ∧ len ≤ 140737488355328 ∧ (∀ x ∈ l, x.ok) ∧ (0 < len → ∃ b off, a = some ⟨b, off, none⟩ ∧ b < w.heap.size ∧ ∀ i x, l[i]? = some x → w.rangeAt b (off + i * 1) x.cells)
def ArgA (w : World) (a : Option Addr) (len : Nat) (l : List ActV) : Prop :=
  l.length = len ∧ len ≤ 140737488355328 ∧ (∀ x ∈ l, x.ok) ∧ (0 < len → ∃ b off, a = some ⟨b, off, none⟩ ∧ b < w.heap.size ∧ ∀ i x, l[i]? = some x → w.rangeAt b (off + i * 7) x.cells)
theorem view_strs {fuel : Nat} {a : Option Addr} {len cap : Nat} {x : DataW H × List MemPlace} (h : DataW.trod enc Tryd.prog w 0 (fun _ => true) true fuel 47 (Value.slice a len cap).cells.toList = some x) (hx : ∀ n ∈ x.1.weights Tryd.prog 47, n ≤ reachBytes) :
    ∃ l, SsR w a len l := by
  rcases open_slice Tryd.underlying47 h with ⟨hcs, _⟩ | ⟨ad, l, c, m, n, D, Pl, hcs, _, hl, hm, hmm, hd, hr⟩
  · simp [Value.cells] at hcs
    obtain ⟨rfl, rfl, rfl⟩ := hcs
    exact ⟨[], rfl, by omega, by simp, fun h => absurd h (by omega)⟩
  · simp [Value.cells] at hcs
    obtain ⟨rfl, rfl, rfl⟩ := hcs
    have hw : (len + (m - len)) * 16 ∈ x.1.weights Tryd.prog 47 := by
      rw [hd]
      simp only [DataW.weights, Tryd.underlying47]
      rw [show Tryd.prog.bytesOf 9 = 16 by kernel_rfl]
      simp
    have hsz := hx _ hw
    simp only [reachBytes] at hsz
    simp at hmm
    have ce : Tryd.prog.cellsOf 9 = 1 := by kernel_rfl
    rw [ce] at hr
    have hsp : 0 < len → ad.spot = none := fun hp => by
      obtain ⟨cs, h1, _⟩ := hr 0 (by omega)
      obtain ⟨_, hlen, hcell⟩ := World.cells?_some h1
      have h0 := hcell 0 (by omega)
      rw [List.getElem?_eq_getElem (by omega)] at h0
      have := World.cell?_spot h0
      simpa [Addr.add] using this
    have each : ∀ i, i < len → ∃ x : St1, x.ok ∧ ∃ b off, ad = ⟨b, off, none⟩ ∧ b < w.heap.size ∧ w.rangeAt b (off + i * 1) x.cells := by
      intro i hi
      obtain ⟨cs, h1, h2⟩ := hr i (by omega)
      obtain ⟨_, hlen, hcell⟩ := World.cells?_some h1
      have hmem : ∀ q ∈ (D i, Pl i).1.weights Tryd.prog 9, q ≤ reachBytes := fun q hq => by
        refine hx q ?_
        rw [hd]
        simp only [DataW.weights, Tryd.underlying47]
        exact List.mem_cons.2 (.inr (List.mem_append.2 (.inl (mem_weightsAll hq (List.mem_map.2 ⟨i, List.mem_range.2 hi, rfl⟩)))))
      obtain ⟨f0, e, b0⟩ := fld_str (x := (D i, Pl i)) h2 hmem
      have e' : cs = St1.cells ⟨f0⟩ := by simpa [St1.cells] using e
      subst e'
      obtain ⟨b, off, spot⟩ := ad
      have hs := hsp (by omega)
      simp only at hs
      subst hs
      have hc0 := hcell 0 (by omega)
      rw [Addr.add_lit, Addr.add_lit] at hc0
      refine ⟨⟨f0⟩, b0, b, off, rfl, ?_, ?_⟩
      · have := World.block_lt_of_cell? w _ hc0
        simpa using this
      · intro j v hj
        have hj5 := (List.getElem?_eq_some_iff.1 hj).1
        have := hcell j (by omega)
        rw [Addr.add_lit, Addr.add_lit] at this
        rw [← hj]
        exact this
    have hsame : ∀ r ∈ (List.range len).map fun i => if h : i < len then (each i h).choose else default, r.ok := by
      intro r hr
      obtain ⟨i, hi, rfl⟩ := List.mem_map.1 hr
      have hlt := List.mem_range.1 hi
      rw [dif_pos hlt]
      exact (each i hlt).choose_spec.1
    have hrow : 0 < len → ∃ b off, some ad = some ⟨b, off, none⟩ ∧ b < w.heap.size ∧ ∀ i x, ((List.range len).map fun i => if h : i < len then (each i h).choose else default)[i]? = some x → w.rangeAt b (off + i * 1) x.cells := fun hp => by
      obtain ⟨_, _, b, off, e1, e2, _⟩ := each 0 hp
      refine ⟨b, off, by rw [e1], e2, fun i x hx => ?_⟩
      have hlt : i < len := by
        have := (List.getElem?_eq_some_iff.1 hx).1
        simpa using this
      have e : (each i hlt).choose = x := by simpa [List.getElem?_map, List.getElem?_range hlt, hlt] using hx
      obtain ⟨_, b', off', e3, _, e5⟩ := (each i hlt).choose_spec
      rw [e1] at e3
      cases e3
      rw [e] at e5
      exact e5
    exact ⟨_, by simp, by omega, hsame, hrow⟩
theorem view_acts {fuel : Nat} {a : Option Addr} {len cap : Nat} {x : DataW H × List MemPlace} (h : DataW.trod enc Tryd.prog w 0 (fun _ => true) true fuel 23 (Value.slice a len cap).cells.toList = some x) (hx : ∀ n ∈ x.1.weights Tryd.prog 23, n ≤ reachBytes) :
    ∃ l, ArgA w a len l := by
  rcases open_slice Tryd.underlying23 h with ⟨hcs, _⟩ | ⟨ad, l, c, m, n, D, Pl, hcs, _, hl, hm, hmm, hd, hr⟩
  · simp [Value.cells] at hcs
    obtain ⟨rfl, rfl, rfl⟩ := hcs
    exact ⟨[], rfl, by omega, by simp, fun h => absurd h (by omega)⟩
  · simp [Value.cells] at hcs
    obtain ⟨rfl, rfl, rfl⟩ := hcs
    have hw : (len + (m - len)) * 72 ∈ x.1.weights Tryd.prog 23 := by
      rw [hd]
      simp only [DataW.weights, Tryd.underlying23]
      rw [show Tryd.prog.bytesOf 32 = 72 by kernel_rfl]
      simp
    have hsz := hx _ hw
    simp only [reachBytes] at hsz
    simp at hmm
    have ce : Tryd.prog.cellsOf 32 = 7 := by kernel_rfl
    rw [ce] at hr
    have hsp : 0 < len → ad.spot = none := fun hp => by
      obtain ⟨cs, h1, _⟩ := hr 0 (by omega)
      obtain ⟨_, hlen, hcell⟩ := World.cells?_some h1
      have h0 := hcell 0 (by omega)
      rw [List.getElem?_eq_getElem (by omega)] at h0
      have := World.cell?_spot h0
      simpa [Addr.add] using this
    have each : ∀ i, i < len → ∃ x : ActV, x.ok ∧ ∃ b off, ad = ⟨b, off, none⟩ ∧ b < w.heap.size ∧ w.rangeAt b (off + i * 7) x.cells := by
      intro i hi
      obtain ⟨cs, h1, h2⟩ := hr i (by omega)
      obtain ⟨_, hlen, hcell⟩ := World.cells?_some h1
      have hmem : ∀ q ∈ (D i, Pl i).1.weights Tryd.prog 32, q ≤ reachBytes := fun q hq => by
        refine hx q ?_
        rw [hd]
        simp only [DataW.weights, Tryd.underlying23]
        exact List.mem_cons.2 (.inr (List.mem_append.2 (.inl (mem_weightsAll hq (List.mem_map.2 ⟨i, List.mem_range.2 hi, rfl⟩)))))
      obtain ⟨f0, f1, f2, f3, f4, f5, f6, e, b0, b1, b2, b3, b4, b5, b6⟩ := cells_act (x := (D i, Pl i)) h2 hmem
      have e' : cs = ActV.cells ⟨f0, f1, f2, f3, f4, f5, f6⟩ := by simpa [ActV.cells] using e
      subst e'
      obtain ⟨b, off, spot⟩ := ad
      have hs := hsp (by omega)
      simp only at hs
      subst hs
      have hc0 := hcell 0 (by omega)
      rw [Addr.add_lit, Addr.add_lit] at hc0
      refine ⟨⟨f0, f1, f2, f3, f4, f5, f6⟩, ⟨b0, b1, b2, b3, b4, b5⟩, b, off, rfl, ?_, ?_⟩
      · have := World.block_lt_of_cell? w _ hc0
        simpa using this
      · intro j v hj
        have hj5 := (List.getElem?_eq_some_iff.1 hj).1
        have := hcell j (by omega)
        rw [Addr.add_lit, Addr.add_lit] at this
        rw [← hj]
        exact this
    have hsame : ∀ r ∈ (List.range len).map fun i => if h : i < len then (each i h).choose else default, r.ok := by
      intro r hr
      obtain ⟨i, hi, rfl⟩ := List.mem_map.1 hr
      have hlt := List.mem_range.1 hi
      rw [dif_pos hlt]
      exact (each i hlt).choose_spec.1
    have hrow : 0 < len → ∃ b off, some ad = some ⟨b, off, none⟩ ∧ b < w.heap.size ∧ ∀ i x, ((List.range len).map fun i => if h : i < len then (each i h).choose else default)[i]? = some x → w.rangeAt b (off + i * 7) x.cells := fun hp => by
      obtain ⟨_, _, b, off, e1, e2, _⟩ := each 0 hp
      refine ⟨b, off, by rw [e1], e2, fun i x hx => ?_⟩
      have hlt : i < len := by
        have := (List.getElem?_eq_some_iff.1 hx).1
        simpa using this
      have e : (each i hlt).choose = x := by simpa [List.getElem?_map, List.getElem?_range hlt, hlt] using hx
      obtain ⟨_, b', off', e3, _, e5⟩ := (each i hlt).choose_spec
      rw [e1] at e3
      cases e3
      rw [e] at e5
      exact e5
    exact ⟨_, by simp, by omega, hsame, hrow⟩
end
end Go.Proofs.YtjeahlfmapacfaaDoor.Oct

/- Layer 16 (token): TokenNobody: a book that no call made gives nothing out. -/
namespace Go.Proofs.YtjeahlfmapacfaaDoor.Oct
open Go.RowKit Sha
set_option linter.unusedSimpArgs false
set_option linter.unusedVariables false

theorem ne_map0 (W : World) : (binOp .neq 55 (.map none) (.map none)).run Tryd.prog W = .ok (.bool false) W := by kernel_rfl
set_option maxRecDepth 100000 in
theorem made_nil (w : World) : Calls Tryd.prog 21 #[.pointer none] w fun e w' => e = .returned (.bool false) ∧ w = w' := by
  go_enter Tryd.func21, Tryd.ntmps21
  go_wp2
  go_ret
  exact ⟨rfl, rfl⟩
set_option maxRecDepth 100000 in
theorem made_zero {w : World} {b : Nat} (h : w.cell? ⟨b, 1, none⟩ = some (.map none)) : Calls Tryd.prog 21 #[.pointer (some ⟨b, 0, none⟩)] w fun e w' => e = .returned (.bool false) ∧ w = w' := by
  have hn := ne_map0
  go_enter Tryd.func21, Tryd.ntmps21
  go_wp2
  go_ret
  exact ⟨rfl, rfl⟩
set_option maxRecDepth 100000 in
theorem un_issue (p : Value) (u : BA) (now til : Int) (w : World) (hM : Calls Tryd.prog 21 #[p] w fun e w' => e = .returned (.bool false) ∧ w = w') : Calls Tryd.prog 11 #[p, .string u, iv now, iv til] w fun e w' => e = .returned (.tuple #[.string e0, iv 1]) ∧ w = w' := by
  have CM : Hid (Calls Tryd.prog 21 #[p] w fun e w' => e = .returned (.bool false) ∧ w = w') := hM
  clear hM
  go_enter Tryd.func11, Tryd.ntmps11
  go_wp2_with fail
  refine CM.out.mono ?_
  rintro e W ⟨rfl, rfl⟩
  go_wp2
  go_ret2
  exact ⟨rfl, rfl⟩
set_option maxRecDepth 100000 in
theorem un_check (p : Value) (u : BA) (now : Int) (w : World) (hM : Calls Tryd.prog 21 #[p] w fun e w' => e = .returned (.bool false) ∧ w = w') : Calls Tryd.prog 13 #[p, .string u, iv now] w fun e w' => e = .returned (.tuple #[.string e0, iv 1]) ∧ w = w' := by
  have CM : Hid (Calls Tryd.prog 21 #[p] w fun e w' => e = .returned (.bool false) ∧ w = w') := hM
  clear hM
  go_enter Tryd.func13, Tryd.ntmps13
  go_wp2_with fail
  refine CM.out.mono ?_
  rintro e W ⟨rfl, rfl⟩
  go_wp2
  go_ret2
  exact ⟨rfl, rfl⟩
set_option maxRecDepth 100000 in
theorem un_revoke (p : Value) (u : BA) (w : World) (hM : Calls Tryd.prog 21 #[p] w fun e w' => e = .returned (.bool false) ∧ w = w') : Calls Tryd.prog 16 #[p, .string u] w fun e w' => e = .returned (iv 1) ∧ w = w' := by
  have CM : Hid (Calls Tryd.prog 21 #[p] w fun e w' => e = .returned (.bool false) ∧ w = w') := hM
  clear hM
  go_enter Tryd.func16, Tryd.ntmps16
  go_wp2_with fail
  refine CM.out.mono ?_
  rintro e W ⟨rfl, rfl⟩
  go_wp2
  go_ret
  exact ⟨rfl, rfl⟩
set_option maxRecDepth 100000 in
theorem un_len (p : Value)  (w : World) (hM : Calls Tryd.prog 21 #[p] w fun e w' => e = .returned (.bool false) ∧ w = w') : Calls Tryd.prog 18 #[p] w fun e w' => e = .returned (iv 0) ∧ w = w' := by
  have CM : Hid (Calls Tryd.prog 21 #[p] w fun e w' => e = .returned (.bool false) ∧ w = w') := hM
  clear hM
  go_enter Tryd.func18, Tryd.ntmps18
  go_wp2_with fail
  refine CM.out.mono ?_
  rintro e W ⟨rfl, rfl⟩
  go_wp2
  go_ret
  exact ⟨rfl, rfl⟩
theorem build57z (W : World) : (Instr.build 57 #[]).run Tryd.prog W = .ok (.agg #[.slice none 0 0, .map none]) W := by kernel_rfl
theorem bs58 (b : Nat) (W : World) : (Instr.buildSlice 58 2 #[(0, .pointer none), (1, .pointer (some ⟨b, 0, none⟩))]).run Tryd.prog W = .ok (.slice (some ⟨W.heap.size, 0, none⟩) 2 2) (W.alloc (.cells #[.pointer none, .pointer (some ⟨b, 0, none⟩)] 26)) := by kernel_rfl
theorem wpList_b57 {ops : Array Oper} {rest : List Oper} {o : Oper} {a : Act} {w : World} {Q : Exit → Act → World → Prop} (hgd : o.guard = none) (hop : o.op = .build 57 #[]) (hk : wpList Tryd.prog ops Q rest (a.put o.dst (.agg #[.slice none 0 0, .map none])) w) : wpList Tryd.prog ops Q (o :: rest) a w := by
  refine wpList_plain hgd fun K hK => ?_
  have h := build57z w
  unfold Oper.wp execOp
  simp only [hop, Sem.run_bind, Sem.run_pure, Result.andThen_ok, List.map_toArray, List.map_cons, List.map_nil, h]
  exact hK _ _ hk
set_option maxRecDepth 100000 in
set_option maxHeartbeats 1000000 in
theorem nobody_law (q : ActV) (w : World) (hV : VT w) : Calls Tryd.prog 7 #[.agg q.cells.toArray] w fun e w' => e = .returned (.bool true) ∧ Below w.heap.size w w' := by
  obtain ⟨kd, u, x, now, til, n, od⟩ := q
  show Calls Tryd.prog 7 #[.agg #[iv kd, .string u, .string x, iv now, iv til, iv n, .bool od]] w _
  obtain ⟨d, hd⟩ : ∃ d, w.heap.size = d := ⟨_, rfl⟩
  obtain ⟨A, hA⟩ : ∃ A, w.alloc (.cells #[iv kd, .string u, .string x, iv now, iv til, iv n, .bool od] 32) = A := ⟨_, rfl⟩
  obtain ⟨d2, hd2⟩ : ∃ d, A.heap.size = d := ⟨_, rfl⟩
  obtain ⟨B, hB⟩ : ∃ B, A.alloc (.cells #[.slice none 0 0, .map none] 57) = B := ⟨_, rfl⟩
  obtain ⟨d3, hd3⟩ : ∃ d, B.heap.size = d := ⟨_, rfl⟩
  obtain ⟨C, hC⟩ : ∃ C, B.alloc (.cells #[.pointer none, .pointer (some ⟨d2, 0, none⟩)] 26) = C := ⟨_, rfl⟩
  have HC : Hid (Blk C d 32 [iv kd, .string u, .string x, iv now, iv til, iv n, .bool od] ∧ Blk C d2 57 [.slice none 0 0, .map none] ∧ Blk C d3 26 [.pointer none, .pointer (some ⟨d2, 0, none⟩)] ∧ Below w.heap.size w C) := by
    have b1 : Below w.heap.size w A := by rw [← hA]; exact below_al _ _
    have b2 : Below A.heap.size A B := by rw [← hB]; exact below_al _ _
    have b3 : Below B.heap.size B C := by rw [← hC]; exact below_al _ _
    have k1 : Blk A d 32 [iv kd, .string u, .string x, iv now, iv til, iv n, .bool od] := by rw [← hA, ← hd]; exact Blk.new w _ _
    have k2 : Blk B d2 57 [.slice none 0 0, .map none] := by rw [← hB, ← hd2]; exact Blk.new A _ _
    have k3 : Blk C d3 26 [.pointer none, .pointer (some ⟨d2, 0, none⟩)] := by rw [← hC, ← hd3]; exact Blk.new B _ _
    exact ⟨(k1.below b2 k1.lt).below b3 (k1.below b2 k1.lt).lt, k2.below b3 k2.lt, k3, below_tr (below_tr b1 b2) b3⟩
  have HV : Hid (VT w) := hV
  have hbs := bs58 d2
  clear hV
  go_enter Tryd.func7, Tryd.ntmps7
  go_wp2_with (with_reducible change wpList _ _ _ ({ dst := some 9, op := _, type := _, pos := _, after := _, guard := _ } :: _) _ _; refine Hid.out ?_)
  show wpList _ _ _ _ _ _
  refine wpList_b57 rfl rfl ?_
  go_wp2_with fail
  clear hbs
  go_loopw [13] (fun i wr => ∃ k : Nat, i = iv (k : Int) ∧ k ≤ 2 ∧ Hid (C = wr)) (fun i _ => 2 - (intOf i).toNat)
  case atStart => exact ⟨0, rfl, by omega, rfl⟩
  case round =>
    obtain ⟨k, rfl, hk, HW⟩ := hrel
    obtain rfl := HW.out
    have c1 : C.cell? ⟨d, 1, none⟩ = some (.string u) := HC.out.1.cell rfl
    have c2 : C.cell? ⟨d, 2, none⟩ = some (.string x) := HC.out.1.cell rfl
    have c3 : C.cell? ⟨d, 3, none⟩ = some (iv now) := HC.out.1.cell rfl
    have c4 : C.cell? ⟨d, 4, none⟩ = some (iv til) := HC.out.1.cell rfl
    have p0 : C.cell? ⟨d3, 0, none⟩ = some (.pointer none) := HC.out.2.2.1.cell rfl
    have p1 : C.cell? ⟨d3, 1, none⟩ = some (.pointer (some ⟨d2, 0, none⟩)) := HC.out.2.2.1.cell rfl
    have hkk : k = 0 ∨ k = 1 ∨ k = 2 := by omega
    rcases hkk with rfl | rfl | rfl
    · have CM : Hid (Calls Tryd.prog 21 #[.pointer none] C fun e w' => e = .returned (.bool false) ∧ C = w') := made_nil C
      go_wp2_with fail
      refine (un_issue _ u now til C CM.out).mono ?_
      rintro e W ⟨rfl, rfl⟩
      go_wp2_with fail
      refine (un_check _ x now C CM.out).mono ?_
      rintro e W ⟨rfl, rfl⟩
      go_wp2_with fail
      refine (un_revoke _ x C CM.out).mono ?_
      rintro e W ⟨rfl, rfl⟩
      go_wp2_with fail
      refine (un_len _ C CM.out).mono ?_
      rintro e W ⟨rfl, rfl⟩
      go_wp2
      go_roundw
      case rel => exact ⟨1, rfl, by omega, by first | exact rfl | exact trivial⟩
      case measure => show 2 - 1 < 2 - 0; omega
    · have CM : Hid (Calls Tryd.prog 21 #[.pointer (some ⟨d2, 0, none⟩)] C fun e w' => e = .returned (.bool false) ∧ C = w') := made_zero (HC.out.2.1.cell rfl)
      go_wp2_with fail
      refine (un_issue _ u now til C CM.out).mono ?_
      rintro e W ⟨rfl, rfl⟩
      go_wp2_with fail
      refine (un_check _ x now C CM.out).mono ?_
      rintro e W ⟨rfl, rfl⟩
      go_wp2_with fail
      refine (un_revoke _ x C CM.out).mono ?_
      rintro e W ⟨rfl, rfl⟩
      go_wp2_with fail
      refine (un_len _ C CM.out).mono ?_
      rintro e W ⟨rfl, rfl⟩
      go_wp2
      go_roundw
      case rel => exact ⟨2, rfl, by omega, by first | exact rfl | exact trivial⟩
      case measure => show 2 - 2 < 2 - 1; omega
    · go_wp2_with fail
      refine (lives_is C (HV.out.below HC.out.2.2.2)).mono ?_
      rintro e W ⟨rfl, hb⟩
      have HF : Hid (Below w.heap.size w W) := below_tr HC.out.2.2.2 hb
      clear hb
      go_wp2
      go_ret
      exact ⟨rfl, HF.out⟩
end Go.Proofs.YtjeahlfmapacfaaDoor.Oct

/- Layer 16 (token): TokenTaken. -/
namespace Go.Proofs.YtjeahlfmapacfaaDoor.Oct
open Go.RowKit Sha
set_option linter.unusedSimpArgs false
set_option linter.unusedVariables false

theorem u9 : Tryd.prog.underlying 9 = some .string := Tryd.underlying9
theorem run_idx (s : BA) (i : Nat) (c : UInt8) (h : s.data.toList[i]? = some c) (W : World) : (Instr.index 9 (.string s) (iv (i : Int))).run Tryd.prog W = .ok (bv (c.toNat : Int)) W := by
  have hs : s[i]? = some c := by
    have hi := (List.getElem?_eq_some_iff.1 h).1
    have hi' : i < s.size := hi
    rw [getElem?_pos s i hi']
    have := (List.getElem?_eq_some_iff.1 h).2
    rw [← this]
    rfl
  simp [Instr.index, run_underlying u9, asIntOf, hs, go_sem]
theorem wpList_idx {ops : Array Oper} {rest : List Oper} {o : Oper} {a : Act} {w : World} {Q : Exit → Act → World → Prop} (hgd : o.guard = none) (x y : Operand) (hop : o.op = .index 9 x y) (s : BA) (i : Nat) (c : UInt8) (hx : a.eval x = .string s) (hy : a.eval y = iv (i : Int)) (h : s.data.toList[i]? = some c)
    (hk : wpList Tryd.prog ops Q rest (a.put o.dst (bv (c.toNat : Int))) w) : wpList Tryd.prog ops Q (o :: rest) a w := by
  refine wpList_plain hgd fun K hK => ?_
  have h1 := run_idx s i c h w
  unfold Oper.wp execOp
  simp only [hop, Sem.run_bind, Sem.run_pure, Result.andThen_ok, hx, hy, h1]
  exact hK _ _ hk
theorem key_len {S : List UInt8} {k : Nat} {g : Gr} (hk : k ≤ 900) (ht : g.t ≤ 1099511627776) : (keyG S k g).length ≤ g.u.size + 200 := by
  have z1 := dec_len (k + 1) (by omega)
  have z2 := dec_len g.t ht
  have z3 : g.u.data.toList.length = g.u.size := rfl
  have z5 := hexOf_length (tagOf S (bodyT (k + 1) g.u.data.toList g.t))
  rw [tagOf_len] at z5
  unfold keyG txtT sealT
  rw [List.length_append, List.length_cons, z5]
  unfold bodyT
  simp only [List.length_append, List.length_cons]
  omega
theorem at_rev {S : List UInt8} {h : List UInt8} {g : Gr} : ∀ (k : Nat) (G : List Gr), atF S k G h = some g → atF S k (revF S k G h) h = some { g with bk := true }
  | _, [], e => by simp [atF] at e
  | k, x :: r, e => by
    unfold atF at e
    unfold revF
    by_cases hx : keyG S k x = h
    · rw [if_pos hx] at e
      cases e
      rw [if_pos hx]
      unfold atF
      rw [if_pos (show keyG S k { g with bk := true } = h from hx)]
    · rw [if_neg hx] at e
      rw [if_neg hx]
      unfold atF
      rw [if_neg hx]
      exact at_rev (k + 1) r e
theorem at_last {S : List UInt8} {G : List Gr} {g : Gr} {h : List UInt8} (hG : G.length ≤ 256) (hh : h = keyG S G.length g) : atF S 0 (G ++ [g]) h = some g := by
  rw [at_app, hh, at_none (by omega) 0 G (by omega), Nat.zero_add]
  show (none : Option Gr).or (if keyG S G.length g = keyG S G.length g then some g else none) = some g
  rw [if_pos rfl]
  rfl
/-- what any Issue leaves -/
theorem IsP.any {w w' : World} {b m : Nat} {S : List UInt8} {G : List Gr} {u : BA} {now til : Int} {e : Ending} (hB : BkAt w b m S G) (h : IsP w b m S G u now til e w') : ∃ X E, e = .returned (.tuple #[.string X, iv E]) ∧ w.grownBy w' (some m) ∧ ∃ G', BkAt w' b m S G' ∧ G'.length ≤ G.length + 1 := by
  rcases h with ⟨_, h1, h2⟩ | ⟨_, X, _, h1, h2, h3⟩
  · exact ⟨_, _, h1, gr_of h2, G, hB.below h2, by omega⟩
  · exact ⟨_, _, h1, h3, _, h2, by simp⟩
set_option maxRecDepth 100000 in
set_option maxHeartbeats 1000000 in
theorem point_is (s : BA) (hs : s.size ≤ 20000000) (w : World) (B : Bool) (hB : decide ((46 : UInt8) ∈ s.data.toList) = B) : Calls Tryd.prog 19 #[.string s] w fun e w' => e = .returned (.bool B) ∧ w = w' := by
  obtain ⟨n, hn⟩ : ∃ n, s.size = n := ⟨_, rfl⟩
  have qn : (s.size : Int) = (n : Int) := by omega
  have qn2 : (n : Int) ≤ 20000000 := by omega
  obtain ⟨L, hL⟩ : ∃ L, s.data.toList = L := ⟨_, rfl⟩
  have HL : Hid (s.data.toList = L ∧ L.length = n) := ⟨hL, by rw [← hL, ← hn]; rfl⟩
  rw [hL] at hB
  have HB : Hid (decide ((46 : UInt8) ∈ L) = B) := hB
  clear hs hL hn hB
  go_enter Tryd.func19, Tryd.ntmps19
  go_wp2_with fail
  go_loopw [6] (fun u wr => ∃ i : Nat, u = iv (i : Int) ∧ (i : Int) ≤ (n : Int) ∧ Hid ((46 : UInt8) ∉ L.take i ∧ w = wr)) (fun u _ => n - (intOf u).toNat)
  case atStart => exact ⟨0, rfl, by omega, by simp, rfl⟩
  case round =>
    obtain ⟨i, rfl, q1, HI⟩ := hrel
    obtain ⟨hI, hw⟩ := HI.out
    subst hw
    clear HI
    by_cases hi : i = n
    · subst hi
      have HF : Hid (B = false) := by
        rw [List.take_of_length_le (by rw [HL.out.2]; exact Nat.le_refl _)] at hI
        show B = false
        rw [← HB.out]
        simpa using hI
      obtain rfl := HF.out
      clear hI HF
      go_wp2
      go_ret
      exact ⟨rfl, rfl⟩
    · have q2 : (i : Int) < (n : Int) := by omega
      obtain ⟨x, hx⟩ : ∃ x, L[i]? = some x := ⟨_, List.getElem?_eq_getElem (by rw [HL.out.2]; omega)⟩
      have HX : Hid (s.data.toList[i]? = some x) := by rw [HL.out.1]; exact hx
      by_cases hxc : x = 46
      · subst hxc
        have HF : Hid (B = true) := by
          show B = true
          rw [← HB.out]
          simpa using List.mem_of_getElem? hx
        obtain rfl := HF.out
        clear hx hI hi HF
        go_wp2_with (with_reducible change wpList _ _ _ ({ dst := some 11, op := _, type := _, pos := _, after := _, guard := _ } :: _) _ _; refine Hid.out ?_)
        show wpList _ _ _ _ _ _
        refine wpList_idx rfl (.tmp 9) (.tmp 10) rfl s i 46 rfl rfl HX.out ?_
        go_wp2
        go_ret
        exact ⟨rfl, rfl⟩
      · have hne : ((x.toNat : Int) == 46) = false := by rw [beq_eq_false_iff_ne]; exact fun h => hxc (UInt8.toNat_inj.1 (by show x.toNat = 46; omega))
        have HF : Hid ((46 : UInt8) ∉ L.take (i + 1) ∧ i < n) := ⟨by
          rw [List.take_add_one, hx]
          simp only [Option.toList_some, List.mem_append, List.mem_singleton, not_or]
          exact ⟨hI, fun h => hxc h.symm⟩, by omega⟩
        clear hx hI hi hxc
        go_wp2_with (with_reducible change wpList _ _ _ ({ dst := some 11, op := _, type := _, pos := _, after := _, guard := _ } :: _) _ _; refine Hid.out ?_)
        show wpList _ _ _ _ _ _
        refine wpList_idx rfl (.tmp 9) (.tmp 10) rfl s i x rfl rfl HX.out ?_
        go_wp2
        go_roundw
        case rel => exact ⟨i + 1, by simp, by have := HF.out.2; omega, HF.out.1, by first | exact rfl | exact trivial⟩
        case measure => have := HF.out.2; simp only [intOf]; omega
end Go.Proofs.YtjeahlfmapacfaaDoor.Oct

/- Layer 16 (token): TokenNone: its arguments; a byte turned. -/
namespace Go.Proofs.YtjeahlfmapacfaaDoor.Oct
open Go.RowKit Go.ChangeShapes Go.WideShapes Go.ChangeAt Go.Deep Sha
set_option maxRecDepth 100000
set_option linter.unusedSimpArgs false
set_option linter.unusedVariables false

structure Sl where
  a : Option Addr
  n : Nat
  c : Nat
def Txt (w : World) (f : Sl) (l : List UInt8) : Prop := In w f.a f.n f.c l
theorem len2 {α : Type} {l : List α} (h : l.length = 2) : ∃ a0 a1, l = [a0, a1] := by
  match l, h with
  | [a0, a1], _ => exact ⟨a0, a1, rfl⟩
section
variable {H : Type} {enc : TypeId × Value → H} {w : World}
theorem fld_strs {n : Nat} {cs : List Value} {x : DataW H × List MemPlace} (h : DataW.trod enc Tryd.prog w 0 (fun _ => true) true n 22 cs = some x) (hx : ∀ k ∈ x.1.weights Tryd.prog 22, k ≤ reachBytes) :
    ∃ (f : Sl) (l : List UInt8), cs = [.slice f.a f.n f.c] ∧ Txt w f l := by
  have h' := h
  rcases open_slice Tryd.underlying22 h with ⟨hcs, _⟩ | ⟨ad, l, c, m, k, D, Pl, hcs, _, hl, hm, hmm, hd, hr⟩
  · exact ⟨⟨none, 0, 0⟩, [], hcs, In.nil w⟩
  · subst hcs
    have h2 : DataW.trod enc Tryd.prog w 0 (fun _ => true) true n 22 (Value.slice (some ad) l c).cells.toList = some (x.1, x.2) := h'
    obtain ⟨bs, hbs, _⟩ := view_bytes Tryd.underlying22 Tryd.underlying5 (by kernel_rfl) h2
    have hw : (l + (m - l)) * 1 ∈ x.1.weights Tryd.prog 22 := by
      rw [hd]
      simp only [DataW.weights, Tryd.underlying22]
      rw [show Tryd.prog.bytesOf 5 = 1 by kernel_rfl]
      simp
    have hsz := hx _ hw
    simp only [reachBytes] at hsz
    exact ⟨⟨some ad, l, c⟩, bs, rfl, hbs.toIn (by omega)⟩
theorem cells_books {fuel : Nat} {cs : List Value} {x : DataW H × List MemPlace} (h : DataW.trod enc Tryd.prog w 0 (fun _ => true) true fuel 51 cs = some x) (hx : ∀ k ∈ x.1.weights Tryd.prog 51, k ≤ reachBytes) :
    ∃ (f0 : Sl) (l0 : List UInt8) (f1 : Sl) (l1 : List UInt8), cs = [.slice f0.a f0.n f0.c] ++ ([.slice f1.a f1.n f1.c]) ∧ Txt w f0 l0 ∧ Txt w f1 l1 := by
  obtain ⟨ys, k, hk, hxy, hcl, hxl, hf⟩ := DataW.trod_struct Tryd.underlying51 h
  have hcl' : cs.length = 2 := by rw [hcl]; kernel_rfl
  have hxl' : ys.length = 2 := hxl
  obtain ⟨y0, y1, rfl⟩ := len2 hxl'
  have g0 := hf 0 _ rfl
  change DataW.trod enc Tryd.prog w 0 _ true k 22 ((cs.drop 0).take (Tryd.prog.cellsOf 22)) = some y0 at g0
  rw [show Tryd.prog.cellsOf 22 = 1 by kernel_rfl] at g0
  have w0 : ∀ q ∈ y0.1.weights Tryd.prog 22, q ≤ reachBytes := fun q hq => hx q (by
    rw [show x.1 = DataW.agg [y0.1, y1.1] from congrArg Prod.fst hxy]
    simp only [DataW.weights, Tryd.underlying51, DataW.weightsEach, List.map, List.mem_append]
    exact .inl hq)
  obtain ⟨f0, l0, e0, b0⟩ := fld_strs g0 w0
  have g1 := hf 1 _ rfl
  change DataW.trod enc Tryd.prog w 0 _ true k 22 ((cs.drop 1).take (Tryd.prog.cellsOf 22)) = some y1 at g1
  rw [show Tryd.prog.cellsOf 22 = 1 by kernel_rfl] at g1
  have w1 : ∀ q ∈ y1.1.weights Tryd.prog 22, q ≤ reachBytes := fun q hq => hx q (by
    rw [show x.1 = DataW.agg [y0.1, y1.1] from congrArg Prod.fst hxy]
    simp only [DataW.weights, Tryd.underlying51, DataW.weightsEach, List.map, List.mem_append]
    exact .inr (.inl hq))
  obtain ⟨f1, l1, e1, b1⟩ := fld_strs g1 w1
  refine ⟨f0, l0, f1, l1, ?_, b0, b1⟩
  refine (show cs = cs.drop 0 from rfl).trans ?_
  rw [cut_at cs 0 1 1 rfl, e0]
  refine congrArg (fun z : List Value => ([.slice f0.a f0.n f0.c] : List Value) ++ z) ?_
  rw [cut_last cs 1 1 hcl', e1]
/-- two secrets, told -/
structure BooksV where
  f : Sl
  g : Sl
def BooksV.cells (q : BooksV) : List Value := [.slice q.f.a q.f.n q.f.c, .slice q.g.a q.g.n q.g.c]
def BooksV.at (q : BooksV) (w : World) : Prop := (∃ l, Txt w q.f l) ∧ ∃ l, Txt w q.g l
theorem view_books {fuel : Nat} {xs : Array Value} {x : DataW H × List MemPlace} (h : DataW.trod enc Tryd.prog w 0 (fun _ => true) true fuel 51 (Value.agg xs).cells.toList = some x) (hw : ∀ n ∈ x.1.weights Tryd.prog 51, n ≤ reachBytes) :
    ∃ q : BooksV, xs = q.cells.toArray ∧ q.at w := by
  obtain ⟨f0, l0, f1, l1, e, b0, b1⟩ := cells_books h hw
  refine ⟨⟨f0, f1⟩, ?_, ⟨l0, b0⟩, l1, b1⟩
  have e' : xs.toList = BooksV.cells ⟨f0, f1⟩ := by simpa [Value.cells, BooksV.cells] using e
  rw [← e']
end
theorem xor1f : ∀ x : Fin 256, bits BinOp.xor IntKind.u8 (x.val : Int) 1 = (((UInt8.ofNat x.val) ^^^ 1).toNat : Int) := by decide +kernel
theorem xor1 (c : UInt8) : bits BinOp.xor IntKind.u8 (c.toNat : Int) 1 = ((c ^^^ 1).toNat : Int) := by
  have := xor1f ⟨c.toNat, c.toNat_lt⟩
  simpa using this
theorem xor1_nef : ∀ x : Fin 256, (UInt8.ofNat x.val) ^^^ 1 ≠ UInt8.ofNat x.val := by decide +kernel
theorem xor1_ne (c : UInt8) : c ^^^ 1 ≠ c := by
  have := xor1_nef ⟨c.toNat, c.toNat_lt⟩
  simpa using this
/-- '[]byte(s)', whose bytes may be written -/
theorem label_free (w : World) (s : BA) (hsz : s.size ≤ 140737488355328) :
    ∃ cap W, (convert 9 22 (.string s)).run Tryd.prog w = .ok (.slice (some ⟨w.heap.size, 0, none⟩) s.size cap) W ∧ Hid (In W (some ⟨w.heap.size, 0, none⟩) s.size cap s.data.toList) ∧ Hid (∀ j, j < s.size → W.frozen? ⟨w.heap.size, j, none⟩ = false) ∧ Hid (Below w.heap.size w W) := by
  have hge := grownCap_ge w s.size 0 5
  have h1 := run_bytes_of_string (P := Tryd.prog) w 9 22 5 s Tryd.underlying9 Tryd.underlying22 Tryd.underlying5
  obtain ⟨cap, W, h2, h3, _, h4, _⟩ := label_made (P := Tryd.prog) w 9 22 5 s Tryd.underlying9 Tryd.underlying22 Tryd.underlying5 hsz
  rw [h1] at h2
  cases h2
  refine ⟨_, _, h1, h3, fun j hj => ?_, h4⟩
  have e2 := World.frozen?_alloc_mark w.drew (bytesRow s (grownCap w s.size 0 5)) 5 (bytesRow s (grownCap w s.size 0 5)).size ((bytesRow s (grownCap w s.size 0 5)).size + 1) j
  refine e2.trans ?_
  have hb := bytesRow_size s (grownCap w s.size 0 5) hge
  rw [hb]
  simp
  omega
theorem in_set {w : World} {b n c i : Nat} {l : List UInt8} (h : In w (some ⟨b, 0, none⟩) n c l) (hi : i < n) (x : UInt8) : In (w.setCell ⟨b, i, none⟩ (bv (x.toNat : Int))) (some ⟨b, 0, none⟩) n c (l.set i x) := by
  have hg : w.grownBy (w.setCell ⟨b, i, none⟩ (bv (x.toNat : Int))) (some b) := grown_setCell _ _ _ _
  refine ⟨by rw [List.length_set]; exact h.1, h.2.1, h.2.2.1, h.2.2.2.1, fun hp => ?_⟩
  obtain ⟨b', off, e1, e2, e3⟩ := h.2.2.2.2 hp
  cases e1
  refine ⟨b, 0, rfl, Nat.lt_of_lt_of_le e2 hg.size, fun j cc hcc => ?_⟩
  rw [List.getElem?_set] at hcc
  split at hcc
  · rename_i hij
    subst hij
    rw [if_pos (by rw [h.1]; exact hi)] at hcc
    cases hcc
    obtain ⟨c0, hc0⟩ : ∃ c0, l[i]? = some c0 := ⟨_, List.getElem?_eq_getElem (by rw [h.1]; exact hi)⟩
    have := e3 i c0 hc0
    rw [Nat.zero_add] at this ⊢
    exact World.cell?_setCell_same' w _ _ (by rw [this]; rfl)
  · rename_i hij
    have hne : (⟨b, i, none⟩ : Addr) ≠ ⟨b, 0 + j, none⟩ := by intro e; simp only [Addr.mk.injEq, true_and, and_true] at e; omega
    exact (World.cell?_setCell_other w _ _ _ hne).trans (e3 j cc hcc)
theorem set_ne {l : List UInt8} {i : Nat} {c : UInt8} (h : l[i]? = some c) : l.set i (c ^^^ 1) ≠ l := by
  intro e
  have h1 : (l.set i (c ^^^ 1))[i]? = some (c ^^^ 1) := by
    rw [List.getElem?_set, if_pos rfl, if_pos (List.getElem?_eq_some_iff.1 h).1]
  rw [e, h] at h1
  exact xor1_ne c (Option.some.inj h1).symm
set_option maxRecDepth 100000 in
set_option maxHeartbeats 4000000 in
theorem no1 {Q : Exit → Act → World → Prop} {x0 x1 x2 x4 x5 x6 x7 x8 x9 x10 x11 x12 x13 x14 x15 x16 x17 x18 x19 x20 x21 x22 x23 x24 x25 x26 x27 x28 x29 x30 x31 x32 x33 x34 x35 x36 x37 x38 x39 x40 x41 x42 x43 x44 x45 x46 x47 x48 x49 x50 x51 x52 x53 x54 x55 x56 x57 x58 x59 x60 x61 x62 x63 x64 x65 x66 x67 x68 x69 x70 x71 x72 x73 x74 x75 x76 x77 x78 x79 x80 x81 x82 x83 x84 x85 x86 x87 x88 x89 x90 x91 x92 x93 x94 x95 x96 x97 x98 x99 x100 x101 x102 x103 x104 x105 x106 x107 x108 x109 x110 x111 x112 x113 x114 x115 x116 x117 x118 x119 x120 x121 x122 x123 x124 x125 x126 x127 x128 x129 x130 x131 x132 : Value} {ds : List Deferred} {A : World} {d : Nat} {sa sb : Value}
    (HL : Hid (d < A.heap.size)) (c0 : A.cell? ⟨d, 0, none⟩ = some sa) (c1 : A.cell? ⟨d, 1, none⟩ = some sb)
    (hQ : ∀ V1, Below A.heap.size A V1 → Q .normal { tmps := #[x0, x1, x2, .pointer (some ⟨d, 0, none⟩), x4, x5, x6, sa, sb, x9, x10, x11, x12, x13, x14, x15, x16, x17, x18, x19, .pointer (some ⟨d, 0, none⟩), sa, .pointer (some ⟨d, 1, none⟩), sb, x24, x25, x26, x27, x28, x29, x30, x31, x32, x33, x34, x35, x36, x37, x38, x39, x40, x41, x42, x43, x44, x45, x46, x47, x48, x49, x50, x51, x52, x53, x54, x55, x56, x57, x58, x59, x60, x61, x62, x63, x64, x65, x66, x67, x68, x69, x70, x71, x72, x73, x74, x75, x76, x77, x78, x79, x80, x81, x82, x83, x84, x85, x86, x87, x88, x89, x90, x91, x92, x93, x94, x95, x96, x97, x98, x99, x100, x101, x102, x103, x104, x105, x106, x107, x108, x109, x110, x111, x112, x113, x114, x115, x116, x117, x118, x119, x120, x121, x122, x123, x124, x125, x126, x127, x128, x129, x130, x131, x132], defers := ds } V1) :
    (Code.region 1 #[{ dst := some 20, op := Op.fieldAddr 51 (Operand.tmp 3) 0, type := 0, pos := "law.go:131", after := #[], guard := none }, { dst := some 21, op := Op.load 22 (Operand.tmp 20), type := 22, pos := "law.go:131", after := #[{ on := 0, ground := Ground.data }], guard := none }, { dst := some 22, op := Op.fieldAddr 51 (Operand.tmp 3) 1, type := 0, pos := "law.go:131", after := #[{ on := 4, ground := Ground.gcOnly Departure.lateStores }], guard := none }, { dst := some 23, op := Op.load 22 (Operand.tmp 22), type := 22, pos := "law.go:131", after := #[{ on := 2, ground := Ground.data }, { on := 4, ground := Ground.gcOnly Departure.lateStores }], guard := none }, { dst := some 7, op := Op.assign (Operand.tmp 21), type := 22, pos := "law.go:131", after := #[{ on := 1, ground := Ground.data }, { on := 0, ground := Ground.phase }, { on := 1, ground := Ground.phase }, { on := 2, ground := Ground.textOnly Departure.lateStores }, { on := 3, ground := Ground.textOnly Departure.lateStores }], guard := none }, { dst := some 8, op := Op.assign (Operand.tmp 23), type := 22, pos := "law.go:131", after := #[{ on := 3, ground := Ground.data }, { on := 4, ground := Ground.chain }, { on := 0, ground := Ground.phase }, { on := 1, ground := Ground.phase }, { on := 2, ground := Ground.phase }, { on := 3, ground := Ground.phase }, { on := 4, ground := Ground.phase }], guard := none }] true).wp Tryd.prog Q { tmps := #[x0, x1, x2, .pointer (some ⟨d, 0, none⟩), x4, x5, x6, x7, x8, x9, x10, x11, x12, x13, x14, x15, x16, x17, x18, x19, x20, x21, x22, x23, x24, x25, x26, x27, x28, x29, x30, x31, x32, x33, x34, x35, x36, x37, x38, x39, x40, x41, x42, x43, x44, x45, x46, x47, x48, x49, x50, x51, x52, x53, x54, x55, x56, x57, x58, x59, x60, x61, x62, x63, x64, x65, x66, x67, x68, x69, x70, x71, x72, x73, x74, x75, x76, x77, x78, x79, x80, x81, x82, x83, x84, x85, x86, x87, x88, x89, x90, x91, x92, x93, x94, x95, x96, x97, x98, x99, x100, x101, x102, x103, x104, x105, x106, x107, x108, x109, x110, x111, x112, x113, x114, x115, x116, x117, x118, x119, x120, x121, x122, x123, x124, x125, x126, x127, x128, x129, x130, x131, x132], defers := ds } A := by
  refine Code.wp_mono (Q := fun x a' w' => match x with | .normal => Q .normal a' w' | _ => False) (by intro x a' w' h; cases x <;> first | exact h | exact h.elim) ?_
  refine wp_region_held (S := fun V => Below A.heap.size A V) (by kernel_rfl) ?_
  have hS0 : Hid (Below A.heap.size A A.drew) := below_drew0 A
  change wpAnyH Tryd.prog .any _ _ (fun V => Below A.heap.size A V) 6 (Array.replicate 6 false) _ A.drew
  obtain ⟨V0, hV0⟩ : ∃ V0, A.drew = V0 := ⟨_, rfl⟩
  rw [hV0]
  rw [hV0] at hS0
  clear hV0
  refine wpAnyH_take (i := 0) (oi := { dst := some 20, op := Op.fieldAddr 51 (Operand.tmp 3) 0, type := 0, pos := "law.go:131", after := #[], guard := none }) (v := .pointer (some ⟨d, 0, none⟩)) rfl (by kernel_rfl) (by kernel_rfl) (by kernel_rfl) (fun _ _ _ h => h.elim) (Or.inl ⟨by rfl, ?y1⟩) hS0.out ?_
  case y1 =>
    intro V hV
    go_simp
  simp only [Act.put, List.setIfInBounds_toArray, List.set_cons_zero, List.set_cons_succ]
  refine wpAnyH_take (i := 1) (oi := { dst := some 21, op := Op.load 22 (Operand.tmp 20), type := 22, pos := "law.go:131", after := #[{ on := 0, ground := Ground.data }], guard := none }) (v := sa) rfl (by kernel_rfl) (by kernel_rfl) (by kernel_rfl) (fun _ _ _ h => h.elim) (Or.inl ⟨by rfl, ?y2⟩) hS0.out ?_
  case y2 =>
    intro V hV
    have hc : V.cell? ⟨d, 0, none⟩ = some (sa) := ((show Below A.heap.size A V from hV).cell (p := ⟨d, 0, none⟩) HL.out).trans c0
    go_simp
  simp only [Act.put, List.setIfInBounds_toArray, List.set_cons_zero, List.set_cons_succ]
  refine wpAnyH_take (i := 2) (oi := { dst := some 22, op := Op.fieldAddr 51 (Operand.tmp 3) 1, type := 0, pos := "law.go:131", after := #[{ on := 4, ground := Ground.gcOnly Departure.lateStores }], guard := none }) (v := .pointer (some ⟨d, 1, none⟩)) rfl (by kernel_rfl) (by kernel_rfl) (by kernel_rfl) (fun _ _ _ h => h.elim) (Or.inl ⟨by rfl, ?y3⟩) hS0.out ?_
  case y3 =>
    intro V hV
    go_simp
  simp only [Act.put, List.setIfInBounds_toArray, List.set_cons_zero, List.set_cons_succ]
  refine wpAnyH_take (i := 3) (oi := { dst := some 23, op := Op.load 22 (Operand.tmp 22), type := 22, pos := "law.go:131", after := #[{ on := 2, ground := Ground.data }, { on := 4, ground := Ground.gcOnly Departure.lateStores }], guard := none }) (v := sb) rfl (by kernel_rfl) (by kernel_rfl) (by kernel_rfl) (fun _ _ _ h => h.elim) (Or.inl ⟨by rfl, ?y4⟩) hS0.out ?_
  case y4 =>
    intro V hV
    have hc : V.cell? ⟨d, 1, none⟩ = some (sb) := ((show Below A.heap.size A V from hV).cell (p := ⟨d, 1, none⟩) HL.out).trans c1
    go_simp
  simp only [Act.put, List.setIfInBounds_toArray, List.set_cons_zero, List.set_cons_succ]
  refine wpAnyH_take (i := 4) (oi := { dst := some 7, op := Op.assign (Operand.tmp 21), type := 22, pos := "law.go:131", after := #[{ on := 1, ground := Ground.data }, { on := 0, ground := Ground.phase }, { on := 1, ground := Ground.phase }, { on := 2, ground := Ground.textOnly Departure.lateStores }, { on := 3, ground := Ground.textOnly Departure.lateStores }], guard := none }) (v := sa) rfl (by kernel_rfl) (by kernel_rfl) (by kernel_rfl) (fun _ _ _ h => h.elim) (Or.inl ⟨by rfl, ?y5⟩) hS0.out ?_
  case y5 =>
    intro V hV
    go_simp
  simp only [Act.put, List.setIfInBounds_toArray, List.set_cons_zero, List.set_cons_succ]
  refine wpAnyH_take (i := 5) (oi := { dst := some 8, op := Op.assign (Operand.tmp 23), type := 22, pos := "law.go:131", after := #[{ on := 3, ground := Ground.data }, { on := 4, ground := Ground.chain }, { on := 0, ground := Ground.phase }, { on := 1, ground := Ground.phase }, { on := 2, ground := Ground.phase }, { on := 3, ground := Ground.phase }, { on := 4, ground := Ground.phase }], guard := none }) (v := sb) rfl (by kernel_rfl) (by kernel_rfl) (by kernel_rfl) (fun _ _ _ h => h.elim) (Or.inl ⟨by rfl, ?y6⟩) hS0.out ?_
  case y6 =>
    intro V hV
    go_simp
  simp only [Act.put, List.setIfInBounds_toArray, List.set_cons_zero, List.set_cons_succ]
  refine wpAnyH_done (by kernel_rfl) ?_ _
  exact hQ V0 hS0.out
end Go.Proofs.YtjeahlfmapacfaaDoor.Oct
