/-
  Layer 15 (people): PeopleOwners.
-/
import Derived.Test.YtfickhhfhdhcbaaDip
namespace Go.Proofs.Ytfickhhfhdhcbaa.Oct
open Go.RowKit
set_option linter.unusedSimpArgs false
set_option linter.unusedVariables false

theorem field42 (a b c : Value) (W : World) : (Instr.field 42 (.agg #[a, b, c]) 2).run Try.prog W = .ok c W := by kernel_rfl
set_option maxRecDepth 100000 in
set_option maxHeartbeats 8000000 in
theorem owners_law (l : List Av) (a : Option Addr) (n cp0 : Nat) (w : World) (hl : ArgA w a n cp0 l) :
    Calls Try.prog 4 #[.slice a n cp0] w fun e w' => e = .returned (.bool true) ∧ Below w.heap.size w w' := by
  have hz32 := zero32
  have hz42 : ∀ W, (zeroValue 42).run Try.prog W = .ok (.agg #[.string ⟨#[]⟩, .slice none 0 0, .int .i64 0]) W := fun W => by kernel_rfl
  have HFEW := few_is l a n cp0 w hl
  have HL : Hid (ArgA w a n cp0 l) := hl
  have qn : (n : Int) ≤ 2199023255552 := by have := hl.2.1; omega
  have HLV := fun W => lives_is W
  clear hl
  go_enter Try.func4, Try.ntmps4
  go_wp2_with fail
  refine HFEW.mono ?_
  rintro e w1 ⟨r, rfl, hb1⟩
  have HB1 : Hid (Below w.heap.size w w1) := hb1
  clear HFEW hb1
  cases r with
  | false =>
    have HLW := HLV w1
    go_wp2_with fail
    refine HLW.mono ?_
    rintro e w2 ⟨rfl, hb2⟩
    have HB2 : Hid (Below w.heap.size w w2) := below_tr HB1.out hb2
    clear HLW hb2
    go_wp2_with fail
    go_ret
    exact ⟨rfl, HB2.out⟩
  | true =>
    have HNEW := new_is w1
    go_wp2_with fail
    refine HNEW.mono ?_
    rintro e w2 ⟨rfl, hq0, hb2⟩
    obtain ⟨p, hp⟩ : ∃ p, w1.heap.size + 1 + 1 = p := ⟨_, rfl⟩
    rw [hp] at hq0 ⊢
    have HO0 : Hid (PB w.heap.size w2 p (Pm0 w1.heap.size) ∧ Sh (Pm0 w1.heap.size) ∧ Below w.heap.size w w2) := by
      have h1 := HB1.out.size
      have h2 := hb2.size
      refine ⟨⟨hq0, fun k hk => ?_, by omega⟩, Sh.zero _, below_tr HB1.out hb2⟩
      simp [Pm.bl, Pm.hp, Pm0] at hk
      omega
    clear HNEW hq0 hb2 hp
    go_wp2
    go_loopw [18] (fun u W => ∃ (i : Nat) (M : Pm), u = iv i ∧ Hid (i ≤ n ∧ PB w.heap.size W p M ∧ Sh M ∧ Below w.heap.size w W)) (fun u _ => n - (intOf u).toNat)
    case atStart => exact ⟨0, _, rfl, Nat.zero_le _, HO0.out⟩
    case round =>
      obtain ⟨i, M, rfl, HI⟩ := hrel
      by_cases hi : i = n
      · have q1 : (n : Int) ≤ (i : Int) := by omega
        have HLW := HLV wr
        clear hi
        go_wp2_with fail
        refine HLW.mono ?_
        rintro e w9 ⟨rfl, hb9⟩
        have HB9 : Hid (Below w.heap.size w w9) := below_tr HI.out.2.2.2 hb9
        clear HLW hb9
        go_wp2_with fail
        go_ret
        exact ⟨rfl, HB9.out⟩
      · have HQ : Hid (i < n) := by have := HI.out.1; show _ < _; omega
        have q1 : (i : Int) < (n : Int) := by have := HQ.out; omega
        have q2 : i < n := HQ.out
        obtain ⟨ab, off, ha, hbl, hc⟩ := HL.out.2.2.2 (by omega)
        subst ha
        obtain ⟨x, hx⟩ : ∃ x, l[i]? = some x := ⟨_, List.getElem?_eq_getElem (by rw [HL.out.1]; exact q2)⟩
        have hr : wr.rangeAt ab (off + i * 5) x.cells := rangeAt_same (hc i x hx) (HI.out.2.2.2.block ab hbl)
        have HR : Hid (wr.rangeAt ab (off + i * 5) x.cells) := hr
        have HOK : Hid (x.ok) := HL.out.2.2.1 x (List.mem_of_getElem? hx)
        clear hi hc hx hbl hr
        go_wp2_with (with_reducible change wpList _ _ _ ({ dst := some 21, op := _, type := _, pos := _, after := _, guard := _ } :: _) _ _; refine Hid.out ?_)
        show wpList _ _ _ _ _ _
        refine wpList_load_want rfl 32 (.tmp 20) rfl ab (off + i * 5) rfl x.cells _ HR.out Try.underlying32 rfl size32 ?_
        simp only [Act.put, List.setIfInBounds_toArray, List.set_cons_zero, List.set_cons_succ]
        obtain ⟨g5, hg5⟩ : ∃ g, wr.heap.size = g := ⟨_, rfl⟩
        go_wp2_with (with_reducible change wpList _ _ _ ({ dst := none, op := Op.store 32 _ _, type := _, pos := _, after := _, guard := _ } :: _) _ _; refine Hid.out ?_)
        show wpList _ _ _ _ _ _
        refine wpList_store_blk rfl 32 (.tmp 5) (.tmp 21) rfl g5 0 32 [iv 0, .string ⟨#[]⟩, .string ⟨#[]⟩, .string ⟨#[]⟩, iv 0] x.cells rfl rfl (by rw [← hg5]; exact Blk.new wr _ _) (by simp [Av.cells]) size32 (Av.one x) ?_
        intro V1 hb5' hg6
        have hV : Below wr.heap.size wr V1 := (below_al wr _).grown hg6.out (below_al wr _).size (fun j hj => by cases hj; omega)
        have H1 : Hid (PB w.heap.size V1 p M ∧ Below w.heap.size w V1 ∧ Blk V1 g5 32 x.cells ∧ g5 ∉ M.bl p ∧ w.heap.size ≤ g5) := by
          have h := HI.out.2.1
          have h1 := hV.size
          exact ⟨⟨h.1.below hV, h.2.1, by have := h.2.2; omega⟩, below_tr HI.out.2.2.2 hV, hb5'.out, fun e => by have := h.1.hp.lt _ e; omega, by have := h.2.2; omega⟩
        clear hb5' hg6 hV hg5 HR
        go_wp2_with (with_reducible change wpList _ _ _ ({ dst := some 23, op := _, type := _, pos := _, after := _, guard := _ } :: _) _ _; refine Hid.out ?_)
        show wpList _ _ _ _ _ _
        refine wpList_load_want rfl 32 (.tmp 5) rfl g5 0 rfl x.cells _ (by have := H1.out.2.2.1.range 0 5; simpa [Av.cells] using this) Try.underlying32 rfl size32 ?_
        simp only [Act.put, List.setIfInBounds_toArray, List.set_cons_zero, List.set_cons_succ]
        have HDO : Calls Try.prog 11 #[.pointer (some ⟨p, 0, none⟩), .agg x.cells.toArray] V1 fun e w' => e = .returned (iv (doE M x)) ∧ ∃ M', PAfter V1 p M M' w' ∧ Hid (Did M x M') := do_is H1.out.1.1 x HOK.out
        go_wp2_with fail
        refine HDO.mono ?_
        rintro e V2 ⟨rfl, M2, ha2, hd2⟩
        have H2 : Hid (PB w.heap.size V2 p M2 ∧ Sh M2 ∧ Below w.heap.size w V2 ∧ Blk V2 g5 32 x.cells) := by
          obtain ⟨h1, h2⟩ := ha2.toB H1.out.1
          exact ⟨h1, hd2.out.sh HI.out.2.2.1 HOK.out, H1.out.2.1.trans h2, ha2.2.2.blk H1.out.2.2.1 H1.out.2.2.2.1⟩
        clear HDO ha2 hd2
        have HOR := orgs_is H2.out.1.1
        go_wp2_with fail
        refine HOR.mono ?_
        rintro e V3 ⟨ao, no, co, rfl, HO⟩
        have H3 : Hid (StrAt V3 ao no (orgsL M2) ∧ no ≤ 8 ∧ Below V2.heap.size V2 V3) := HO.out
        have qo : (no : Int) ≤ 8 := by have := HO.out.2.1; omega
        clear HOR HO
        go_wp2
        go_loopw [28] (fun u W => ∃ (j : Nat), u = iv j ∧ Hid (j ≤ no ∧ Below V2.heap.size V2 W ∧ Below V3.heap.size V3 W)) (fun u _ => no - (intOf u).toNat)
        case atStart => exact ⟨0, rfl, Nat.zero_le _, H3.out.2.2, Below.refl _ _⟩
        case round =>
          obtain ⟨j, rfl, HJ⟩ := hrel
          by_cases hj : j = no
          · have q3 : (no : Int) ≤ (j : Int) := by omega
            have HF : Hid (PB w.heap.size wr p M2 ∧ Sh M2 ∧ Below w.heap.size w wr) := ⟨⟨H2.out.1.1.below HJ.out.2.1, H2.out.1.2.1, Nat.le_trans H2.out.1.2.2 HJ.out.2.1.size⟩, H2.out.2.1, below_tr H2.out.2.2.1 HJ.out.2.1⟩
            clear hj
            go_wp2
            go_roundw
            case rel => exact ⟨i + 1, M2, by simp, HQ.out, HF.out⟩
            case measure =>
              have := HQ.out
              simp only [intOf]
              omega
          · have HJQ : Hid (j < no) := by have := HJ.out.1; show _ < _; omega
            have q3 : (j : Int) < (no : Int) := by have := HJQ.out; omega
            have q4 : j < no := HJQ.out
            obtain ⟨go, y, hao, hy, hc⟩ := str_at (H3.out.1.below HJ.out.2.2) q4
            subst hao
            have HY : Hid (y ∈ orgsL M2) := List.mem_of_getElem? hy
            have HME := members_is (H2.out.1.1.below HJ.out.2.1) y (H2.out.2.1.org HY.out)
            clear hj hy
            go_wp2_with fail
            refine HME.mono ?_
            rintro e V5 ⟨am, nm, cm, rfl, HM⟩
            have H5 : Hid (StrAt V5 am nm (membersL M2 y) ∧ nm ≤ 64 ∧ Below wr.heap.size wr V5 ∧ Below V2.heap.size V2 V5 ∧ Below V3.heap.size V3 V5) := ⟨HM.out.1, HM.out.2.1, HM.out.2.2, below_tr HJ.out.2.1 HM.out.2.2, below_tr HJ.out.2.2 HM.out.2.2⟩
            have qm : (nm : Int) ≤ 64 := by have := HM.out.2.1; omega
            clear HME HM hc
            go_wp2
            go_loopw [36, 8] (fun u v W => ∃ (k : Nat) (f : Bool), u = iv k ∧ v = .bool f ∧ Hid (k ≤ nm ∧ Below V5.heap.size V5 W ∧ (f = true ∨ ∀ (k' : Nat) (z : Hs), k' < k → (membersL M2 y)[k']? = some z → subR M2 y z ≠ 2))) (fun u _ _ => nm - (intOf u).toNat)
            case atStart => exact ⟨0, false, rfl, rfl, Nat.zero_le _, Below.refl _ _, .inr fun k' z hk => absurd hk (by omega)⟩
            case round =>
              obtain ⟨k, f, rfl, rfl, HK⟩ := hrel
              by_cases hk : k = nm
              · have q5 : (nm : Int) ≤ (k : Int) := by omega
                have hf : f = true := by
                  rcases HK.out.2.2 with e | e
                  · exact e
                  · obtain ⟨k', z, h1, h2⟩ := owner_fact H2.out.1.1 HY.out
                    have hl := (List.getElem?_eq_some_iff.1 h1).1
                    exact absurd h2 (e k' z (by have := H5.out.1.1; omega) h1)
                subst hf
                have HF : Hid (Below V2.heap.size V2 wr ∧ Below V3.heap.size V3 wr) := ⟨below_tr H5.out.2.2.2.1 HK.out.2.1, below_tr H5.out.2.2.2.2 HK.out.2.1⟩
                clear hk
                go_wp2
                go_roundw
                case rel => exact ⟨j + 1, by simp, HJQ.out, HF.out⟩
                case measure =>
                  have := HJQ.out
                  simp only [intOf]
                  omega
              · have HKQ : Hid (k < nm) := by have := HK.out.1; show _ < _; omega
                have q5 : (k : Int) < (nm : Int) := by have := HKQ.out; omega
                have q6 : k < nm := HKQ.out
                obtain ⟨gm, z, ham, hz, hc⟩ := str_at (H5.out.1.below HK.out.2.1) q6
                subst ham
                have HZ : Hid ((membersL M2 y)[k]? = some z) := hz
                clear hk hz
                cases f with
                | true =>
                  go_wp2
                  go_roundw
                  case rel => exact ⟨k + 1, true, by simp, rfl, HKQ.out, HK.out.2.1, .inl rfl⟩
                  case measure =>
                    have := HKQ.out
                    simp only [intOf]
                    omega
                | false =>
                  have HSU := sub_is (H2.out.1.1.below (below_tr H5.out.2.2.2.1 HK.out.2.1)) H2.out.2.1 y z (H2.out.2.1.org HY.out) (Sh.mem H2.out.1.1 H2.out.2.1 (List.mem_of_getElem? HZ.out))
                  go_wp2_with fail
                  refine HSU.mono ?_
                  rintro e V7 ⟨at7, n7, c7, rfl, HT7⟩
                  obtain ⟨R, hR⟩ : ∃ R, subR M2 y z = R := ⟨_, rfl⟩
                  have HRR : Hid (subR M2 y z = R) := hR
                  rw [hR]
                  have HB7 : Hid (Below V5.heap.size V5 V7) := below_tr HK.out.2.1 HT7.out.2.2
                  clear HSU HT7 hR hc
                  have hfld : ∀ W : World, (Instr.field 42 (.agg #[hv z, .slice at7 n7 c7, iv R]) 2).run Try.prog W = .ok (iv R) W := fun W => field42 _ _ _ W
                  by_cases h2 : R = 2
                  · have q7 : (R == 2) = true := by simp [h2]
                    clear h2
                    go_wp2
                    go_roundw
                    case rel => exact ⟨k + 1, true, by simp, rfl, HKQ.out, HB7.out, .inl rfl⟩
                    case measure =>
                      have := HKQ.out
                      simp only [intOf]
                      omega
                  · have q7 : (R == 2) = false := by simpa using h2
                    have HN : Hid (∀ (k' : Nat) (z : Hs), k' < k + 1 → (membersL M2 y)[k']? = some z → subR M2 y z ≠ 2) := fun k' z' hk' hz' => by
                      by_cases e : k' = k
                      · subst e
                        rw [HZ.out] at hz'
                        cases hz'
                        rw [HRR.out]
                        exact h2
                      · rcases HK.out.2.2 with e' | e'
                        · cases e'
                        · exact e' k' z' (by omega) hz'
                    clear h2
                    go_wp2
                    go_roundw
                    case rel => exact ⟨k + 1, false, by simp, rfl, HKQ.out, HB7.out, .inr HN.out⟩
                    case measure =>
                      have := HKQ.out
                      simp only [intOf]
                      omega
#print axioms owners_law
end Go.Proofs.Ytfickhhfhdhcbaa.Oct
