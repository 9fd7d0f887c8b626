/-
  Layer 22 (fields): FieldsGets.
-/
import Derived.Test.YtlbcpbibcfolkaaDoorGet
namespace Go.Proofs.YtlbcpbibcfolkaaDoor.Oct
open Go.RowKit
set_option linter.unusedSimpArgs false
set_option linter.unusedVariables false

theorem build49 (k v : BA) (W : World) : (Instr.build 49 #[(0, .string k), (1, .string v)]).run Tryd.prog W = .ok (.agg (Pr.mk k v).cells.toArray) W := by kernel_rfl
set_option maxRecDepth 100000 in
set_option maxHeartbeats 1000000 in
theorem gets_law {w : World} {a : Option Addr} {n cap : Nat} {l : List Pr} (h : PsR w (.slice a l.length cap) l) (hn : l.length = n) (key : BA) (hk : key.size ≤ 140737488355328) (vl : BA) (hv : vl.size ≤ 140737488355328) (hE : ET w) : Calls Tryd.prog 8 #[.slice a n cap, .string key, .string vl] w fun e w' => e = .returned (.bool true) ∧ Below w.heap.size w w' := by
  have HE : Hid (ET w) := hE
  have HP : Hid (PsR w (.slice a l.length cap) l ∧ l.length = n) := ⟨h, hn⟩
  have HKV : Hid ((Pr.mk key vl).ok) := ⟨hk, hv⟩
  have q1 : (key.size : Int) ≤ 140737488355328 := by omega
  have q2 : (vl.size : Int) ≤ 140737488355328 := by omega
  clear h hn hE
  go_enter Tryd.func8, Tryd.ntmps8
  go_wp2_with fail
  refine (light_is HP.out.1 HP.out.2).mono ?_
  rintro e W1 ⟨B, rfl, hl, hb1⟩
  have H1 : Hid (Below w.heap.size w W1) := hb1
  clear hb1
  cases B with
  | false =>
    clear hl hk hv
    go_wp2_with fail
    refine (lives_is W1 (HE.out.below H1.out)).mono ?_
    rintro e W ⟨rfl, hb⟩
    have HB : Hid (Below w.heap.size w W) := below_tr H1.out hb
    clear hb
    go_wp2
    go_ret
    exact ⟨rfl, HB.out⟩
  | true =>
    have HL : Hid (l.length ≤ 1000 ∧ ∀ p ∈ l, p.k.size + p.v.size ≤ 20000) := hl rfl
    clear hl
    have HP1 : Hid (PsR W1 (.slice a l.length cap) l) := HP.out.1.below H1.out
    by_cases hbig : 20000 < key.size + vl.size
    · have q3 : (20000 : Int) < (key.size : Int) + (vl.size : Int) := by omega
      clear hbig hk hv
      go_wp2_with fail
      refine (lives_is W1 (HE.out.below H1.out)).mono ?_
      rintro e W ⟨rfl, hb⟩
      have HB : Hid (Below w.heap.size w W) := below_tr H1.out hb
      clear hb
      go_wp2
      go_ret
      exact ⟨rfl, HB.out⟩
    have q3 : (key.size : Int) + (vl.size : Int) ≤ 20000 := by omega
    clear hbig hk hv
    obtain ⟨T, B, hTB⟩ : ∃ T B, getA key l = (T, B) := ⟨_, _, rfl⟩
    have HT : Hid (getA key l = (T, B)) := hTB
    clear hTB
    cases B with
    | true =>
      have hT := HT.out
      have e1 : (T.toList == T.toList) = true := beq_self_eq_true _
      have e2 : (vl.toList == vl.toList) = true := beq_self_eq_true _
      have HSN : Hid (getA key (l ++ [⟨key, vl⟩]) = (T, true)) := by
        show _ = _
        rw [getA_snoc, HT.out]
        rfl
      clear hT
      go_wp2_with fail
      refine (get_is HP1.out HP.out.2 key T true HT.out).mono ?_
      rintro e W2 ⟨rfl, hb2⟩
      have H2 : Hid (Below w.heap.size w W2) := below_tr H1.out hb2
      have HP2 : Hid (PsR W2 (.slice a l.length cap) l) := HP1.out.below hb2
      clear hb2
      go_wp2_with fail
      refine (rget_is HP2.out HP.out.2 key T true HT.out).mono ?_
      rintro e W3 ⟨rfl, hb3⟩
      have H3 : Hid (Below w.heap.size w W3) := below_tr H2.out hb3
      have HP3 : Hid (PsR W3 (.slice a l.length cap) l) := HP2.out.below hb3
      clear hb3
      go_wp2_with (with_reducible change wpList _ _ _ ({ dst := some 38, op := _, type := _, pos := _, after := _, guard := _ } :: _) _ _; refine Hid.out ?_)
      show wpList _ _ _ _ _ _
      refine wpList_bs0 rfl rfl ?_
      have HO : Hid (OwP (W3.alloc (.cells #[] 49)) W3.heap.size (.slice (some ⟨W3.heap.size, 0, none⟩) 0 0) [] ∧ PsR (W3.alloc (.cells #[] 49)) (.slice a n cap) l ∧ Below w.heap.size w (W3.alloc (.cells #[] 49)) ∧ W3.heap.size ≤ (W3.alloc (.cells #[] 49)).heap.size) := ⟨own0 W3, by have := HP3.out.below (below_al W3 (.cells #[] 49)); rw [HP.out.2] at this; exact this, below_tr H3.out (below_al _ _), (below_al W3 (.cells #[] 49)).size⟩
      generalize W3.alloc (.cells #[] 49) = W4 at HO ⊢
      go_wp2_with (with_reducible change wpList _ _ _ ({ dst := some 40, op := _, type := _, pos := _, after := _, guard := _ } :: _) _ _; refine Hid.out ?_)
      show wpList _ _ _ _ _ _
      refine wpList_app rfl (.tmp 38) (.tmp 39) rfl HO.out.1 HO.out.2.1 (by have := HL.out.1; simp; omega) HO.out.2.2.2 rfl rfl ?_
      intro v5 W5 ho5 hg5 hp5
      rw [List.nil_append] at ho5
      have H5 : Hid (Below w.heap.size w W5 ∧ W3.heap.size ≤ W5.heap.size) := ⟨below_own HO.out.2.2.1 hg5.out (fun j hj => by cases hj; exact H3.out.size), Nat.le_trans HO.out.2.2.2 hg5.out.size⟩
      clear hg5 hp5 HO
      have hbd := build49 key vl
      go_wp2_with (with_reducible change wpList _ _ _ ({ dst := some 44, op := _, type := _, pos := _, after := _, guard := _ } :: _) _ _; refine Hid.out ?_)
      show wpList _ _ _ _ _ _
      refine wpList_bs rfl (.tmp 43) rfl ⟨key, vl⟩ rfl ?_
      have HO6 : Hid (OwP (W5.alloc (.cells (Pr.mk key vl).cells.toArray 49)) W3.heap.size v5 l ∧ PsR (W5.alloc (.cells (Pr.mk key vl).cells.toArray 49)) (.slice (some ⟨W5.heap.size, 0, none⟩) 1 1) [⟨key, vl⟩] ∧ Below w.heap.size w (W5.alloc (.cells (Pr.mk key vl).cells.toArray 49)) ∧ W3.heap.size ≤ (W5.alloc (.cells (Pr.mk key vl).cells.toArray 49)).heap.size) := ⟨ho5.out.below (below_al _ _), psr_one HKV.out, below_tr H5.out.1 (below_al _ _), Nat.le_trans H5.out.2 (below_al W5 _).size⟩
      clear ho5 hbd
      generalize W5.alloc (.cells (Pr.mk key vl).cells.toArray 49) = W6 at HO6 ⊢
      generalize W5.heap.size = g5 at HO6 ⊢
      go_wp2_with (with_reducible change wpList _ _ _ ({ dst := some 45, op := _, type := _, pos := _, after := _, guard := _ } :: _) _ _; refine Hid.out ?_)
      show wpList _ _ _ _ _ _
      refine wpList_app rfl (.tmp 40) (.tmp 44) rfl HO6.out.1 HO6.out.2.1 (by have := HL.out.1; simp; omega) HO6.out.2.2.2 rfl rfl ?_
      intro v7 W7 ho7 hg7 hp7
      have H7 : Hid (Below w.heap.size w W7) := below_own HO6.out.2.2.1 hg7.out (fun j hj => Nat.le_trans H3.out.size (HO6.out.1.lt hj).1)
      have HP7 : Hid (PsR W7 v7 (l ++ [⟨key, vl⟩])) := ho7.out.esr
      obtain ⟨a7, c7, rfl⟩ : ∃ a c, v7 = .slice a (n + 1) c := by obtain ⟨a, c, h⟩ := sl_of ho7.out; exact ⟨a, c, by rw [h, List.length_append, HP.out.2]; rfl⟩
      have HP8 : Hid (PsR W7 (.slice a7 (l ++ [(⟨key, vl⟩ : Pr)]).length c7) (l ++ [⟨key, vl⟩])) := by have := HP7.out; rw [← HP.out.2] at this; rw [List.length_append]; exact this
      clear ho7 hg7 hp7 HP7 HO6
      go_wp2_with fail
      refine (get_is HP8.out (by rw [List.length_append, HP.out.2]; rfl) key T true HSN.out).mono ?_
      rintro e W8 ⟨rfl, hb8⟩
      have H8 : Hid (Below w.heap.size w W8) := below_tr H7.out hb8
      clear hb8
      go_wp2_with fail
      refine (lives_is W8 (HE.out.below H8.out)).mono ?_
      rintro e W9 ⟨rfl, hb9⟩
      have H9 : Hid (Below w.heap.size w W9) := below_tr H8.out hb9
      clear hb9
      go_wp2
      go_ret
      exact ⟨rfl, H9.out⟩
    | false =>
      have hT := HT.out
      have e1 : (T.toList == T.toList) = true := beq_self_eq_true _
      have e2 : (vl.toList == vl.toList) = true := beq_self_eq_true _
      have HSN : Hid (getA key (l ++ [⟨key, vl⟩]) = (vl, true)) := by
        show _ = _
        rw [getA_snoc, HT.out]
        rfl
      clear hT
      go_wp2_with fail
      refine (get_is HP1.out HP.out.2 key T false HT.out).mono ?_
      rintro e W2 ⟨rfl, hb2⟩
      have H2 : Hid (Below w.heap.size w W2) := below_tr H1.out hb2
      have HP2 : Hid (PsR W2 (.slice a l.length cap) l) := HP1.out.below hb2
      clear hb2
      go_wp2_with fail
      refine (rget_is HP2.out HP.out.2 key T false HT.out).mono ?_
      rintro e W3 ⟨rfl, hb3⟩
      have H3 : Hid (Below w.heap.size w W3) := below_tr H2.out hb3
      have HP3 : Hid (PsR W3 (.slice a l.length cap) l) := HP2.out.below hb3
      clear hb3
      go_wp2_with (with_reducible change wpList _ _ _ ({ dst := some 38, op := _, type := _, pos := _, after := _, guard := _ } :: _) _ _; refine Hid.out ?_)
      show wpList _ _ _ _ _ _
      refine wpList_bs0 rfl rfl ?_
      have HO : Hid (OwP (W3.alloc (.cells #[] 49)) W3.heap.size (.slice (some ⟨W3.heap.size, 0, none⟩) 0 0) [] ∧ PsR (W3.alloc (.cells #[] 49)) (.slice a n cap) l ∧ Below w.heap.size w (W3.alloc (.cells #[] 49)) ∧ W3.heap.size ≤ (W3.alloc (.cells #[] 49)).heap.size) := ⟨own0 W3, by have := HP3.out.below (below_al W3 (.cells #[] 49)); rw [HP.out.2] at this; exact this, below_tr H3.out (below_al _ _), (below_al W3 (.cells #[] 49)).size⟩
      generalize W3.alloc (.cells #[] 49) = W4 at HO ⊢
      go_wp2_with (with_reducible change wpList _ _ _ ({ dst := some 40, op := _, type := _, pos := _, after := _, guard := _ } :: _) _ _; refine Hid.out ?_)
      show wpList _ _ _ _ _ _
      refine wpList_app rfl (.tmp 38) (.tmp 39) rfl HO.out.1 HO.out.2.1 (by have := HL.out.1; simp; omega) HO.out.2.2.2 rfl rfl ?_
      intro v5 W5 ho5 hg5 hp5
      rw [List.nil_append] at ho5
      have H5 : Hid (Below w.heap.size w W5 ∧ W3.heap.size ≤ W5.heap.size) := ⟨below_own HO.out.2.2.1 hg5.out (fun j hj => by cases hj; exact H3.out.size), Nat.le_trans HO.out.2.2.2 hg5.out.size⟩
      clear hg5 hp5 HO
      have hbd := build49 key vl
      go_wp2_with (with_reducible change wpList _ _ _ ({ dst := some 44, op := _, type := _, pos := _, after := _, guard := _ } :: _) _ _; refine Hid.out ?_)
      show wpList _ _ _ _ _ _
      refine wpList_bs rfl (.tmp 43) rfl ⟨key, vl⟩ rfl ?_
      have HO6 : Hid (OwP (W5.alloc (.cells (Pr.mk key vl).cells.toArray 49)) W3.heap.size v5 l ∧ PsR (W5.alloc (.cells (Pr.mk key vl).cells.toArray 49)) (.slice (some ⟨W5.heap.size, 0, none⟩) 1 1) [⟨key, vl⟩] ∧ Below w.heap.size w (W5.alloc (.cells (Pr.mk key vl).cells.toArray 49)) ∧ W3.heap.size ≤ (W5.alloc (.cells (Pr.mk key vl).cells.toArray 49)).heap.size) := ⟨ho5.out.below (below_al _ _), psr_one HKV.out, below_tr H5.out.1 (below_al _ _), Nat.le_trans H5.out.2 (below_al W5 _).size⟩
      clear ho5 hbd
      generalize W5.alloc (.cells (Pr.mk key vl).cells.toArray 49) = W6 at HO6 ⊢
      generalize W5.heap.size = g5 at HO6 ⊢
      go_wp2_with (with_reducible change wpList _ _ _ ({ dst := some 45, op := _, type := _, pos := _, after := _, guard := _ } :: _) _ _; refine Hid.out ?_)
      show wpList _ _ _ _ _ _
      refine wpList_app rfl (.tmp 40) (.tmp 44) rfl HO6.out.1 HO6.out.2.1 (by have := HL.out.1; simp; omega) HO6.out.2.2.2 rfl rfl ?_
      intro v7 W7 ho7 hg7 hp7
      have H7 : Hid (Below w.heap.size w W7) := below_own HO6.out.2.2.1 hg7.out (fun j hj => Nat.le_trans H3.out.size (HO6.out.1.lt hj).1)
      have HP7 : Hid (PsR W7 v7 (l ++ [⟨key, vl⟩])) := ho7.out.esr
      obtain ⟨a7, c7, rfl⟩ : ∃ a c, v7 = .slice a (n + 1) c := by obtain ⟨a, c, h⟩ := sl_of ho7.out; exact ⟨a, c, by rw [h, List.length_append, HP.out.2]; rfl⟩
      have HP8 : Hid (PsR W7 (.slice a7 (l ++ [(⟨key, vl⟩ : Pr)]).length c7) (l ++ [⟨key, vl⟩])) := by have := HP7.out; rw [← HP.out.2] at this; rw [List.length_append]; exact this
      clear ho7 hg7 hp7 HP7 HO6
      go_wp2_with fail
      refine (get_is HP8.out (by rw [List.length_append, HP.out.2]; rfl) key vl true HSN.out).mono ?_
      rintro e W8 ⟨rfl, hb8⟩
      have H8 : Hid (Below w.heap.size w W8) := below_tr H7.out hb8
      clear hb8
      go_wp2_with fail
      refine (lives_is W8 (HE.out.below H8.out)).mono ?_
      rintro e W9 ⟨rfl, hb9⟩
      have H9 : Hid (Below w.heap.size w W9) := below_tr H8.out hb9
      clear hb9
      go_wp2
      go_ret
      exact ⟨rfl, H9.out⟩
#print axioms gets_law
end Go.Proofs.YtlbcpbibcfolkaaDoor.Oct
