/-
  Layer 20 (review): ReviewPasses.
-/
import Derived.Test.YtaecigpjcbjcbaaPsR
import Derived.Test.YtaecigpjcbjcbaaPsQ
namespace Go.Proofs.Ytaecigpjcbjcbaa.Oct
open Go.RowKit
set_option linter.unusedSimpArgs false

theorem run_bs53 (s1 s2 s3 : Sl) (W : World) : (Instr.buildSlice 53 3 #[(0, .slice s1.a s1.n s1.c), (1, .slice s2.a s2.n s2.c), (2, .slice s3.a s3.n s3.c)]).run Try.prog W = .ok (.slice (some ⟨W.heap.size, 0, none⟩) 3 3) (W.alloc (.cells #[.slice s1.a s1.n s1.c, .slice s2.a s2.n s2.c, .slice s3.a s3.n s3.c] 40)) := by kernel_rfl
def sumL : List (List BA) → Nat
  | [] => 0
  | l :: r => l.length + sumL r
theorem sumL_snoc (l : List BA) : ∀ r, sumL (r ++ [l]) = sumL r + l.length
  | [] => by simp [sumL]
  | x :: r => by simp only [List.cons_append, sumL, sumL_snoc l r]; omega
set_option maxRecDepth 100000 in
set_option maxHeartbeats 8000000 in
theorem passes_law (p : Pp) (q : Po) (yes no : List BA) (w : World) (hp : PpAt w p yes no) :
    Calls Try.prog 4 #[.agg p.cells.toArray, .agg q.cells.toArray] w fun e w' => e = .returned (.bool true) ∧ Below w.heap.size w w' := by
  obtain ⟨ap, veto⟩ := q
  rw [show Po.cells ⟨ap, veto⟩ = [iv ap, .bool veto] from rfl]
  obtain ⟨cp, hcp⟩ : ∃ cp, p.cells = cp := ⟨_, rfl⟩
  obtain ⟨W1, hW1⟩ : ∃ W1, w.alloc (.cells cp.toArray 43) = W1 := ⟨_, rfl⟩
  obtain ⟨W2, hW2⟩ : ∃ W2, W1.alloc (.cells #[iv ap, .bool veto] 52) = W2 := ⟨_, rfl⟩
  have hB1 : Below w.heap.size w W1 := by rw [← hW1]; exact below_al _ _
  have hB2 : Below W1.heap.size W1 W2 := by rw [← hW2]; exact below_al _ _
  obtain ⟨g, hg⟩ : ∃ g, w.heap.size = g := ⟨_, rfl⟩
  obtain ⟨qb, hq⟩ : ∃ q, W1.heap.size = q := ⟨_, rfl⟩
  have hx1 : Blk W1 g 43 p.cells := by rw [← hg, ← hW1, hcp]; simpa using Blk.new w cp.toArray 43
  have hx2 : Blk W2 g 43 p.cells := hx1.below hB2 hx1.lt
  have hbq : Blk W2 qb 52 [iv ap, .bool veto] := by rw [← hq, ← hW2]; exact Blk.new _ _ _
  obtain ⟨_, g1, _, _, g35, g36, g37, _⟩ := Pp.cell hp.1 hx2.range0
  obtain ⟨W3, hW3⟩ : ∃ W3, W2.alloc (.cells #[.string p.author] 9) = W3 := ⟨_, rfl⟩
  obtain ⟨ab, hab⟩ : ∃ a, W2.heap.size = a := ⟨_, rfl⟩
  have hB3 : Below W2.heap.size W2 W3 := by rw [← hW3]; exact below_al _ _
  have hsa : Strs W3 (some ⟨ab, 0, none⟩) 1 [p.author] := by rw [← hab, ← hW3]; exact strs_new _ _
  obtain ⟨W4, hW4⟩ : ∃ W4, W3.alloc (.cells #[.slice p.y.a p.y.n p.y.c, .slice p.n.a p.n.n p.n.c, .slice (some ⟨ab, 0, none⟩) 1 1] 40) = W4 := ⟨_, rfl⟩
  obtain ⟨rb, hrb⟩ : ∃ a, W3.heap.size = a := ⟨_, rfl⟩
  have hB4 : Below W3.heap.size W3 W4 := by rw [← hW4]; exact below_al _ _
  have hbr : Blk W4 rb 40 [.slice p.y.a p.y.n p.y.c, .slice p.n.a p.n.n p.n.c, .slice (some ⟨ab, 0, none⟩) 1 1] := by rw [← hrb, ← hW4]; exact Blk.new _ _ _
  have hb34 := below_tr hB3 hB4
  have hbw := below_tr (below_tr hB1 hB2) hb34
  have H4 : Hid (Below w.heap.size w W4 ∧ Blk W4 g 43 p.cells ∧ Blk W4 qb 52 [iv ap, .bool veto] ∧ Blk W4 rb 40 [.slice p.y.a p.y.n p.y.c, .slice p.n.a p.n.n p.n.c, .slice (some ⟨ab, 0, none⟩) 1 1] ∧ Txt W4 p.y yes ∧ Txt W4 p.n no ∧ Strs W4 (some ⟨ab, 0, none⟩) 1 [p.author] ∧ p.author.size ≤ 140737488355328 ∧ p.patch.length = 32) :=
    ⟨hbw, hx2.below hb34 hx2.lt, hbq.below hb34 hbq.lt, hbr, hp.2.1.below hbw, hp.2.2.1.below hbw, hsa.below hB4, hp.2.2.2, hp.1⟩
  have HGW : Hid (g = w.heap.size ∧ (∀ b off, p.y.a = some ⟨b, off, none⟩ → 0 < p.y.n → b < w.heap.size) ∧ ∀ b off, p.n.a = some ⟨b, off, none⟩ → 0 < p.n.n → b < w.heap.size) := by
    refine ⟨hg.symm, fun b off ha hn => ?_, fun b off ha hn => ?_⟩
    · obtain ⟨b', off', e1, e2, _⟩ := hp.2.1.1.2 hn
      rw [ha] at e1; cases e1; exact e2
    · obtain ⟨b', off', e1, e2, _⟩ := hp.2.2.1.1.2 hn
      rw [ha] at e1; cases e1; exact e2
  have hbs1 := run_bs40 p.author
  have hbs3 := run_bs53 p.y p.n ⟨some ⟨ab, 0, none⟩, 1, 1⟩
  have HLV := fun W => lives_is W
  rw [hcp]
  clear hB1 hB2 hB3 hB4 hx1 hx2 hbq hsa hbr hb34 hbw hp hcp
  go_enter Try.func4, Try.ntmps4
  go_wp2
  go_loopw [20, 5] (fun u v wr => ∃ (i k : Nat), u = iv i ∧ v = iv k ∧ Hid (i ≤ 3 ∧ Below W4.heap.size W4 wr ∧ sumL ([yes, no, [p.author]].take i) ≤ k ∧ k ≤ 300)) (fun u _ _ => 3 - (intOf u).toNat)
  case atStart => exact ⟨0, 0, rfl, rfl, by omega, Below.refl _ _, Nat.le_refl _, by omega⟩
  case round =>
    obtain ⟨i, k, rfl, rfl, HI⟩ := hrel
    clear hW1 hW2 hW3 hW4 hbs1 hbs3 g1 g35 g36 g37
    by_cases hi : i = 3
    · subst hi
      have HBI := HI.out.2.1
      have HL : Hid (yes.length ≤ 300 ∧ no.length ≤ 300) := by
        have h1 := HI.out.2.2.2
        have h2 := HI.out.2.2.1
        simp only [List.take, sumL] at h2
        exact ⟨by omega, by omega⟩
      have HYL : Hid (p.y.n = yes.length ∧ p.n.n = no.length) := ⟨H4.out.2.2.2.2.1.1.1.symm, H4.out.2.2.2.2.2.1.1.1.symm⟩
      have HA : Hid (g < wr.heap.size ∧ p.patch.length = 32) := ⟨Nat.lt_of_lt_of_le H4.out.2.1.lt HBI.size, H4.out.2.2.2.2.2.2.2.2⟩
      have HX : Hid (Blk wr g 43 p.cells) := H4.out.2.1.below HBI H4.out.2.1.lt
      have HNE : Hid ((∀ b off, p.y.a = some ⟨b, off, none⟩ → 0 < p.y.n → b ≠ g) ∧ ∀ b off, p.n.a = some ⟨b, off, none⟩ → 0 < p.n.n → b ≠ g) := by
        refine ⟨fun b off ha hn => ?_, fun b off ha hn => ?_⟩
        · have := HGW.out.2.1 b off ha hn; have := HGW.out.1; omega
        · have := HGW.out.2.2 b off ha hn; have := HGW.out.1; omega
      have HY : Hid (Strs wr p.y.a p.y.n yes ∧ yes.length ≤ 1000 ∧ (∀ x ∈ yes, x.size ≤ 140737488355328) ∧ True) := ⟨(H4.out.2.2.2.2.1.below HBI).1, by have := HL.out.1; omega, H4.out.2.2.2.2.1.2.2, trivial⟩
      have HN : Hid (Strs wr p.n.a p.n.n no ∧ no.length ≤ 1000 ∧ (∀ x ∈ no, x.size ≤ 140737488355328) ∧ True) := ⟨(H4.out.2.2.2.2.2.1.below HBI).1, by have := HL.out.2; omega, H4.out.2.2.2.2.2.1.2.2, trivial⟩
      have HQR : Hid (Blk wr qb 52 [iv ap, .bool veto] ∧ qb ≠ g) := ⟨H4.out.2.2.1.below HBI H4.out.2.2.1.lt, fun e => by
        have h1 := H4.out.2.2.1
        rw [e] at h1
        have h2 := H4.out.2.1
        unfold Blk at h1 h2
        rw [h1] at h2
        cases h2⟩
      have HBR : Hid (Below W4.heap.size W4 wr) := HBI
      clear HI HBI
      go_wp2_with fail
      refine pas13 HA HX HNE HY HN ?_
      intro V q1 q2 sy sn hC
      have HC : Hid (Copied wr g p yes no sy sn V) := hC
      have HV : Hid (Below w.heap.size w V) := by
        have hb0 : Below w.heap.size w wr := below_tr H4.out.1 HBR.out
        have hk := hC.2.2.2
        exact hb0.trans (hk.toBelow hb0.size (fun k hk => by rw [hk, HGW.out.1]; exact Nat.le_refl _))
      have c36 : V.cell? ⟨g, 36, none⟩ = some (.slice sy.a sy.n sy.c) := HC.out.1.cell (Pp.tail (p := { p with y := sy, n := sn }) HA.out.2 1)
      have hbs0 := run_bs40_0
      obtain ⟨V50, hV50⟩ : ∃ V50, V.alloc (.cells #[] 9) = V50 := ⟨_, rfl⟩
      have HV50 : Hid (Below V.heap.size V V50 ∧ V50.ownsRow V.heap.size 9 1 (.slice (some ⟨V.heap.size, 0, none⟩) 0 0) 0 (strC [])) := by rw [← hV50]; exact ⟨below_al _ _, empty_row V 9 1⟩
      have d36 : V50.cell? ⟨g, 36, none⟩ = some (.slice sy.a sy.n sy.c) := (HV50.out.1.cell (p := ⟨g, 36, none⟩) HC.out.1.lt).trans c36
      clear hC c36
      go_wp2_with (with_reducible change wpList _ _ _ ({ dst := some 54, op := _, type := _, pos := _, after := _, guard := _ } :: _) _ _; refine Hid.out ?_)
      show wpList _ _ _ _ _ _
      refine wpList_append_mine rfl (.tmp 51) (.tmp 53) rfl V50 V.heap.size _ 0 [] HV50.out.2 sy.a sy.n sy.c yes rfl rfl (HC.out.2.1.below HV50.out.1).1 HV50.out.1.size (by have := HC.out.2.1.1.1; have := HL.out.1; omega) ?_
      intro v54 V51 ho51 hb51
      rw [List.nil_append, Nat.zero_add] at ho51
      obtain ⟨s10, hs10, ht10, hsn10, _⟩ := own_txt ho51.out HY.out.2.2.1 (by have := HC.out.2.1.1.1; have := HL.out.1; omega)
      subst hs10
      have HB51 : Hid (Below V.heap.size V V51) := HV50.out.1.trans hb51.out
      have HG15 : Hid (Blk V51 g 43 ({ p with y := sy, n := sn } : Pp).cells ∧ Blk V51 qb 52 [iv ap, .bool veto] ∧ ({ p with y := sy, n := sn } : Pp).patch.length = 32 ∧ ({ p with y := sy, n := sn } : Pp).y.n ≤ 1000) := by
        have hq : Blk V qb 52 [iv ap, .bool veto] := HC.out.2.2.2.blk HQR.out.1 HQR.out.2
        exact ⟨HC.out.1.below HB51.out HC.out.1.lt, hq.below HB51.out hq.lt, HA.out.2, by show sy.n ≤ 1000; have := HC.out.2.1.1.1; have := HL.out.1; omega⟩
      have HT15 : Hid (Txt V51 ({ p with y := sy, n := sn } : Pp).y yes ∧ Txt V51 ({ p with y := sy, n := sn } : Pp).n no ∧ Strs V51 s10.a s10.n yes ∧ yes.length ≤ 140737488355328) := ⟨HC.out.2.1.below HB51.out, HC.out.2.2.1.below HB51.out, ht10.1, by have := HL.out.1; omega⟩
      clear ho51 hb51 ht10 d36 hV50 hsn10
      obtain ⟨b0, hb0⟩ : ∃ b, passB yes no ({ p with y := sy, n := sn } : Pp).author ({ p with y := sy, n := sn } : Pp).opn ⟨ap, veto⟩ = b := ⟨_, rfl⟩
      go_wp2_with fail
      try simp only [Act.put, List.setIfInBounds_toArray, List.set_cons_zero, List.set_cons_succ]
      refine pas15 (p := { p with y := sy, n := sn }) (ap := ap) (veto := veto) HG15 HT15 (show Hid _ from hb0) ?_
      intro V60 hV60
      have HB60 : Hid (Below w.heap.size w V60) := below_tr (below_tr HV.out HB51.out) hV60
      clear hV60 hb0
      go_wp2_with fail
      go_ret
      exact ⟨rfl, HB60.out⟩
    · have q2 : i < 3 := by have := HI.out.1; omega
      have q1 : (i : Int) < 3 := by omega
      obtain ⟨s, l, hc, hl, hst, hsz⟩ : ∃ (s : Sl) (l : List BA), W4.cell? ⟨rb, i, none⟩ = some (.slice s.a s.n s.c) ∧ [yes, no, [p.author]][i]? = some l ∧ Strs W4 s.a s.n l ∧ s.n ≤ 140737488355328 ∧ ∀ x ∈ l, x.size ≤ 140737488355328 := by
        rcases (show i = 0 ∨ i = 1 ∨ i = 2 by omega) with rfl | rfl | rfl
        · exact ⟨p.y, yes, H4.out.2.2.2.1.cell rfl, rfl, H4.out.2.2.2.2.1.1, H4.out.2.2.2.2.1.2⟩
        · exact ⟨p.n, no, H4.out.2.2.2.1.cell rfl, rfl, H4.out.2.2.2.2.2.1.1, H4.out.2.2.2.2.2.1.2⟩
        · exact ⟨⟨some ⟨ab, 0, none⟩, 1, 1⟩, [p.author], H4.out.2.2.2.1.cell rfl, rfl, H4.out.2.2.2.2.2.2.1, by show 1 ≤ _; omega, by intro x hx; simp at hx; rw [hx]; exact H4.out.2.2.2.2.2.2.2.1⟩
      have cs : wr.cell? ⟨rb, i, none⟩ = some (.slice s.a s.n s.c) := (HI.out.2.1.cell (p := ⟨rb, i, none⟩) H4.out.2.2.2.1.lt).trans hc
      have HS : Hid (Strs W4 s.a s.n l ∧ s.n ≤ 140737488355328 ∧ (∀ x ∈ l, x.size ≤ 140737488355328) ∧ [yes, no, [p.author]][i]? = some l) := ⟨hst, hsz.1, hsz.2, hl⟩
      obtain ⟨n0, hn0⟩ : ∃ n, s.n = n := ⟨_, rfl⟩
      obtain ⟨sa, hsa⟩ : ∃ n, s.a = n := ⟨_, rfl⟩
      rw [hn0, hsa] at HS cs
      have qn : (n0 : Int) ≤ 140737488355328 := by have := HS.out.2.1; omega
      have HQ : Hid (i < 3) := q2
      generalize s.c = sc at *
      clear hi hc hl hst hsz hn0 hsa
      go_wp2
      obtain ⟨W7, hW7⟩ : ∃ W7, wr = W7 := ⟨_, rfl⟩
      have HB7 : Hid (Below W4.heap.size W4 W7 ∧ sumL ([yes, no, [p.author]].take i) ≤ k ∧ k ≤ 300) := by rw [← hW7]; exact ⟨HI.out.2.1, HI.out.2.2.1, HI.out.2.2.2⟩
      rw [hW7]
      clear cs hW7 HI
      go_loopw [26, 5] (fun u v wr => ∃ (j m : Nat), u = iv j ∧ v = iv m ∧ Hid (j ≤ n0 ∧ Below W4.heap.size W4 wr ∧ k + j ≤ m ∧ m ≤ 300)) (fun u _ _ => n0 - (intOf u).toNat)
      case atStart => exact ⟨0, k, rfl, rfl, Nat.zero_le _, HB7.out.1, Nat.le_refl _, HB7.out.2.2⟩
      case round =>
        obtain ⟨j, m, rfl, rfl, HJ⟩ := hrel
        by_cases hj : j = n0
        · have q3 : (n0 : Int) ≤ (j : Int) := by omega
          have HN : Hid (Below W4.heap.size W4 wr ∧ sumL ([yes, no, [p.author]].take (i + 1)) ≤ m ∧ m ≤ 300) := by
            refine ⟨HJ.out.2.1, ?_, HJ.out.2.2.2⟩
            rw [List.take_add_one, HS.out.2.2.2]
            show sumL (_ ++ [l]) ≤ m
            rw [sumL_snoc, HS.out.1.1]
            have := HJ.out.2.2.1
            have := HB7.out.2.1
            omega
          clear HJ hj
          go_wp2
          go_roundw
          case rel => exact ⟨i + 1, m, by simp, rfl, HQ.out, HN.out⟩
          case measure =>
            have := HQ.out
            simp only [intOf]
            omega
        · have q4 : j < n0 := by have := HJ.out.1; omega
          have q3 : (j : Int) < (n0 : Int) := by omega
          obtain ⟨b, off, ha, hbl, hcc⟩ := HS.out.1.2 (by omega)
          subst ha
          obtain ⟨x, hx⟩ : ∃ x, l[j]? = some x := ⟨_, List.getElem?_eq_getElem (by rw [HS.out.1.1]; exact q4)⟩
          have cx : wr.cell? ⟨b, off + j, none⟩ = some (.string x) := (HJ.out.2.1.cell (p := ⟨b, off + j, none⟩) hbl).trans (hcc j x hx)
          have hxs := HS.out.2.2.1 x (List.mem_of_getElem? hx)
          obtain ⟨xs, hxs'⟩ : ∃ n, x.size = n := ⟨_, rfl⟩
          obtain ⟨d, hd⟩ : ∃ d : Nat, ((xs : Int).tdiv 100) = (d : Int) := ⟨xs / 100, by rw [Int.tdiv_eq_ediv_of_nonneg (by omega)]; omega⟩
          have HD : Hid (d ≤ 140737488355328) := by
            show _ ≤ _
            have : (xs : Int).tdiv 100 ≤ (xs : Int) := Int.tdiv_le_self _ (by omega)
            omega
          have qm : (m : Int) ≤ 300 := by have := HJ.out.2.2.2; omega
          have qd : (d : Int) ≤ 140737488355328 := by have := HD.out; omega
          have HQ4 : Hid (j < n0) := q4
          clear hj hcc hx hbl hxs
          by_cases hbig : 300 < (m : Int) + (1 + (d : Int))
          · have HLW := HLV wr
            go_wp2_with fail
            refine HLW.mono ?_
            rintro e w9 ⟨rfl, hb9⟩
            have HB9 : Hid (Below w.heap.size w w9) := below_tr H4.out.1 (below_tr HJ.out.2.1 hb9)
            clear HLW hb9
            go_wp2_with fail
            go_ret
            exact ⟨rfl, HB9.out⟩
          · have hsm : (m : Int) + (1 + (d : Int)) ≤ 300 := by omega
            have HM : Hid (m + (1 + d) ≤ 300) := by show _ ≤ _; omega
            clear hbig
            go_wp2
            go_roundw
            case rel => exact ⟨j + 1, m + (1 + d), by simp, by simp, HQ4.out, HJ.out.2.1, by have := HJ.out.2.2.1; omega, HM.out⟩
            case measure =>
              have := HQ4.out
              simp only [intOf]
              omega
#print axioms passes_law
end Go.Proofs.Ytaecigpjcbjcbaa.Oct
