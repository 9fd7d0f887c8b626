/-
  Layer 20 (review): Close.
-/
import Derived.Test.YtaecigpjcbjcbaaDel
namespace Go.Proofs.Ytaecigpjcbjcbaa.Oct
open Go.RowKit
set_option linter.unusedSimpArgs false

def Br.shut (M : Br) (ov : Value) (x : Int) : Br := { M with ov := ov, opn := outN M.opn x }
theorem BAt.closed {w A w1 : World} {b K g cap : Nat} {M : Br} {x : Int} (h : BAt w b M K) (hA : Below w.heap.size w A) (hK : K + 1 ≤ 1000) (hg : M.ov.ownBlock = some g) (ho : Ow w1 3 1 (.slice (some ⟨g, 0, none⟩) (outN M.opn x).length cap) (outN M.opn x).length (opnC (outN M.opn x))) (hgr : A.grownBy w1 (some g)) :
    BAt (w1.setCell ⟨b, 2, none⟩ (.slice (some ⟨g, 0, none⟩) (outN M.opn x).length cap)) b (M.shut (.slice (some ⟨g, 0, none⟩) (outN M.opn x).length cap) x) (K + 1) ∧ BAfter w b M (M.shut (.slice (some ⟨g, 0, none⟩) (outN M.opn x).length cap) x) (w1.setCell ⟨b, 2, none⟩ (.slice (some ⟨g, 0, none⟩) (outN M.opn x).length cap)) := by
  obtain ⟨p1, p2, p3, p4⟩ := h.parts
  have hAb := h.below hA
  have hbg : b ≠ g := fun e => p1.2.1 (by simp [hg, e])
  obtain ⟨V, hV⟩ : ∃ V, w1.setCell ⟨b, 2, none⟩ (.slice (some ⟨g, 0, none⟩) (outN M.opn x).length cap) = V := ⟨_, rfl⟩
  rw [hV]
  have hgv : w1.grownBy V (some b) := by rw [← hV]; exact grown_setCell _ _ _ _
  have hblk1 : Blk w1 b 70 [.bool true, M.pv, M.ov] := hAb.blk.kept hgr (fun e => hbg (by simpa using e))
  have hs : ∀ k, k < w.heap.size → k ≠ b → k ≠ g → V.heap[k]? = w.heap[k]? := fun k hk h1 h2 => by
    rw [hgv.block k (Nat.lt_of_lt_of_le hk (Nat.le_trans hA.size hgr.size)) (by simpa using h1), hgr.block k (Nat.lt_of_lt_of_le hk hA.size) (by simpa using h2), hA.block k hk]
  have hbl : (M.shut (.slice (some ⟨g, 0, none⟩) (outN M.opn x).length cap) x).bl b = M.bl b := by
    show b :: (M.pv.ownBlock.toList ++ ((some g).toList ++ M.props.flatMap Pr.bl)) = b :: (M.pv.ownBlock.toList ++ (M.ov.ownBlock.toList ++ M.props.flatMap Pr.bl))
    rw [hg]
  refine ⟨⟨?_, ?_, ?_, ?_, ?_, Nat.le_succ_of_le h.nprops, ?_, ?_, hK⟩, ?_, ?_⟩
  · rw [← hV]
    exact hblk1.set 2 _
  · exact h.prow.same fun k hk => hs k (h.prow.lt hk) (fun e => p1.1 (by simp [hk, e])) (fun e => (p2 k hk).1 (by rw [e]; exact hg))
  · exact ho.same fun k hk => by
      cases hk
      exact hgv.block g (ho.lt rfl) (by simpa using hbg.symm)
  · intro q hq
    have hp := (h.each q hq).same (w' := V) fun k hk => hs k ((h.each q hq).lt k hk) (fun e => p1.2.2 (List.mem_flatMap.2 ⟨q, hq, by rw [← e]; exact hk⟩)) (fun e => p3 g hg (List.mem_flatMap.2 ⟨q, hq, by rw [← e]; exact hk⟩))
    exact ⟨hp.patch, hp.votes, Nat.le_succ_of_le hp.nvotes, hp.talk, hp.ntalk⟩
  · rw [hbl]; exact h.apart
  · show (outN M.opn x).length ≤ 64
    exact Nat.le_trans (List.length_filter_le _ _) h.nopn
  · intro k hk
    exact h.opn k (List.mem_filter.1 hk).1
  · intro k hk
    rw [hbl] at hk
    exact .inl hk
  · have k1 : Keep (fun k => k ∈ M.bl b) A w1 := Keep.grown hgr (by simp only [Br.bl, List.mem_cons, List.mem_append]; exact .inr (.inr (.inl (by simp [hg]))))
    have k2 : Keep (fun k => k ∈ M.bl b) w1 V := Keep.grown hgv (by simp [Br.bl])
    exact (Keep.below hA).trans (k1.trans k2 (fun _ hj _ => hj)) (fun _ hj _ => hj)
/-- what Close answers and leaves -/
def CloseP (w : World) (b K : Nat) (M : Br) (x : Int) (e : Ending) (w' : World) : Prop :=
  ∃ M', BAt w' b M' (K + 1) ∧ BAfter w b M M' w' ∧
   ((M.at? x = none ∧ M' = M ∧ e = .returned (iv 111)) ∨ ((∃ p, M.at? x = some p) ∧ hasN M.opn x = false ∧ M' = M ∧ e = .returned (iv 201)) ∨ ((∃ p, M.at? x = some p) ∧ hasN M.opn x = true ∧ (∃ ov, M' = M.shut ov x) ∧ e = .returned (iv 0)))
set_option maxRecDepth 100000 in
set_option maxHeartbeats 1000000 in
theorem close_is {w : World} {b K : Nat} {M : Br} (h : BAt w b M K) (hK : K + 1 ≤ 1000) (x : Int) : Calls Try.prog 28 #[.pointer (some ⟨b, 0, none⟩), iv x] w (CloseP w b K M x) := by
  obtain ⟨A, hA⟩ : ∃ A, w.alloc (.cells #[iv x] 3) = A := ⟨_, rfl⟩
  have hB : Below w.heap.size w A := by rw [← hA]; exact below_al _ _
  obtain ⟨k1, hk1⟩ : ∃ k, w.heap.size = k := ⟨_, rfl⟩
  have x1 : Blk A k1 3 [iv x] := by rw [← hk1, ← hA]; exact Blk.new _ _ _
  have c1 : A.cell? ⟨k1, 0, none⟩ = some (iv x) := x1.cell rfl
  have HF := findOpen_is (h.below hB) x
  have HH : Hid (BAt w b M K ∧ K + 1 ≤ 1000 ∧ Below w.heap.size w A ∧ Blk A k1 3 [iv x] ∧ w.heap.size = k1) := ⟨h, hK, hB, x1, hk1⟩
  clear h hK hB x1
  go_enter Try.func28, Try.ntmps28
  go_wp2_with fail
  refine HF.mono ?_
  rintro e w1 ⟨⟨h1, rfl⟩ | ⟨p, h1, h2, rfl⟩ | ⟨p, g, i, h1, h2, h3, h4, h5, rfl⟩, rfl⟩
  · have H : Hid (M.at? x = none) := h1
    clear h1 HF
    go_wp2_with fail
    go_ret
    exact ⟨M, (HH.out.1.below HH.out.2.2.1).more HH.out.2.1, BAfter.same HH.out.2.2.1, .inl ⟨H.out, rfl, rfl⟩⟩
  · have H : Hid ((∃ p, M.at? x = some p) ∧ hasN M.opn x = false) := ⟨⟨p, h1⟩, h2⟩
    clear h1 h2 HF
    go_wp2_with fail
    go_ret
    exact ⟨M, (HH.out.1.below HH.out.2.2.1).more HH.out.2.1, BAfter.same HH.out.2.2.1, .inr (.inl ⟨H.out.1, H.out.2, rfl, rfl⟩)⟩
  · have H : Hid ((∃ p, M.at? x = some p) ∧ hasN M.opn x = true) := ⟨⟨p, h1⟩, h2⟩
    have hA2 := HH.out.1.below HH.out.2.2.1
    obtain ⟨go, cap, cur, hov, -, hbo, hnc, -⟩ : ∃ go cap cur, M.ov = .slice (some ⟨go, 0, none⟩) M.opn.length cap ∧ True ∧ A.heap[go]? = some (.cells cur 3 (0, 0)) ∧ M.opn.length ≤ cap ∧ True := by
      rcases hA2.orow.2 with ⟨_, h0⟩ | ⟨go, cap, cur, e1, _, e2, e3, _⟩
      · exfalso
        have : M.opn = [] := List.eq_nil_of_length_eq_zero h0
        rw [this] at h2
        cases h2
      · exact ⟨go, cap, cur, e1, trivial, e2, e3, trivial⟩
    have hgo : M.ov.ownBlock = some go := by rw [hov]; rfl
    have hrow := hA2.orow
    rw [hov] at hrow
    have hgk : go ≠ k1 := by
      have := HH.out.1.orow.lt hgo
      have := HH.out.2.2.2.2
      omega
    have HD := delete_is hrow HH.out.2.2.2.1 hgk (by have := HH.out.1.nopn; omega)
    have c2 : A.cell? ⟨b, 2, none⟩ = some (.slice (some ⟨go, 0, none⟩) M.opn.length cap) := by rw [← hov]; exact hA2.blk.cell rfl
    have HG : Hid (M.ov.ownBlock = some go ∧ Blk A b 70 [.bool true, M.pv, M.ov] ∧ b ≠ go) := ⟨hgo, hA2.blk, fun e => HH.out.1.parts.1.2.1 (by simp [hgo, e])⟩
    obtain ⟨n, hn⟩ : ∃ n, M.opn.length = n := ⟨_, rfl⟩
    rw [hn] at HD c2
    obtain ⟨m, hm⟩ : ∃ m, (outN M.opn x).length = m := ⟨_, rfl⟩
    have HM : Hid ((outN M.opn x).length = m) := hm
    rw [hm] at HD
    clear h1 h2 h3 h4 h5 HF hA2 hov hbo hnc hgo hrow hgk hn hm
    go_wp2_with fail
    refine HD.mono ?_
    rintro e w1 ⟨rfl, k1', k2⟩
    have d2 : w1.cell? ⟨b, 2, none⟩ = some M.ov := (HG.out.2.1.kept k2 (fun e => HG.out.2.2 (by simpa using e))).cell rfl
    have dfr : w1.frozen? ⟨b, 2, none⟩ = false := (HG.out.2.1.kept k2 (fun e => HG.out.2.2 (by simpa using e))).free 2
    have HC := HH.out.1.closed (x := x) (cap := cap) HH.out.2.2.1 HH.out.2.1 HG.out.1 (by rw [HM.out]; exact k1') k2
    rw [HM.out] at HC
    have HC2 : Hid (_ ∧ _) := HC
    clear HC k1' k2 HD c1 c2
    go_wp2
    go_ret
    exact ⟨_, HC2.out.1, HC2.out.2, .inr (.inr ⟨H.out.1, H.out.2, ⟨_, rfl⟩, rfl⟩)⟩
#print axioms close_is
end Go.Proofs.Ytaecigpjcbjcbaa.Oct
