/-
  Layer 15 (people): Subject.
-/
import Derived.Test.YtfickhhfhdhcbaaSubjectReg
namespace Go.Proofs.Ytfickhhfhdhcbaa.Oct
open Go.RowKit

set_option maxRecDepth 100000 in
set_option maxHeartbeats 1000000 in
theorem subject_is {w : World} {p : Nat} {M : Pm} (h : PAt w p M) (x u : Hs) (hx : x.length ≤ 140737488355328) (hu : u.length ≤ 140737488355328) {o : Og} (ho : M.org x = some o) (hshort : ∀ tm ∈ o.teams, tm.name.length ≤ 140737488355328) :
    Calls Try.prog 21 #[.pointer (some ⟨p, 0, none⟩), hv x, hv u] w fun e w' => ∃ a c, e = .returned (.agg #[hv u, .slice a (teamsOf o.teams u).length c, .int .i64 (roleOf o.roles u)]) ∧ Hid (w'.ownsRow w.heap.size 9 1 (.slice a (teamsOf o.teams u).length c) (teamsOf o.teams u).length ((teamsOf o.teams u).map hv) ∧ Below w.heap.size w w') := by
  have H : Hid (PAt w p M ∧ x.length ≤ 140737488355328 ∧ u.length ≤ 140737488355328 ∧ M.org x = some o ∧ o ∈ M.orgs ∧ ∀ tm ∈ o.teams, tm.name.length ≤ 140737488355328) := ⟨h, hx, hu, ho, (h.split ho).1, hshort⟩
  obtain ⟨ok, hok⟩ : ∃ ok, o.blk = ok := ⟨_, rfl⟩
  have HOK : Hid (o.blk = ok) := hok
  have hz42 : ∀ W, (zeroValue 42).run Try.prog W = .ok (.agg #[.string ⟨#[]⟩, .slice none 0 0, .int .i64 0]) W := fun W => by kernel_rfl
  obtain ⟨W, hW⟩ : ∃ W, w.alloc (.cells #[.string ⟨#[]⟩, .slice none 0 0, .int .i64 0] 42) = W := ⟨_, rfl⟩
  have HW : Hid (w.alloc (.cells #[.string ⟨#[]⟩, .slice none 0 0, .int .i64 0] 42) = W) := hW
  have HB : Hid (Below w.heap.size w W ∧ Blk W w.heap.size 42 [.string ⟨#[]⟩, .slice none 0 0, .int .i64 0]) := by
    rw [← hW]
    exact ⟨(Below.refl _ w).alloc (Nat.le_refl _) _, by simpa using Blk.new w #[.string ⟨#[]⟩, .slice none 0 0, .int .i64 0] 42⟩
  clear h hx hu ho hshort hok hW
  go_enter Try.func21, Try.ntmps21
  go_wp2_with fail
  rw [HW.out]
  refine (find_is (H.out.1.below HB.out.1) x H.out.2.1).mono ?_
  rintro e w2 ⟨rfl, rfl⟩
  rw [H.out.2.2.2.1]
  unfold foundOf
  simp only [Option.isSome_some, if_true]
  rw [HOK.out]
  go_wp2_with fail
  have hP := H.out.1.below HB.out.1
  have hlo : o.blk < w.heap.size := (H.out.1.oblk H.out.2.2.2.2.1).lt
  have hlr : o.rb < w.heap.size := (H.out.1.oroles H.out.2.2.2.2.1).lt
  refine subject_region (tb := o.tb) (rb := o.rb) (l := o.teams) (rs := o.roles) (Z := [.string ⟨#[]⟩, .slice none 0 0, .int .i64 0]) ⟨HB.out.2, rfl, by rw [← HOK.out]; omega, by omega⟩ ⟨by rw [← HOK.out]; exact hP.oblk H.out.2.2.2.2.1, hP.oroles H.out.2.2.2.2.1⟩ ⟨hP.oteams H.out.2.2.2.2.1, (hP.ok o H.out.2.2.2.2.1).teams, fun tm ht => hP.oteam H.out.2.2.2.2.1 ht, H.out.2.2.1, H.out.2.2.2.2.2⟩ ?_
  intro V1 a c V2 hN hF
  clear hP hlo hlr
  have HN : Hid (Below w.heap.size w V2 ∧ V2.ownsRow w.heap.size 9 1 (.slice a (teamsOf o.teams u).length c) (teamsOf o.teams u).length ((teamsOf o.teams u).map hv)) := by
    have hb1 : Below w.heap.size w V1 := HB.out.1.trans (hN.2.mono HB.out.1.size)
    refine ⟨hb1.grown hF.2 hb1.size (fun j hj => by cases hj; omega), ?_⟩
    obtain ⟨h1, h2⟩ := hN.1
    refine ⟨h1, h2.imp id (fun ⟨g, cc, cur, e1, e2, hg, r⟩ => ⟨g, cc, cur, e1, Nat.le_trans HB.out.1.size e2, ?_, r⟩)⟩
    have hne : some g ≠ some w.heap.size := by
      have := HB.out.2.lt
      simp
      omega
    exact (hF.2.block g (lt_of_block hg) hne).trans hg
  have HF : Hid (Blk V2 w.heap.size 42 [hv u, .slice a (teamsOf o.teams u).length c, .int .i64 (roleOf o.roles u)]) := hF.1
  clear hN hF
  go_wp2_with fail
  refine bodyPost_ret (results_cell_row (P := Try.prog) (p := 6) rfl _ V2 w.heap.size 42 _ (0, 0) _ rfl HF.out Try.underlying42 rfl (by kernel_rfl)) rfl ?_
  exact ⟨a, c, rfl, HN.out.2, HN.out.1⟩
#print axioms subject_is
end Go.Proofs.Ytfickhhfhdhcbaa.Oct
