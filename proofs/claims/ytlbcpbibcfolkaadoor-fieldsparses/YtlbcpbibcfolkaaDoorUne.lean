/-
  Layer 22 (fields): Unescape, Parse of the program.
-/
import Derived.Test.YtlbcpbibcfolkaaDoorFao
import Derived.Tactics
import Derived.Tactics2
import Derived.Laws.Pointers
namespace Go.Proofs.YtlbcpbibcfolkaaDoor.Oct
open Go.RowKit
set_option linter.unusedSimpArgs false
set_option linter.unusedVariables false

/-- an answer and an error -/
def ansE (v : Value) (p : Nat) (er : Int) : Value := .tuple #[v, if er = 0 then .nilIface else .iface 58 (fl p er)]
theorem zero26 (W : World) : (zeroValue 26).run Tryd.prog W = .ok .nilIface W := by kernel_rfl
theorem zero55 (W : World) : (zeroValue 55).run Tryd.prog W = .ok (.agg #[.string e0, iv 0]) W := by kernel_rfl
theorem build55 (s : BA) (W : World) : (Instr.build 55 #[(0, .string s)]).run Tryd.prog W = .ok (.agg #[.string s, iv 0]) W := by kernel_rfl
theorem ET_gr {w w' : World} {g : Nat} (h : ET w) (k : w.grownBy w' (some g)) (hg : 0 < g) : ET w' := by
  have hb := k.block 0 h.lt (by simp; omega)
  unfold ET at h ⊢
  rw [← h]
  unfold World.cell?
  simp only [hb]
theorem size55 : (Tryd.prog.info? 55).map (·.size) = some 2 := by kernel_rfl
set_option maxRecDepth 100000 in
set_option maxHeartbeats 1000000 in
theorem unesc_is (s : BA) (hs : s.size ≤ 140737488355328) (w : World) (hE : ET w) (R : Value) (hR : R = ansE (.string (if (upTo [] s.data.toList).2.2 = 0 then ⟨(upTo [] s.data.toList).1.toArray⟩ else e0)) (upTo [] s.data.toList).2.1 (upTo [] s.data.toList).2.2) : Calls Tryd.prog 11 #[.string s] w fun e w' => e = .returned R ∧ Below w.heap.size w w' := by
  have hmf : ∀ (fn : Fn) (first cap : Array Value) (w : World), (Instr.makeFunc fn first cap).run Tryd.prog w = .ok (.func fn first cap) w := fun _ _ _ _ => rfl
  have hz := zero26
  have hz5 := zero55
  have hb5 := build55 s
  obtain ⟨q, hq⟩ : ∃ q, w.heap.size = q := ⟨_, rfl⟩
  obtain ⟨A, hA⟩ : ∃ A, w.alloc (.cells #[.nilIface] 26) = A := ⟨_, rfl⟩
  have hbA : Below w.heap.size w A := by rw [← hA]; exact below_al _ _
  have hqA : Blk A q 26 [.nilIface] := by rw [← hA, ← hq]; exact Blk.new w _ _
  obtain ⟨g, hg⟩ : ∃ g, A.heap.size = g := ⟨_, rfl⟩
  have HA1 : Hid (Below w.heap.size w A ∧ Blk A q 26 [.nilIface] ∧ s.size ≤ 140737488355328 ∧ ET A ∧ A.heap.size = g ∧ w.heap.size ≤ q) := ⟨hbA, hqA, hs, hE.below hbA, hg, by omega⟩
  obtain ⟨L, hL⟩ : ∃ L, s.data.toList = L := ⟨_, rfl⟩
  have HL : Hid (s.data.toList = L) := hL
  rw [hL] at hR
  have HR : Hid (R = ansE (.string (if (upTo [] L).2.2 = 0 then ⟨(upTo [] L).1.toArray⟩ else e0)) (upTo [] L).2.1 (upTo [] L).2.2) := hR
  clear hR
  clear hbA hqA hL hs hE
  go_enter_defers Tryd.func11, Tryd.ntmps11
  go_wp2_with (with_reducible change wpList _ _ _ ({ dst := none, op := Op.store 55 _ _, type := _, pos := _, after := _, guard := _ } :: _) _ _; refine Hid.out ?_)
  show wpList _ _ _ _ _ _
  refine wpList_store_blk rfl 55 (.tmp 4) (.tmp 7) rfl g 0 55 [.string e0, iv 0] [.string s, iv 0] rfl rfl (by rw [← HA1.out.2.2.2.2.1]; exact Blk.new A _ _) (by simp) size55 (by intro v hv; simp only [List.mem_cons, List.not_mem_nil, or_false] at hv; rcases hv with rfl | rfl <;> rfl) ?_
  intro A2 hx2 hg2
  have HA : Hid (Below w.heap.size w A2 ∧ Blk A2 q 26 [.nilIface] ∧ Rd A2 g s 0 ∧ ET A2 ∧ q ≠ g ∧ w.heap.size ≤ q ∧ w.heap.size ≤ g) := by
    have e5 := HA1.out.2.2.2.2.1
    have hb2 : Below A.heap.size A A2 := below_gr (below_al A _) hg2.out (by omega)
    have hqA := HA1.out.2.1
    exact ⟨below_tr HA1.out.1 hb2, hqA.below hb2 hqA.lt, ⟨blk_all hx2.out rfl, HA1.out.2.2.1, Nat.zero_le _⟩, HA1.out.2.2.2.1.below hb2, by have := hqA.lt; omega, HA1.out.2.2.2.2.2, by have := HA1.out.1.size; omega⟩
  clear hx2 hg2
  go_wp2_with fail
  refine (upTo_is HA.out.2.2.1 e0).mono ?_
  intro e W1 h1
  rw [List.drop_zero, HL.out] at h1
  change UpP A2 g s 0 (upTo [] L) e W1 at h1
  rcases h1 with ⟨h1, he, hr1, hg1⟩ | ⟨h1, he, hg1⟩
  · subst he
    obtain ⟨x, hx⟩ : ∃ x : BA, x = ⟨(upTo [] L).1.toArray⟩ := ⟨_, rfl⟩
    rw [← hx]
    have HOK : Hid (R = .tuple #[.string x, .nilIface]) := by show R = _; rw [HR.out, h1]; unfold ansE; rw [if_pos rfl, if_pos rfl, hx]
    have hq1 : Blk W1 q 26 [.nilIface] := HA.out.2.1.kept hg1 (by simpa using HA.out.2.2.2.2.1)
    have c1 : W1.cell? ⟨q, 0, none⟩ = some .nilIface := hq1.cell rfl
    have f1 : W1.frozen? ⟨q, 0, none⟩ = false := hq1.free 0
    obtain ⟨W2, hW2⟩ : ∃ W2, W1.setCell ⟨q, 0, none⟩ .nilIface = W2 := ⟨_, rfl⟩
    have H2 : Hid (Blk W2 q 26 [.nilIface] ∧ Below w.heap.size w W2) := by
      rw [← hW2]
      exact ⟨hq1.set 0 _, below_gr (below_gr HA.out.1 hg1 HA.out.2.2.2.2.2.2) (grown_setCell _ _ _ _) HA.out.2.2.2.2.2.1⟩
    clear hq1 hr1 hg1 hx
    go_wp2
    refine leaves_cons (f := 26) (args := #[.pointer (some ⟨q, 0, none⟩)]) (by simp) (by simp [go_sem]) ?_
    refine (catch26_r H2.out.1).mono ?_
    rintro e u' W3 ⟨rfl, rfl, hk, hg3⟩
    have c3 : W3.cell? ⟨q, 0, none⟩ = some .nilIface := hk.cell rfl
    have HB : Below w.heap.size w W3 := below_gr H2.out.2 hg3 HA.out.2.2.2.2.2.1
    rw [HOK.out]
    simp [Leaves, settle, results, Tryd.results11, go_sem, c3, HB]
  · have HOK : Hid (R = .tuple #[.string e0, .iface 58 (fl (upTo [] L).2.1 (upTo [] L).2.2)]) := by show R = _; rw [HR.out]; unfold ansE; rw [if_neg h1, if_neg h1]
    have hq1 : Blk W1 q 26 [.nilIface] := HA.out.2.1.kept hg1 (by simpa using HA.out.2.2.2.2.1)
    have H2 : Hid (Blk W1 q 26 [.nilIface] ∧ Below w.heap.size w W1 ∧ ET W1) := ⟨hq1, below_gr HA.out.1 hg1 HA.out.2.2.2.2.2.2, ET_gr HA.out.2.2.2.1 hg1 (by have := HA1.out.1.size; have := HA1.out.2.2.2.1.lt; have := HA1.out.2.2.2.2.1; omega)⟩
    rw [Nat.zero_add] at he
    rw [gvP] at he
    obtain ⟨P, hP⟩ : ∃ P, (upTo [] L).2.1 = P := ⟨_, rfl⟩
    obtain ⟨er, her⟩ : ∃ er, (upTo [] L).2.2 = er := ⟨_, rfl⟩
    rw [hP, her] at he HOK
    subst he
    clear hq1 hg1 h1 hP her
    go_wp2
    refine leaves_cons (f := 26) (args := #[.pointer (some ⟨q, 0, none⟩)]) (by simp) (by simp [go_sem]) ?_
    refine (catch26_p H2.out.2.2 H2.out.1 []).mono ?_
    rintro e u' W3 ⟨rfl, rfl, hk, hg3⟩
    have c3 : W3.cell? ⟨q, 0, none⟩ = some (.iface 58 (fl P er)) := hk.cell rfl
    have HB : Below w.heap.size w W3 := below_gr H2.out.2.1 hg3 HA.out.2.2.2.2.2.1
    rw [HOK.out]
    simp [Leaves, settle, results, Tryd.results11, go_sem, c3, HB]
#print axioms unesc_is
end Go.Proofs.YtlbcpbibcfolkaaDoor.Oct
