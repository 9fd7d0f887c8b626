/-
  Layer 22 (fields): Parse of the program.
-/
import Derived.Test.YtlbcpbibcfolkaaDoorUne
namespace Go.Proofs.YtlbcpbibcfolkaaDoor.Oct
open Go.RowKit
set_option linter.unusedSimpArgs false
set_option linter.unusedVariables false

/-- what a text is read as: pairs, or a place and a number -/
def parF (s : BA) : List LL × Nat × Int := if 16384 < s.size then ([], 16384, 3) else formF s.data.toList
def PrP (w : World) (r : List LL × Nat × Int) (e : Ending) (w' : World) : Prop :=
  ((r.2.2 = 0 ∧ ∃ v, e = .returned (.tuple #[v, .nilIface]) ∧ OwP w' w.heap.size v (r.1.map mkP)) ∨ (r.2.2 ≠ 0 ∧ e = .returned (.tuple #[.slice none 0 0, .iface 58 (fl r.2.1 r.2.2)]))) ∧ Below w.heap.size w w'
theorem build58 (W : World) : (Instr.build 58 #[(0, iv 16384), (1, iv 3)]).run Tryd.prog W = .ok (.agg #[iv 16384, iv 3]) W := by kernel_rfl
set_option maxRecDepth 100000 in
set_option maxHeartbeats 1000000 in
theorem parse_is (s : BA) (hs : s.size ≤ 140737488355328) (w : World) (hE : ET w) : Calls Tryd.prog 19 #[.string s] w (PrP w (parF s)) := by
  have hmf : ∀ (fn : Fn) (first cap : Array Value) (w : World), (Instr.makeFunc fn first cap).run Tryd.prog w = .ok (.func fn first cap) w := fun _ _ _ _ => rfl
  have hz := zero26
  have hz5 := zero55
  have hb5 := build55 s
  have qs : (s.size : Int) ≤ 140737488355328 := by omega
  obtain ⟨q, hq⟩ : ∃ q, w.heap.size = q := ⟨_, rfl⟩
  obtain ⟨A, hA⟩ : ∃ A, w.alloc (.cells #[.nilIface] 26) = A := ⟨_, rfl⟩
  have hbA : Below w.heap.size w A := by rw [← hA]; exact below_al _ _
  have hqA : Blk A q 26 [.nilIface] := by rw [← hA, ← hq]; exact Blk.new w _ _
  obtain ⟨g, hg⟩ : ∃ g, A.heap.size = g := ⟨_, rfl⟩
  have HA1 : Hid (Below w.heap.size w A ∧ Blk A q 26 [.nilIface] ∧ s.size ≤ 140737488355328 ∧ ET A ∧ A.heap.size = g ∧ w.heap.size ≤ q) := ⟨hbA, hqA, hs, hE.below hbA, hg, by omega⟩
  obtain ⟨F, hF⟩ : ∃ F, parF s = F := ⟨_, rfl⟩
  have HF : Hid (parF s = F) := hF
  rw [hF]
  clear hF
  by_cases hbig : 16384 < s.size
  · have q1 : (16384 : Int) < (s.size : Int) := by omega
    have HBG : Hid (F = ([], 16384, 3)) := by show F = _; rw [← HF.out]; unfold parF; rw [if_pos hbig]
    have c1 : A.cell? ⟨q, 0, none⟩ = some .nilIface := hqA.cell rfl
    have f1 : A.frozen? ⟨q, 0, none⟩ = false := hqA.free 0
    obtain ⟨W2, hW2⟩ : ∃ W2, A.setCell ⟨q, 0, none⟩ (.iface 58 (.agg #[iv 16384, iv 3])) = W2 := ⟨_, rfl⟩
    have H2 : Hid (Blk W2 q 26 [.iface 58 (.agg #[iv 16384, iv 3])] ∧ Below w.heap.size w W2) := by
      rw [← hW2]
      exact ⟨hqA.set 0 _, below_gr hbA (grown_setCell _ _ _ _) (by omega)⟩
    have c3 : W2.cell? ⟨q, 0, none⟩ = some (.iface 58 (.agg #[iv 16384, iv 3])) := H2.out.1.cell rfl
    have b58 := build58
    clear hbA hqA hs hE hbig
    go_enter_defers Tryd.func19, Tryd.ntmps19
    go_wp2
    have HB : PrP w F (.returned (.tuple #[.slice none 0 0, .iface 58 (.agg #[iv 16384, iv 3])])) W2 := ⟨.inr (by rw [HBG.out]; exact ⟨by show (3 : Int) ≠ 0; omega, rfl⟩), H2.out.2⟩
    simp [bodyPostD, Leaves, settle, results, Tryd.results19, go_sem, c3, HB]
  have q1 : (s.size : Int) ≤ 16384 := by omega
  have HNB : Hid (F = formF s.data.toList) := by show F = _; rw [← HF.out]; unfold parF; rw [if_neg hbig]
  clear hbA hqA hs hE hbig
  go_enter_defers Tryd.func19, Tryd.ntmps19
  go_wp2_with (with_reducible change wpList _ _ _ ({ dst := none, op := Op.store 55 _ _, type := _, pos := _, after := _, guard := _ } :: _) _ _; refine Hid.out ?_)
  show wpList _ _ _ _ _ _
  refine wpList_store_blk rfl 55 (.tmp 4) (.tmp 12) rfl g 0 55 [.string e0, iv 0] [.string s, iv 0] rfl rfl (by rw [← HA1.out.2.2.2.2.1]; exact Blk.new A _ _) (by simp) size55 (by intro v hv; simp only [List.mem_cons, List.not_mem_nil, or_false] at hv; rcases hv with rfl | rfl <;> rfl) ?_
  intro A2 hx2 hg2
  have HA : Hid (Below w.heap.size w A2 ∧ Blk A2 q 26 [.nilIface] ∧ Rd A2 g s 0 ∧ ET A2 ∧ q ≠ g ∧ w.heap.size ≤ q ∧ w.heap.size ≤ g) := by
    have e5 := HA1.out.2.2.2.2.1
    have hb2 : Below A.heap.size A A2 := below_gr (below_al A _) hg2.out (by omega)
    have hqA := HA1.out.2.1
    exact ⟨below_tr HA1.out.1 hb2, hqA.below hb2 hqA.lt, ⟨blk_all hx2.out rfl, HA1.out.2.2.1, Nat.zero_le _⟩, HA1.out.2.2.2.1.below hb2, by have := hqA.lt; omega, HA1.out.2.2.2.2.2, by have := HA1.out.1.size; omega⟩
  clear hx2 hg2
  go_wp2_with fail
  refine (form_is HA.out.2.2.1).mono ?_
  intro e W1 h1
  rw [List.drop_zero, ← HNB.out] at h1
  rcases h1 with ⟨h1, ⟨v, he, ho1⟩, hg1⟩ | ⟨h1, he, hg1⟩
  · subst he
    have hq1 : Blk W1 q 26 [.nilIface] := HA.out.2.1.kept hg1 (by simpa using HA.out.2.2.2.2.1)
    have c1 : W1.cell? ⟨q, 0, none⟩ = some .nilIface := hq1.cell rfl
    have f1 : W1.frozen? ⟨q, 0, none⟩ = false := hq1.free 0
    obtain ⟨W2, hW2⟩ : ∃ W2, W1.setCell ⟨q, 0, none⟩ .nilIface = W2 := ⟨_, rfl⟩
    have H2 : Hid (Blk W2 q 26 [.nilIface] ∧ Below w.heap.size w W2 ∧ OwP W2 A2.heap.size v (F.1.map mkP) ∧ F.2.2 = 0 ∧ q < A2.heap.size) := by
      rw [← hW2]
      refine ⟨hq1.set 0 _, below_gr (below_gr HA.out.1 hg1 HA.out.2.2.2.2.2.2) (grown_setCell _ _ _ _) HA.out.2.2.2.2.2.1, ?_, h1, HA.out.2.1.lt⟩
      exact owp_gr (w := A2) ho1 (grown_setCell _ _ _ _) HA.out.2.1.lt
    clear hq1 hg1 ho1 h1
    go_wp2
    refine leaves_cons (f := 32) (args := #[.pointer (some ⟨q, 0, none⟩)]) (by simp) (by simp [go_sem]) ?_
    refine (catch32_r H2.out.1).mono ?_
    rintro e u' W3 ⟨rfl, rfl, hk, hg3⟩
    have c3 : W3.cell? ⟨q, 0, none⟩ = some .nilIface := hk.cell rfl
    have HB : PrP w F (.returned (.tuple #[v, .nilIface])) W3 := ⟨.inl ⟨H2.out.2.2.2.1, v, rfl, (owp_gr (w := A2) H2.out.2.2.1 hg3 H2.out.2.2.2.2).mono HA.out.1.size⟩, below_gr H2.out.2.1 hg3 HA.out.2.2.2.2.2.1⟩
    simp [Leaves, settle, results, Tryd.results19, go_sem, c3, HB]
  · have hq1 : Blk W1 q 26 [.nilIface] := HA.out.2.1.kept hg1 (by simpa using HA.out.2.2.2.2.1)
    have H2 : Hid (Blk W1 q 26 [.nilIface] ∧ Below w.heap.size w W1 ∧ ET W1 ∧ F.2.2 ≠ 0) := ⟨hq1, below_gr HA.out.1 hg1 HA.out.2.2.2.2.2.2, ET_gr HA.out.2.2.2.1 hg1 (by have := HA1.out.1.size; have := HA1.out.2.2.2.1.lt; have := HA1.out.2.2.2.2.1; omega), h1⟩
    rw [Nat.zero_add] at he
    rw [gvP] at he
    obtain ⟨P, hP⟩ : ∃ P, F.2.1 = P := ⟨_, rfl⟩
    obtain ⟨er, her⟩ : ∃ er, F.2.2 = er := ⟨_, rfl⟩
    have HPE : Hid (F.2.1 = P ∧ F.2.2 = er) := ⟨hP, her⟩
    rw [hP, her] at he
    subst he
    clear hq1 hg1 h1 hP her
    go_wp2
    refine leaves_cons (f := 32) (args := #[.pointer (some ⟨q, 0, none⟩)]) (by simp) (by simp [go_sem]) ?_
    refine (catch32_p H2.out.2.2.1 H2.out.1 []).mono ?_
    rintro e u' W3 ⟨rfl, rfl, hk, hg3⟩
    have c3 : W3.cell? ⟨q, 0, none⟩ = some (.iface 58 (fl P er)) := hk.cell rfl
    have HB : PrP w F (.returned (.tuple #[.slice none 0 0, .iface 58 (fl P er)])) W3 := ⟨.inr ⟨H2.out.2.2.2, by rw [HPE.out.1, HPE.out.2]⟩, below_gr H2.out.2.1 hg3 HA.out.2.2.2.2.2.1⟩
    simp [Leaves, settle, results, Tryd.results19, go_sem, c3, HB]
#print axioms parse_is
end Go.Proofs.YtlbcpbibcfolkaaDoor.Oct
