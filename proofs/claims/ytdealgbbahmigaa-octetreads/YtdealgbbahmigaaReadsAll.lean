/-
  'OctetReads', whatever the arguments' lengths: the law's walk; and a list of looks that was read.
-/
import Derived.Test.YtdealgbbahmigaaReads
import Derived.Deep.SlicePairs
namespace Go.Proofs.Ytdealgbbahmigaa.Oct
open Go.RowKit Go.ChangeShapes Go.WideShapes Go.ChangeAt Go.Deep

set_option maxRecDepth 100000 in
theorem reads (a : Option Addr) (len cap : Nat) (l : List UInt8) (a2 : Option Addr) (len2 cap2 : Nat) (K M : Nat → Int) (w : World) (hin : Arg w a len cap l) (hl : len ≤ 140737488355328) (hlk : Looks w a2 len2 K M) :
    Calls Try.prog 4 #[.slice a len cap, .slice a2 len2 cap2] w fun e w' => e = .returned (.bool true) ∧ Below w.heap.size w w' := by
  by_cases h1 : 100000 < len
  · have q : (100000 : Int) < (len : Int) := by omega
    clear hin hlk h1
    go_enter Try.func4, Try.ntmps4
    go_wp2_with (go_at_call 8; refine (lives _).mono ?_; rintro e w1 ⟨rfl, hb1⟩)
    go_ret
    exact ⟨rfl, hb1⟩
  · by_cases h2 : 1000 < len2
    · have q : (len : Int) ≤ 100000 := by omega
      have q2 : (1000 : Int) < (len2 : Int) := by omega
      clear hin hlk h1 h2
      go_enter Try.func4, Try.ntmps4
      go_wp2_with (go_at_call 8; refine (lives _).mono ?_; rintro e w1 ⟨rfl, hb1⟩)
      go_ret
      exact ⟨rfl, hb1⟩
    · exact reads_small a len cap l a2 len2 cap2 K M w (hin.toIn hl) hlk (by omega) (by omega)

theorem view_looks {H : Type} {enc : TypeId × Value → H} {w : World} {fuel : Nat} {a : Option Addr} {len cap : Nat} {d : DataW H} {p : List MemPlace}
    (h : DataW.trod enc Try.prog w 0 (fun _ => true) true fuel 29 (Value.slice a len cap).cells.toList = some (d, p)) : ∃ K M, Looks w a len K M := by
  rcases open_slice_pairs Try.underlying29 Try.underlying33 (by kernel_rfl) rfl rfl (by kernel_rfl) (by kernel_rfl) h with ⟨hcs, _⟩ | ⟨x, l, c, m, n, V0, V1, D0, D1, P0, P1, hcs, _, hl, hm, hmm, _, hcell⟩
  · simp [Value.cells] at hcs
    obtain ⟨rfl, rfl, rfl⟩ := hcs
    exact ⟨fun _ => 0, fun _ => 0, fun h => absurd h (by omega)⟩
  · simp [Value.cells] at hcs
    obtain ⟨rfl, rfl, rfl⟩ := hcs
    have hmc : m = cap := by simpa using hmm
    have each : ∀ i, i < m → ∃ q : Int × Int, w.cell? (x.add (i * 2)) = some (.int .i64 q.1) ∧ w.cell? (x.add (i * 2 + 1)) = some (.int .i64 q.2) ∧ -9223372036854775808 ≤ q.2 ∧ q.2 ≤ 9223372036854775807 := by
      intro i hi
      obtain ⟨e1, e2, t1, t2⟩ := hcell i hi
      obtain ⟨kd, f1, _, _⟩ := DataW.trod_int Try.underlying3 t1
      obtain ⟨mo, f2, _, wm⟩ := DataW.trod_int Try.underlying3 t2
      simp at f1 f2
      rw [f1] at e1
      rw [f2] at e2
      refine ⟨(kd, mo), e1, e2, ?_⟩
      simp [Lit.wf, IntKind.min, IntKind.max, IntKind.signed, IntKind.bits] at wm
      simp only
      omega
    obtain ⟨f, hf⟩ := choose_lt each
    refine ⟨fun i => (f i).1, fun i => (f i).2, fun hp => ?_⟩
    obtain ⟨b, off, spot⟩ := x
    have c0 := (hcell 0 (by omega)).1
    have hspot : spot = none := by simpa [Addr.add] using World.cell?_spot c0
    subst hspot
    have hb := World.block_lt_of_cell? w _ c0
    rw [Addr.add_lit] at hb
    refine ⟨b, off, rfl, hb, fun i hi => ?_⟩
    have sp := hf i (by omega)
    rw [Addr.add_lit, Addr.add_lit] at sp
    exact sp

#print axioms reads
#print axioms view_looks
end Go.Proofs.Ytdealgbbahmigaa.Oct
