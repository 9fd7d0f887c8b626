/-
  Layer 15 (people): a call among the law's arguments.
-/
import Derived.Test.YtfickhhfhdhcbaaNobody
import Derived.Deep.Slices
import Derived.ChangeSame
namespace Go.Proofs.Ytfickhhfhdhcbaa.Oct
open Go.RowKit Go.ChangeShapes Go.WideShapes Go.ChangeAt Go.Deep

theorem five {α : Type} {l : List α} (h : l.length = 5) : ∃ a b c d e, l = [a, b, c, d, e] := by
  rcases l with _ | ⟨a, _ | ⟨b, _ | ⟨c, _ | ⟨d, _ | ⟨e, _ | ⟨f, l⟩⟩⟩⟩⟩⟩ <;> simp at h
  exact ⟨a, b, c, d, e, rfl⟩
theorem view_act {H : Type} {enc : TypeId × Value → H} {w : World} {fuel : Nat} {xs : Array Value} {x : DataW H × List MemPlace} (h : DataW.trod enc Try.prog w 0 (fun _ => true) true fuel 32 (Value.agg xs).cells.toList = some x) (hs : xs.size = Try.prog.cellsOf 32) :
    ∃ (k : Int) (a b c : ByteArray) (r : Int), xs = #[.int .i64 k, .string a, .string b, .string c, .int .i64 r] := by
  have ce : Try.prog.cellsOf 32 = 5 := by kernel_rfl
  rw [ce] at hs
  have e : (Value.agg xs).cells.toList = xs.toList := by simp [Value.cells]
  rw [e] at h
  obtain ⟨ys, k, hk, hxy, _, hxl, hf⟩ := DataW.trod_struct Try.underlying32 h
  have hxl' : ys.length = 5 := hxl
  obtain ⟨y0, y1, y2, y3, y4, rfl⟩ := five hxl'
  obtain ⟨v0, v1, v2, v3, v4, hv⟩ := five (l := xs.toList) (by simpa using hs)
  rw [hv] at hf
  have g0 := hf 0 _ rfl
  have g1 := hf 1 _ rfl
  have g2 := hf 2 _ rfl
  have g3 := hf 3 _ rfl
  have g4 := hf 4 _ rfl
  have q3 : Try.prog.cellsOf 3 = 1 := by kernel_rfl
  have q9 : Try.prog.cellsOf 9 = 1 := by kernel_rfl
  change DataW.trod enc Try.prog w 0 _ true k 3 (([v0, v1, v2, v3, v4].drop 0).take (Try.prog.cellsOf 3)) = some y0 at g0
  change DataW.trod enc Try.prog w 0 _ true k 9 (([v0, v1, v2, v3, v4].drop 1).take (Try.prog.cellsOf 9)) = some y1 at g1
  change DataW.trod enc Try.prog w 0 _ true k 9 (([v0, v1, v2, v3, v4].drop 2).take (Try.prog.cellsOf 9)) = some y2 at g2
  change DataW.trod enc Try.prog w 0 _ true k 9 (([v0, v1, v2, v3, v4].drop 3).take (Try.prog.cellsOf 9)) = some y3 at g3
  change DataW.trod enc Try.prog w 0 _ true k 3 (([v0, v1, v2, v3, v4].drop 4).take (Try.prog.cellsOf 3)) = some y4 at g4
  rw [q3] at g0 g4
  rw [q9] at g1 g2 g3
  simp only [List.drop, List.take] at g0 g1 g2 g3 g4
  obtain ⟨k0, hv0, _, _⟩ := DataW.trod_int Try.underlying3 g0
  obtain ⟨k4, hv4, _, _⟩ := DataW.trod_int Try.underlying3 g4
  obtain ⟨s1, hv1, _⟩ := DataW.trod_string Try.underlying9 g1
  obtain ⟨s2, hv2, _⟩ := DataW.trod_string Try.underlying9 g2
  obtain ⟨s3, hv3, _⟩ := DataW.trod_string Try.underlying9 g3
  simp at hv0 hv1 hv2 hv3 hv4
  subst hv0 hv1 hv2 hv3 hv4
  exact ⟨k0, s1, s2, s3, k4, by rw [← hv]⟩
#print axioms view_act
end Go.Proofs.Ytfickhhfhdhcbaa.Oct
