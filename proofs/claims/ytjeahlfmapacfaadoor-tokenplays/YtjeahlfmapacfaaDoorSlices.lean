/-
  Slices of bytes of the call's own, and bytes as strings.
-/
import Derived.Test.YtjeahlfmapacfaaDoorRot
import Derived.Test.YtjeahlfmapacfaaDoorArgs
import Derived.Deep.Draws
namespace Go.Proofs.YtjeahlfmapacfaaDoor.Oct
open Go.RowKit Sha

theorem own_in {e : TypeId} {B : Nat} {w : World} {v : Value} {l : List UInt8} (h : Own e B w v l) (hc : l.length ≤ 140737488355328) :
    ∃ a cp, v = .slice a l.length cp ∧ In w a l.length cp l ∧ (0 < l.length → ∃ g, a = some ⟨g, 0, none⟩ ∧ B ≤ g ∧ g < w.heap.size) := by
  rcases h.2 with ⟨h1, h2⟩ | ⟨g, cap, cur, e1, e2, hg, e3, e4, _⟩
  · have : l = [] := List.length_eq_zero_iff.1 h2
    subst this
    exact ⟨none, 0, h1, In.nil w, by simp⟩
  · subst e1
    exact ⟨some ⟨g, 0, none⟩, cap, rfl, h.toIn hc, fun _ => ⟨g, rfl, e2, lt_of_block hg⟩⟩

theorem string_in {P : Program} {e t9 t22 : TypeId} (h22 : P.underlying t22 = some (.slice e)) (h5 : P.underlying e = some (.int .u8)) (h9 : P.underlying t9 = some .string)
    {w : World} {a : Option Addr} {n cp : Nat} {l : List UInt8} (h : In w a n cp l) : (convert t22 t9 (.slice a n cp)).run P w = .ok (.string ⟨l.toArray⟩) w := by
  obtain ⟨h1, h2, h3, h4, h6⟩ := h
  rcases Nat.eq_zero_or_pos n with hn | hn
  · have hl : l = [] := List.length_eq_zero_iff.1 (by omega)
    subst hn hl
    cases a with
    | none => exact run_convert_bytes_nil w t22 e h22 h5 0 cp t9 h9
    | some x => exact run_convert_bytes_back w t22 t9 e x cp [] h22 h5 h9 (fun j hj => absurd hj (by simp))
  · obtain ⟨b, off, rfl, hb, hc⟩ := h6 hn
    subst h1
    refine run_convert_bytes_back w t22 t9 e ⟨b, off, none⟩ cp l h22 h5 h9 fun j hj => ?_
    rw [Addr.add_lit]
    exact hc j _ (List.getElem?_eq_getElem hj)
#print axioms string_in
end Go.Proofs.YtjeahlfmapacfaaDoor.Oct
