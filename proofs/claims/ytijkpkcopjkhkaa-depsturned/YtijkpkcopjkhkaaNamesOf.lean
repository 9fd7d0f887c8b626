/-
  Layer 12 (deps): the names of items.
-/
import Derived.Test.YtijkpkcopjkhkaaSets
namespace Go.Proofs.Ytijkpkcopjkhkaa.Oct
open Go.RowKit

theorem below_grownBy {B m : Nat} {w a b : World} (h : Below B w a) (hg : a.grownBy b (some m)) (hm : B ≤ m) (hB : B ≤ w.heap.size) : Below B w b :=
  ⟨hg.os.trans h.os, hg.tape.trans h.tape, hg.output.trans h.output, Nat.le_trans h.size hg.size, fun k hk => (hg.block k (Nat.lt_of_lt_of_le hk (Nat.le_trans hB h.size)) (by simp; omega)).trans (h.block k hk)⟩
theorem run_make43 (W : World) : (Instr.makeMap 43 none).run Try.prog W = .ok (.map (some W.heap.size)) (W.alloc (.map #[] 0)) := by
  simp [Instr.makeMap]

def namesK (l : List It) : List Hs := l.foldl (fun ks x => addK ks x.name) []
theorem namesK_take (l : List It) (i : Nat) (x : It) (h : l[i]? = some x) : namesK (l.take (i + 1)) = addK (namesK (l.take i)) x.name := by
  unfold namesK
  rw [List.take_add_one, h, List.foldl_append]; rfl
theorem info36 (x : It) (h : x.name.length = 32) : (Try.prog.info? 36).map (·.size) = some x.cells.length := by rw [x.cells_length h]; kernel_rfl
theorem cells_one (x : It) : ∀ v ∈ x.cells, v.oneCell' = true := by
  intro v hv
  rcases List.mem_append.1 hv with h | h
  · exact U_one _ v h
  · simp at h; subst h; rfl
theorem zero36 : ∃ Z : List Value, Z.length = 33 ∧ ∀ W, (zeroValue 36).run Try.prog W = .ok (.agg Z.toArray) W := ⟨(List.replicate 32 (.int .u8 0)) ++ [.slice none 0 0], by simp, fun W => by kernel_rfl⟩
theorem cells_name (w : World) (x : It) : (w.alloc (.cells x.cells.toArray 36)).rangeAt w.heap.size 0 (U x.name) := by
  intro j v hj
  have hlt := (List.getElem?_eq_some_iff.1 hj).1
  have := (Blk.new w x.cells.toArray 36).cell (i := 0 + j) (v := v) (by
    simp only [It.cells, Nat.zero_add]
    rw [List.getElem?_append_left hlt]; exact hj)
  exact this
theorem cells_dep (w : World) (x : It) (h : x.name.length = 32) : (w.alloc (.cells x.cells.toArray 36)).cell? ⟨w.heap.size, 32, none⟩ = some (.slice x.a x.n x.c) :=
  (Blk.new w x.cells.toArray 36).cell (i := 32) (by simp [It.cells, U_length, h])
def NamesP (w : World) (ks : List Hs) (e : Ending) (w' : World) : Prop := ∃ b, e = .returned (.map (some b)) ∧ Hid (SM w' b ks ∧ w.heap.size ≤ b) ∧ Hid (Below w.heap.size w w')

set_option maxRecDepth 100000 in
set_option maxHeartbeats 1000000 in
theorem namesOf_is (w : World) (a : Option Addr) (len cap : Nat) (l : List It) (h : Its w a len l) (hn : len ≤ 100000) :
    Calls Try.prog 24 #[.slice a len cap] w (NamesP w (namesK l)) := by
  have HA : Hid (Its w a len l) := h
  have q5 : (len : Int) ≤ 100000 := by omega
  obtain ⟨Z, hZl, hZ⟩ := zero36
  have HZ : Hid (Z.length = 33) := hZl
  clear h hn hZl
  have hmk := run_make43
  go_enter Try.func24, Try.ntmps24
  go_wp2
  clear hmk
  obtain ⟨W, hW⟩ : ∃ W, w.alloc (.map #[] 0) = W := ⟨_, rfl⟩
  have HB0 : Hid (Below w.heap.size w W) := by show Below _ _ _; rw [← hW]; exact (Below.refl _ w).alloc (Nat.le_refl _) _
  have HK0 : Hid (SM W w.heap.size []) := by show SM _ _ _; rw [← hW]; exact SM.made w
  rw [hW]
  clear hW
  go_loopw [9] (fun u wr => ∃ i : Nat, u = .int .i64 (i : Int) ∧ Hid (i ≤ len) ∧ Hid (Below w.heap.size w wr ∧ SM wr w.heap.size (namesK (l.take i)))) (fun u _ => len - (intOf u).toNat)
  case atStart => exact ⟨0, rfl, Nat.zero_le _, ⟨HB0.out, HK0.out⟩⟩
  case round =>
    obtain ⟨i, rfl, HI, HB⟩ := hrel
    by_cases hi : i < len
    · obtain ⟨x, hx⟩ : ∃ x, l[i]? = some x := ⟨_, List.getElem?_eq_getElem (by rw [HA.out.1]; exact hi)⟩
      obtain ⟨b, off, rfl, hb, hel⟩ := HA.out.2 (by omega)
      have HX : Hid (i < len ∧ l[i]? = some x ∧ x.name.length = 32) := ⟨hi, hx, (hel i x hx).1⟩
      have HRA : Hid (wr.rangeAt b (off + i * 33) x.cells) := rangeAt_same (hel i x hx).2.1 (HB.out.1.block b hb)
      have q1 : (i : Int) < (len : Int) := by omega
      clear hel hx hi
      go_wp2_with (first
        | (with_reducible change wpList _ _ _ ({ dst := some 12, op := _, type := _, pos := _, after := _, guard := _ } :: _) _ _
           refine wpList_load_mid rfl 36 (.tmp 11) rfl b (off + i * 33) rfl x.cells _ HRA.out Try.underlying36 rfl (info36 x HX.out.2.2) ?_)
        | (with_reducible change wpList _ _ _ ({ dst := none, op := Op.store 36 _ _, type := _, pos := _, after := _, guard := _ } :: _) _ _
           refine wpList_store_fresh rfl 36 (.tmp 5) (.tmp 12) rfl Z x.cells 36 rfl rfl (by rw [x.cells_length HX.out.2.2, HZ.out]) (info36 x HX.out.2.2) (cells_one x) ?_)
        | (with_reducible change wpList _ _ _ ({ dst := some 15, op := _, type := _, pos := _, after := _, guard := _ } :: _) _ _
           refine wpList_load_mid rfl 34 (.tmp 14) rfl wr.heap.size 0 rfl (U x.name) _ (cells_name wr x) Try.underlying34 rfl (info34 x.name HX.out.2.2) ?_)
        | (with_reducible change wpList _ _ _ ({ dst := none, op := Op.mapUpdate 43 _ _ _, type := _, pos := _, after := _, guard := _ } :: _) _ _
           refine wpList_sput rfl (.tmp 13) (.tmp 15) (.tmp 16) rfl w.heap.size (namesK (l.take i)) x.name rfl rfl rfl (HB.out.2.alloc _) HX.out.2.2 ?_
           intro w6 hS6 hG6 hZ6))
      refine ⟨⟨i + 1, by simp, HX.out.1, below_grownBy (HB.out.1.alloc HB.out.1.size _) hG6 (Nat.le_refl _) (Nat.le_refl _), by rw [namesK_take l i x HX.out.2.1]; exact hS6⟩, ?_⟩
      have := HX.out.1; simp [intOf]; omega
    · have q1 : ¬ (i : Int) < (len : Int) := by omega
      go_wp2
      go_ret
      refine ⟨w.heap.size, rfl, ⟨?_, Nat.le_refl _⟩, HB.out.1⟩
      have := HB.out.2
      rw [List.take_of_length_le (by rw [HA.out.1]; omega)] at this
      exact this
#print axioms namesOf_is
end Go.Proofs.Ytijkpkcopjkhkaa.Oct
