/-
  Layer 20 (review): slices.DeleteFunc as this program bears it; Close.
-/
import Derived.Test.YtaecigpjcbjcbaaFew
import Derived.Shelf.SlicesE.DeleteFunc
import Derived.Lib.OwnBridge
namespace Go.Proofs.Ytaecigpjcbjcbaa.Oct
open Go.Shelf Go.RowKit Go.Sort Go.Lib
set_option linter.unusedSimpArgs false
def laysDel_ren : Go.Shelf.Ren := ⟨fun | 10 => 50 | 6 => 56 | n => n, fun | 22 => 38 | 23 => 3 | 25 => 46 | 3 => 3 | 4 => 4 | 0 => 0 | n => n, fun | n => n⟩
theorem laysDel : Go.Proofs.SlLaysH.n10 Try.prog laysDel_ren := {
  mixed := by kernel_rfl
  f6 := ⟨Try.f56.name, by decide, Try.func56.trans (congrArg some (by kernel_rfl))⟩
  f10 := ⟨Try.f50.name, by decide, Try.func50.trans (congrArg some (by kernel_rfl))⟩
  t0 := Try.underlying0
  a0 := Try.isAgg0
  z0 := Try.sizeOf0
  v0 := Try.zeroValue0
  t3 := Try.underlying3
  a3 := Try.isAgg3
  z3 := Try.sizeOf3
  v3 := Try.zeroValue3
  t4 := Try.underlying4
  a4 := Try.isAgg4
  z4 := Try.sizeOf4
  v4 := Try.zeroValue4
  t22 := Try.underlying38
  a22 := Try.isAgg38
  z22 := Try.sizeOf38
  v22 := Try.zeroValue38
  a23 := Try.isAgg3
  z23 := Try.sizeOf3
  t25 := Try.underlying46
  a25 := Try.isAgg46
  z25 := Try.sizeOf46
  v25 := Try.zeroValue46 }
theorem zero3n (W : World) : (zeroValue 3).run Try.prog W = .ok (iv ((0 : Nat) : Int)) W := by kernel_rfl
def encN (n : Nat) : Value := iv (n : Int)
theorem opnC_enc (l : List Nat) : opnC l = l.map encN := rfl
set_option maxRecDepth 100000 in
theorem clos51_is (y : Nat) (x : Int) (k1 : Nat) (W : World) (c : W.cell? ⟨k1, 0, none⟩ = some (iv x)) : Calls Try.prog 51 #[iv (y : Int), .pointer (some ⟨k1, 0, none⟩)] W fun e w' => e = .returned (.bool ((y : Int) == x)) ∧ ∃ q, w' = W.drewN q := by
  go_enter Try.func51, Try.ntmps51
  go_wp2
  go_ret
  exact ⟨rfl, 0, rfl⟩
theorem grown_putRow {w : World} {g q : Nat} {d : Array Nat} : w.grownBy (putRow encN (Sort.ahead w q) g 0 d) (some g) :=
  ⟨rfl, rfl, rfl, by simp [putRow, mapBlock, Sort.ahead], fun k _ hne => by
    have : g ≠ k := fun e => hne (by rw [e])
    simp [putRow, mapBlock, Sort.ahead, Array.getElem?_modify, this]⟩
theorem delete_is {w : World} {g n cap k1 : Nat} {l : List Nat} {x : Int} (h : Ow w 3 1 (.slice (some ⟨g, 0, none⟩) n cap) n (opnC l)) (hk : Blk w k1 3 [iv x]) (hne : g ≠ k1) (hn : n ≤ 1000) :
    Calls Try.prog 50 #[.slice (some ⟨g, 0, none⟩) n cap, .func (.func 51) #[] #[.pointer (some ⟨k1, 0, none⟩)]] w fun e w' => e = .returned (.slice (some ⟨g, 0, none⟩) (outN l x).length cap) ∧ Ow w' 3 1 (.slice (some ⟨g, 0, none⟩) (outN l x).length cap) (outN l x).length (opnC (outN l x)) ∧ w.grownBy w' (some g) := by
  have hl : l.length = n := by have := h.1; simpa [opnC] using this
  have hcell : w.cell? ⟨k1, 0, none⟩ = some (iv x) := hk.cell rfl
  have hout : (l.toArray.toList.filter fun y : Nat => !((y : Int) == x)) = outN l x := rfl
  have hcap : n ≤ cap := by
    rcases h.2 with ⟨h0, _⟩ | ⟨g', c', cur, h0, _, _, hc, _⟩
    · cases h0
    · cases h0; exact hc
  have hH : Holds encN w g 0 l.toArray := by
    rcases h.2 with ⟨h0, _⟩ | ⟨g', c', cur, h0, _, hb, _, _, _, ht⟩
    · cases h0
    · cases h0
      intro j hj
      have hj' : j < l.length := by simpa using hj
      refine ⟨?_, by simp [World.frozen?, hb]⟩
      have h1 : (cur.toList.take (n * 1))[j]? = (opnC l)[j]? := by rw [ht]
      rw [List.getElem?_take_of_lt (by omega)] at h1
      rw [Nat.zero_add, cell_of_row w g j _ 3 (0, 0) hb, ← Array.getElem?_toList, h1]
      simp [opnC, encN, hj']
  have hc := AnyE.slices_DeleteFunc laysDel encN (fun _ => rfl) (fun y : Nat => ((y : Int) == x)) 51 #[.pointer (some ⟨k1, 0, none⟩)] (enters_of Try.func51 (by kernel_rfl) rfl) 0 (fun W => by show (zeroValue 3).run Try.prog W = _; exact zero3n W) g 0 cap l.toArray w
    (fun W y hb => clos51_is y x k1 W ((hb.cell (p := ⟨k1, 0, none⟩) hk.lt).trans hcell))
    (fun m os dk y hd => clos51_is y x k1 _ (by
      have hg : k1 < (putRow encN (Sort.ahead w m) g 0 dk).heap.size := by simpa [putRow, mapBlock, Sort.ahead] using hk.lt
      have e1 : (sortWorld encN w g 0 m dk os).heap[k1]? = w.heap[k1]? := by
        show (grow (putRow encN (Sort.ahead w m) g 0 dk) os).heap[k1]? = _
        rw [heap_grow_old _ _ hg]
        simp [putRow, mapBlock, Sort.ahead, Array.getElem?_modify, hne]
      exact (World.cell?_of_block (a := ⟨k1, 0, none⟩) e1).trans hcell))
    hH (by simp; omega) (by simp; omega)
  rw [hout] at hc
  have hsz : l.toArray.size = n := by simpa using hl
  rw [hsz] at hc
  refine (show Calls Try.prog 50 _ _ _ from hc).mono ?_
  rintro e w' ⟨rfl, q, rfl⟩
  refine ⟨rfl, ?_, grown_putRow⟩
  have hle : (outN l x).length ≤ n := by rw [← hl]; exact List.length_filter_le _ _
  have := ownsRow_putRow (q := q) (k := (outN l x).length) (ys := outN l x ++ List.replicate (n - (outN l x).length) 0) (enc := encN) (zs := l) h (by simp; omega) hle
  rw [List.take_left] at this
  exact this
#print axioms delete_is
end Go.Proofs.Ytaecigpjcbjcbaa.Oct
