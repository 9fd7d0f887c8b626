/-
  Layer 10 (patch): the closure of 'pieces': it hands out each piece between the slashes.
-/
import Derived.Test.YtgdecjacbkicmaaDoorCut
import Derived.Test.YtgdecjacbkicmaaDoorOver
import Derived.RangeFuncNested
import Derived.RangeFuncBound
import Derived.RangeFuncCalls
import Derived.RangeFuncLeaves
import Derived.Shelf.Abstract
import Derived.Shelf.RegionOpen
import Derived.WalkKit
import Derived.OwnWalkIn
import Derived.TacticsInMore
import Derived.LoopNIn
import Derived.LoopIn
namespace Go.Proofs.YtgdecjacbkicmaaDoor.Oct
open Go.RowKit Go.Shelf
set_option maxRecDepth 100000
attribute [local go_sem] Oper.semAt_some

def mkS (l : List UInt8) : ByteArray := ⟨l.toArray⟩
/-- the pieces of a text, as texts -/
def pcs (s : ByteArray) : List ByteArray := (split s.data.toList).map mkS
theorem mkS_list (s : ByteArray) : mkS s.data.toList = s := by cases s; simp [mkS]
theorem mkS_data (l : List UInt8) : (mkS l).data.toList = l := by simp [mkS]
def encP (t : Nat) (x : ByteArray) : Array Value := #[.int .i64 (t : Int), .string x]

/-- what is left to hand out -/
def Left (s : ByteArray) (t : Nat) (p r : ByteArray) (m : Bool) : Prop := (split s.data.toList).drop t = p.data.toList :: (if m then split r.data.toList else []) ∧ r.size ≤ s.size
theorem size_list (s : ByteArray) : s.size = s.data.toList.length := rfl
theorem Left.first {s p r : ByteArray} {m : Bool} (h : CutAs s.data.toList p.data.toList r.data.toList m) : Left s 0 p r m := by
  refine ⟨?_, by rw [size_list, size_list]; exact h.le.1⟩
  cases m with
  | true => rw [List.drop_zero, h.yes]; rfl
  | false => rw [List.drop_zero, h.no]; rfl
theorem Left.next {s p r p' r' : ByteArray} {t : Nat} {m : Bool} (h : Left s t p r true) (k : CutAs r.data.toList p'.data.toList r'.data.toList m) : Left s (t + 1) p' r' m := by
  refine ⟨?_, Nat.le_trans (by rw [size_list, size_list]; exact k.le.1) h.2⟩
  have e : (split s.data.toList).drop (t + 1) = split r.data.toList := by
    rw [← List.drop_drop, h.1]; rfl
  rw [e]
  cases m with
  | true => rw [k.yes]; rfl
  | false => rw [k.no]; rfl
theorem Left.at {s p r : ByteArray} {t : Nat} {m : Bool} (h : Left s t p r m) : (pcs s)[t]? = some p := by
  have e : (split s.data.toList)[t]? = some p.data.toList := by
    have := congrArg (·[0]?) h.1
    simpa using this
  rw [pcs, List.getElem?_map, e, Option.map_some, mkS_list]
theorem Left.lt {s p r : ByteArray} {t : Nat} {m : Bool} (h : Left s t p r m) : t < (pcs s).length := (List.getElem?_eq_some_iff.1 h.at).1
theorem Left.end {s p r : ByteArray} {t : Nat} (h : Left s t p r false) : (pcs s).length = t + 1 := by
  have e := congrArg List.length h.1
  have := h.lt
  simp [pcs] at e this ⊢
  omega
theorem split_len (l : List UInt8) : (split l).length ≤ l.length + 1 := by
  induction l with
  | nil => simp [split]
  | cons c r ih =>
    unfold split; split
    · simp; omega
    · split
      · simp
      · rename_i hs; rw [hs] at ih; simp at ih ⊢; omega

set_option maxRecDepth 100000 in
set_option maxHeartbeats 2000000 in
theorem pieces1_in (d l Bs : Nat) (s : ByteArray) (hs : s.size ≤ 140737488355328) (J : Nat → World → Prop) (Jx : World → Prop)
    (hJd : ∀ t A k, J t A → J t (A.drewN k))
    (hY : ∀ t x A, J t A → (pcs s)[t]? = some x → YieldAt Fence.wide (d - 1) Tryd.prog l (encP t x) A fun e B => (e = .returned (.bool true) ∧ J (t + 1) B) ∨ (e = .returned (.bool false) ∧ Jx B))
    (W : World) (hc : W.cell? ⟨Bs, 0, none⟩ = some (.string s)) (h0 : J 0 W) :
    CallsIn Fence.wide d Tryd.prog 75 #[.func (.yield l) #[] #[], .pointer (some ⟨Bs, 0, none⟩)] W fun e B => (∃ v, e = .returned v) ∧ (J (pcs s).length B ∨ Jx B) := by
  refine callsIn_of_wp Tryd.func75 rfl trivial ?_ rfl
  simp only [Tryd.ntmps75, List.size_toArray, List.length_cons, List.length_nil, Nat.reduceAdd, Nat.reduceSub, Array.replicate_succ, Array.replicate_zero, List.push_toArray, List.append_toArray, List.nil_append, List.cons_append]
  have HS : Hid (s.size ≤ 140737488355328) := hs
  clear hs
  gi_wp2_with (refine ⟨trivial, (fun h => by cases h), ?_⟩; gi_at_call 76; refine (callsIn_wide.2 (cut_is s _ HS.out)).mono ?_; rintro e w1 ⟨p0, r0, m0, rfl, HC, k, rfl⟩)
  have HL0 : Hid (Left s 0 p0 r0 m0) := Left.first HC.out
  have HLN : Hid ((pcs s).length ≤ 140737488355329) := by
    have h1 := split_len s.data.toList
    have h2 := HS.out
    rw [size_list] at h2
    show (pcs s).length ≤ _
    simp [pcs]; omega
  clear hc HC
  obtain ⟨N, hN⟩ : ∃ N, (pcs s).length = N := ⟨_, rfl⟩
  gi_loopw [3, 4, 5, 6] (fun u1 u2 u3 i wr => ∃ (t : Nat) (p r : ByteArray) (m : Bool), u1 = .string p ∧ u2 = .string r ∧ u3 = .bool m ∧ i = .int .i64 t ∧ Hid (J t wr) ∧ Hid (Left s t p r m)) (fun _ _ _ i _ => N - (intOf i).toNat)
  case atStart => exact ⟨0, p0, r0, m0, rfl, rfl, rfl, rfl, hJd 0 W k h0, HL0⟩
  case round =>
    obtain ⟨t, p, r, m, rfl, rfl, rfl, rfl, HJ, HL⟩ := hrel
    obtain ⟨fn, tmps, assign, body, hy, hR⟩ := hY t p wr HJ.out HL.out.at
    dsimp only [encP] at hy
    have b1 : (t : Int) ≤ 140737488355329 := by have := HL.out.lt; have := HLN.out; omega
    cases m with
    | true =>
      gi_wp2
      refine ⟨(fun h => by cases h), hR.mono ?_⟩
      rintro e W3 (⟨rfl, hJ3⟩ | ⟨rfl, hJ3⟩)
      · have HJ3 : Hid (J (t + 1) W3) := hJ3
        have HR : Hid (r.size ≤ 140737488355328) := Nat.le_trans HL.out.2 HS.out
        clear hy hR hJ3
        gi_wp2_with (refine ⟨trivial, (fun h => by cases h), ?_⟩; gi_at_call 76; refine (callsIn_wide.2 (cut_is r _ HR.out)).mono ?_; rintro e w1 ⟨p1, r1, m1, rfl, HC, k1, rfl⟩)
        go_roundw
        case rel => exact ⟨t + 1, p1, r1, m1, rfl, rfl, rfl, by simp, hJd _ _ _ HJ3.out, HL.out.next HC.out⟩
        case measure => have h1 := (HL.out.next HC.out).lt; rw [hN] at h1; simp [intOf]; omega
      · gi_wp2
        go_end0
        exact ⟨⟨_, rfl⟩, .inr hJ3⟩
    | false =>
      gi_wp2
      refine ⟨(fun h => by cases h), hR.mono ?_⟩
      rintro e W3 (⟨rfl, hJ3⟩ | ⟨rfl, hJ3⟩)
      · rw [← HL.out.end] at hJ3
        gi_wp2
        go_end0
        exact ⟨⟨_, rfl⟩, .inl hJ3⟩
      · gi_wp2
        go_end0
        exact ⟨⟨_, rfl⟩, .inr hJ3⟩

theorem pieces_is (s : ByteArray) (w : World) : Calls Tryd.prog 60 #[.string s] w fun e w' => e = .returned (.func (.func 75) #[] #[.pointer (some ⟨w.heap.size, 0, none⟩)]) ∧ w' = w.alloc (.cells #[.string s] 9) := by
  go_enter Tryd.func60, Tryd.ntmps60
  go_wp2
  go_ret
  exact ⟨rfl, rfl⟩
end Go.Proofs.YtgdecjacbkicmaaDoor.Oct
