/-
  Layer 7 (tree): a map of any keys: Put, Delete, Get, Len, Depth.
-/
import Derived.Test.YtnagknlfboadkaaWithoutIs
namespace Go.Proofs.Ytnagknlfboadkaa.Oct
open Go.RowKit

theorem depth_all : ∀ (d : Nat), d ≤ 1000 → ∀ (w : World) (t : T d) (nd : Nat), Lies w d t nd → WF d t → Calls Try.prog 35 #[.pointer (some ⟨nd, 0, none⟩)] w fun e w' => e = .returned (.int .i64 ((d + 1 : Nat) : Int)) ∧ w = w'
  | 0, _ => fun w t nd hL _ => by
    obtain ⟨a, n, cap, h1, _⟩ := hL
    exact depth_leaf w nd (h1.blk.cell (i := 1) rfl)
  | d + 1, hd => fun w t nd hL hw => by
    obtain ⟨a, n, cap, a', n', cap', bs, h1, _, h3, _, h5, h6⟩ := hL
    have hl := hw.1
    have hb0 : 0 < bs.length := by omega
    have ht0 : 0 < t.2.length := by omega
    have hnn : 0 < n' := by rw [← h3.1]; exact hb0
    obtain ⟨g, off, rfl, _, hc⟩ := h3.2 hnn
    have ck := hc 0 _ (List.getElem?_eq_getElem hb0)
    have hk := h6 0 _ _ (List.getElem?_eq_getElem ht0) (List.getElem?_eq_getElem hb0)
    have hwk := (hw.2 _ (List.getElem_mem ht0)).1
    have IH := depth_all d (by omega) w t.2[0] bs[0] hk hwk
    have HIH : Hid (Calls Try.prog 35 #[.pointer (some ⟨bs[0], 0, none⟩)] w fun e w' => e = .returned (.int .i64 ((d + 1 : Nat) : Int)) ∧ w = w') := IH
    have c1 := h1.blk.cell (i := 1) rfl
    have HZ : Hid (((n' : Int) == 0) = false) := by show _ = _; simp; omega
    have q1 : (0 : Int) < (n' : Int) := by omega
    obtain ⟨D, hD⟩ : ∃ D : Nat, d + 1 = D := ⟨_, rfl⟩
    rw [hD] at HIH ⊢
    have q2 : (D : Int) ≤ 1001 := by omega
    generalize bs[0] = b0 at *
    clear h1 h3 h5 h6 hc hk hwk IH hl hb0 ht0 hD
    simp only [Nat.add_zero] at ck
    go_enter Try.func35, Try.ntmps35
    go_wp2_with (first
      | (go_at_call 39; refine (isLeaf_any w nd _ n' cap' false HZ.out c1).mono ?_; rintro e w2 ⟨rfl, rfl⟩)
      | (go_at_call 35; refine HIH.out.mono ?_; rintro e w2 ⟨rfl, rfl⟩))
    go_ret
    exact ⟨by rw [show ((D + 1 : Nat) : Int) = 1 + (D : Int) by omega]; rfl, rfl⟩
#print axioms depth_all
theorem asRoot_pos (w : World) (nd n cap : Nat) (a : Option Addr) (hn : 0 < n) (h : w.cell? ⟨nd, 0, none⟩ = some (.slice a n cap)) : Calls Try.prog 32 #[.pointer (some ⟨nd, 0, none⟩)] w fun e w' => e = .returned (.pointer (some ⟨nd, 0, none⟩)) ∧ w = w' := by
  have q1 : (0 : Int) < (n : Int) := by omega
  go_enter Try.func32, Try.ntmps32
  go_wp2
  go_ret
  exact ⟨rfl, rfl⟩
theorem asRoot_leaf (w : World) (nd cap : Nat) (a : Option Addr) (h : w.cell? ⟨nd, 0, none⟩ = some (.slice a 0 cap)) (h1 : w.cell? ⟨nd, 1, none⟩ = some (.slice none 0 0)) : Calls Try.prog 32 #[.pointer (some ⟨nd, 0, none⟩)] w fun e w' => e = .returned (.pointer none) ∧ w = w' := by
  go_enter Try.func32, Try.ntmps32
  go_wp2_with (go_at_call 39; refine (leaf_is w nd h1).mono ?_; rintro e w2 ⟨rfl, rfl⟩)
  go_ret
  exact ⟨rfl, rfl⟩
theorem asRoot_node (w : World) (nd cap g off n' cap' kb : Nat) (a : Option Addr) (h : w.cell? ⟨nd, 0, none⟩ = some (.slice a 0 cap)) (h1 : w.cell? ⟨nd, 1, none⟩ = some (.slice (some ⟨g, off, none⟩) n' cap')) (hn : 0 < n') (hk : w.cell? ⟨g, off, none⟩ = some (.pointer (some ⟨kb, 0, none⟩))) : Calls Try.prog 32 #[.pointer (some ⟨nd, 0, none⟩)] w fun e w' => e = .returned (.pointer (some ⟨kb, 0, none⟩)) ∧ w = w' := by
  have q1 : (0 : Int) < (n' : Int) := by omega
  have HZ : Hid (((n' : Int) == 0) = false) := by show _ = _; simp; omega
  go_enter Try.func32, Try.ntmps32
  go_wp2_with (go_at_call 39; refine (isLeaf_any w nd _ n' cap' false HZ.out h1).mono ?_; rintro e w2 ⟨rfl, rfl⟩)
  go_ret
  exact ⟨rfl, rfl⟩
theorem whole_two (w : World) (b b2 : Nat) (m : Pr) : Calls Try.prog 34 #[two b m b2] w fun e w' => ∃ (nd gp gk : Nat), e = .returned (.pointer (some ⟨nd, 0, none⟩)) ∧ Hid (Nd w' nd (some ⟨gp, 0, none⟩) 1 1 [m] (.slice (some ⟨gk, 0, none⟩) 2 2) ∧ RdK w' (some ⟨gk, 0, none⟩) 2 [b, b2]) ∧ Hid (Below w.heap.size w w') := by
  unfold two
  go_enter Try.func34, Try.ntmps34
  go_wp2
  go_ret
  obtain ⟨w1, h1⟩ : ∃ w1, w1 = w.alloc (Obj.cells #[Value.pointer (some { block := b, off := 0 }), Value.string m.1, Value.string m.2, Value.pointer (some { block := b2, off := 0 })] 59) := ⟨_, rfl⟩
  have hs1 : w1.heap.size = w.heap.size + 1 := by rw [h1]; simp
  have hb1 : Below w.heap.size w w1 := by rw [h1]; exact (Below.refl _ w).alloc (Nat.le_refl _) _
  rw [← h1]
  have e2 := Blk.new w1 #[.string m.1, .string m.2] 40
  have e3 := Blk.new (w1.alloc (Obj.cells #[Value.string m.1, Value.string m.2] 40)) #[kp b, kp b2] 46
  have e4 := Blk.new ((w1.alloc (Obj.cells #[Value.string m.1, Value.string m.2] 40)).alloc (Obj.cells #[Value.pointer (some { block := b, off := 0 }), Value.pointer (some { block := b2, off := 0 })] 46)) #[Value.slice (some { block := w.heap.size + 1, off := 0 }) 1 1, Value.slice (some { block := w.heap.size + 1 + 1, off := 0 }) 2 2] 67
  rw [World.size_alloc, World.size_alloc, hs1] at e4
  rw [World.size_alloc, hs1] at e3
  rw [hs1] at e2
  exact ⟨_, _, _, rfl, ⟨⟨e4, rdp_one ((e2.alloc _).alloc _)⟩, rdk_two (e3.alloc _)⟩, ((hb1.alloc (by omega) _).alloc (by simp; omega) _).alloc (by simp; omega) _⟩
/-- a map that holds just the pairs of a list -/
def Tr (w : World) (m : Nat) (L : List Pr) : Prop := (Mp w m (.pointer none) 0 ∧ L = []) ∨ ∃ (d : Nat) (t : T d) (nd : Nat), Mp w m (.pointer (some ⟨nd, 0, none⟩)) L.length ∧ Lies w d t nd ∧ Good d t ∧ 1 ≤ (prs d t).length ∧ tl d t = L
theorem Tr.below {w w' : World} {m : Nat} {L : List Pr} (h : Tr w m L) (hb : Below w.heap.size w w') : Tr w' m L := by
  rcases h with ⟨h1, h2⟩ | ⟨d, t, nd, h1, h2, h3⟩
  · exact .inl ⟨h1.keep hb (Nat.le_refl _), h2⟩
  · exact .inr ⟨d, t, nd, h1.keep hb (Nat.le_refl _), h2.below hb (Nat.le_refl _), h3⟩
theorem Tr.ris {w : World} {m : Nat} {L : List Pr} (h : Tr w m L) : Ris L := by
  rcases h with ⟨_, rfl⟩ | ⟨d, t, nd, _, _, h3, _, rfl⟩
  · exact List.Pairwise.nil
  · exact h3.ris
theorem Mp.oth {w : World} {m n : Nat} {r : Value} (h : Mp w m r n) : Oth w m := Blk.oth (show Blk w m 48 _ from h) (by decide) (by decide) (by decide)

theorem tget (w : World) (m : Nat) (L : List Pr) (key : ByteArray) (h : Tr w m L) : Calls Try.prog 21 #[.pointer (some ⟨m, 0, none⟩), .string key] w fun e w' => e = .returned (.tuple #[.string (gv (eqs key L)), .bool (!(eqs key L).isEmpty)]) ∧ Hid (Below w.heap.size w w') := by
  rcases h with ⟨h1, rfl⟩ | ⟨d, t, nd, h1, h2, h3, h4, rfl⟩
  · have c2 := h1.cell (i := 2) rfl
    have c0 := h1.cell (i := 0) rfl
    go_enter Try.func21, Try.ntmps21
    go_wp2_with (first | (go_at_call 22; refine (made_is w m true c2).mono ?_; rintro e w2 ⟨rfl, rfl⟩) | (go_at_call 30; refine (get_nil w key).mono ?_; rintro e w3 ⟨rfl, hB⟩; have HB : Hid (Below w.heap.size w w3) := hB; clear hB))
    go_ret2
    exact ⟨rfl, HB⟩
  · have c2 := h1.cell (i := 2) rfl
    have c0 := h1.cell (i := 0) rfl
    have HC : Hid (Lies w d t nd ∧ Good d t) := ⟨h2, h3⟩
    clear h1 h2 h3
    go_enter Try.func21, Try.ntmps21
    go_wp2_with (first | (go_at_call 22; refine (made_is w m true c2).mono ?_; rintro e w2 ⟨rfl, rfl⟩) | (go_at_call 30; refine (get_is w d t nd key HC.out.1 HC.out.2).mono ?_; rintro e w3 ⟨rfl, HB⟩))
    go_ret2
    exact ⟨rfl, HB⟩
theorem tlen (w : World) (m : Nat) (L : List Pr) (h : Tr w m L) : Calls Try.prog 15 #[.pointer (some ⟨m, 0, none⟩)] w fun e w' => e = .returned (.int .i64 (L.length : Int)) ∧ w = w' := by
  rcases h with ⟨h1, rfl⟩ | ⟨d, t, nd, h1, _⟩
  · exact len_is w m _ 0 h1
  · exact len_is w m _ _ h1
#print axioms tget
/-- a half put together, as a good tree -/
theorem half_root {d : Nat} {H : Half d} {L : List Pr} (ho : H.ok) (hl : H.list = L) : match H with | .one t => tl d t = L ∧ WF d t ∧ (prs d t).length ≤ 7 | .two l m r => tl (d + 1) (([m], [l, r]) : T (d + 1)) = L ∧ WF (d + 1) (([m], [l, r]) : T (d + 1)) := by
  cases H with
  | one t => exact ⟨hl, ho.1, ho.2⟩
  | two l m r =>
    refine ⟨?_, rfl, ?_⟩
    · rw [← hl]
      show inter [tl d l, tl d r] [m] = tl d l ++ m :: tl d r
      simp [inter, dn]
    · intro k hk
      rcases List.mem_cons.1 hk with rfl | hk
      · exact ho.1
      · rw [List.mem_singleton.1 hk]; exact ho.2
end Go.Proofs.Ytnagknlfboadkaa.Oct
