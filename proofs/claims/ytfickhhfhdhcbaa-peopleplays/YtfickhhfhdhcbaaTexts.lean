/-
  Layer 15 (people): the reference's Texts and Same of what is the same; New.
-/
import Derived.Test.YtfickhhfhdhcbaaTextsReg
namespace Go.Proofs.Ytfickhhfhdhcbaa.Oct
open Go.RowKit

/-- texts that can be read -/
def StrAt (w : World) (a : Option Addr) (n : Nat) (l : List Hs) : Prop := l.length = n ∧ (0 < n → ∃ g, a = some ⟨g, 0, none⟩ ∧ g < w.heap.size ∧ ∀ i h, l[i]? = some h → w.cell? ⟨g, i, none⟩ = some (hv h))
theorem StrAt.below {w w' : World} {a : Option Addr} {n : Nat} {l : List Hs} (h : StrAt w a n l) (hb : Below w.heap.size w w') : StrAt w' a n l :=
  ⟨h.1, fun hp => by
    obtain ⟨g, e, hl, hc⟩ := h.2 hp
    exact ⟨g, e, Nat.lt_of_lt_of_le hl hb.size, fun i x hx => (hb.cell (p := ⟨g, i, none⟩) hl).trans (hc i x hx)⟩⟩
theorem own_str {B n : Nat} {w : World} {a : Option Addr} {c : Nat} {l : List Hs} (h : w.ownsRow B 9 1 (.slice a n c) n (l.map hv)) (hl : l.length = n) : StrAt w a n l := by
  refine ⟨hl, fun hp => ?_⟩
  rcases h.2 with ⟨_, hz⟩ | ⟨g, cap, cur, e1, _, hg, _⟩
  · omega
  · cases e1
    refine ⟨g, rfl, lt_of_block hg, fun i x hx => ?_⟩
    have hi := (List.getElem?_eq_some_iff.1 hx).1
    rw [World.ownsRow.cellAt h i (by omega), List.getElem?_map, hx]
    rfl
theorem eql9 (s : ByteArray) (W : World) : (binOp BinOp.eql 9 (.string s) (.string s)).run Try.prog W = .ok (.bool true) W := by
  have := Try.underlying9
  go_simp
set_option maxRecDepth 100000 in
theorem texts_same {w : World} {a b : Option Addr} {n c d : Nat} {l : List Hs} (ha : StrAt w a n l) (hb : StrAt w b n l) (hn : n ≤ 1000000) :
    Calls Try.prog 13 #[.slice a n c, .slice b n d] w fun e w' => e = .returned (.bool true) ∧ Below w.heap.size w w' := by
  have H : Hid (StrAt w a n l ∧ StrAt w b n l) := ⟨ha, hb⟩
  have q0 : (n : Int) ≤ 1000000 := by omega
  clear ha hb hn
  go_enter Try.func13, Try.ntmps13
  go_wp2
  go_loopw [5] (fun u wr => ∃ i : Nat, u = .int .i64 (i : Int) ∧ Hid (i ≤ n ∧ Below w.heap.size w wr)) (fun u _ => n - (intOf u).toNat)
  case atStart => exact ⟨0, rfl, ⟨Nat.zero_le _, Below.refl _ _⟩⟩
  case round =>
    obtain ⟨i, rfl, HB⟩ := hrel
    by_cases hi : i = n
    · have q1 : ¬ (i : Int) < (n : Int) := by omega
      clear hi
      go_wp2
      go_ret
      exact ⟨rfl, HB.out.2⟩
    · have q1 : (i : Int) < (n : Int) := by have := HB.out.1; omega
      have HI : Hid (i < n) := by show _ < _; have := HB.out.1; omega
      obtain ⟨g, rfl, hg, hc⟩ := H.out.1.2 (by have := HI.out; omega)
      obtain ⟨g2, rfl, hg2, hc2⟩ := H.out.2.2 (by have := HI.out; omega)
      obtain ⟨x, hx⟩ : ∃ x, l[i]? = some x := ⟨_, List.getElem?_eq_getElem (by rw [H.out.1.1]; exact HI.out)⟩
      have k1 := (HB.out.2.cell (p := ⟨g, i, none⟩) hg).trans (hc i x hx)
      have k2 := (HB.out.2.cell (p := ⟨g2, i, none⟩) hg2).trans (hc2 i x hx)
      obtain ⟨s, hs⟩ : ∃ s, hv x = .string s := ⟨_, rfl⟩
      rw [hs] at k1 k2
      have HK : Hid (wr.cell? ⟨g, i, none⟩ = some (.string s) ∧ wr.cell? ⟨g2, i, none⟩ = some (.string s) ∧ g < wr.heap.size ∧ g2 < wr.heap.size) := ⟨k1, k2, Nat.lt_of_lt_of_le hg HB.out.2.size, Nat.lt_of_lt_of_le hg2 HB.out.2.size⟩
      clear hi hg hc hg2 hc2 hx hs k1 k2
      go_wp2_with fail
      refine texts_region q1 HK ?_
      go_wp2
      go_roundw
      case rel => exact ⟨i + 1, by simp, ⟨HI.out, HB.out.2.trans (below_drew wr)⟩⟩
      case measure => have := HI.out; simp [intOf]; omega
#print axioms texts_same
set_option maxRecDepth 100000 in
theorem same_same {w : World} {a b : Option Addr} {n c d : Nat} {l : List Hs} (ha : StrAt w a n l) (hb : StrAt w b n l) (hn : n ≤ 1000000) (u : Hs) (r : Int) :
    Calls Try.prog 20 #[.agg #[hv u, .slice a n c, .int .i64 r], .agg #[hv u, .slice b n d, .int .i64 r]] w fun e w' => e = .returned (.bool true) ∧ Below w.heap.size w w' := by
  obtain ⟨s, hs⟩ : ∃ s, hv u = .string s := ⟨_, rfl⟩
  rw [hs]
  obtain ⟨W, hW⟩ : ∃ W, (w.alloc (.cells #[.string s, .slice a n c, .int .i64 r] 42)).alloc (.cells #[.string s, .slice b n d, .int .i64 r] 42) = W := ⟨_, rfl⟩
  have hb2 : Below w.heap.size w W := by rw [← hW]; exact ((Below.refl _ w).alloc (Nat.le_refl _) _).alloc (by simp) _
  have H : Hid (StrAt W a n l ∧ StrAt W b n l ∧ Below w.heap.size w W ∧ n ≤ 1000000) := ⟨ha.below hb2, hb.below hb2, hb2, hn⟩
  have HW : Hid ((w.alloc (.cells #[.string s, .slice a n c, .int .i64 r] 42)).alloc (.cells #[.string s, .slice b n d, .int .i64 r] 42) = W) := hW
  have hq := eql9 s
  clear ha hb hn hs hb2 hW
  go_enter Try.func20, Try.ntmps20
  go_wp2_with fail
  rw [HW.out]
  refine (texts_same H.out.1 H.out.2.1 H.out.2.2.2).mono ?_
  rintro e w2 ⟨rfl, h2⟩
  have H2 : Hid (Below w.heap.size w w2) := H.out.2.2.1.trans (h2.mono H.out.2.2.1.size)
  clear h2
  go_wp2
  go_ret
  exact ⟨rfl, H2.out⟩
#print axioms same_same
def Pm0 (b : Nat) : Pm := { ub := b, ob := b + 1, users := [], orgs := [] }
theorem built51 (x y : Nat) (W : World) : (Instr.build 51 #[(0, .map (some x)), (1, .map (some y))]).run Try.prog W = .ok (.agg #[.map (some x), .map (some y)]) W := by kernel_rfl
set_option maxRecDepth 100000 in
theorem new_is (w : World) : Calls Try.prog 10 #[] w fun e w' => e = .returned (.pointer (some ⟨w.heap.size + 1 + 1, 0, none⟩)) ∧ PAt w' (w.heap.size + 1 + 1) (Pm0 w.heap.size) ∧ Below w.heap.size w w' := by
  have hmm := @run_makeMap Try.prog
  have hbd := built51
  go_enter Try.func10, Try.ntmps10
  go_wp2
  go_ret
  refine ⟨rfl, ⟨⟨fun x hx => ?_, ?_⟩, by simp [Pm0], by simp [Pm0], fun o ho => by simp [Pm0] at ho⟩, ((((Below.refl _ w).alloc (Nat.le_refl _) _).alloc (by simp) _).alloc (by simp; omega) _)⟩
  · simp only [Pm0, Pm.hp, List.flatMap_nil, List.mem_cons, List.not_mem_nil, or_false] at hx
    rcases hx with rfl | rfl | rfl
    · have := Blk.new ((w.alloc (.map #[] 0)).alloc (.map #[] 0)) #[.map (some w.heap.size), .map (some (w.heap.size + 1))] 51
      rw [World.size_alloc, World.size_alloc] at this
      exact this
    · exact ((MP.made w).same (Below.heap_alloc _ _ _ (by simp))).same (Below.heap_alloc _ _ _ (by simp; omega))
    · have := (MP.made (w.alloc (.map #[] 0))).same (Below.heap_alloc _ (.cells #[.map (some w.heap.size), .map (some (w.heap.size + 1))] 51) _ (by simp))
      rw [World.size_alloc] at this
      exact this
  · simp only [Pm0, Pm.hp, List.flatMap_nil, List.map_cons, List.map_nil]
    simp
    omega
#print axioms new_is
end Go.Proofs.Ytfickhhfhdhcbaa.Oct
