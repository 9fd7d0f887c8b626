/-
  Layer 5 (disk): do: Read.
-/
import Derived.Test.YtmhdldhplhffcaaDo2
import Derived.Laws.IdiomCopy
namespace Go.Proofs.Ytmhdldhplhffcaa.Oct
open Go.RowKit Go.Lib

/-- bytes that may be written -/
def WB (w : World) (g L : Nat) : Prop := ∀ k, k < L → (∃ z : Int, w.cell? ⟨g, k, none⟩ = some (.int .u8 z)) ∧ w.frozen? ⟨g, k, none⟩ = false
theorem setCell_one (w : World) (b k : Nat) (v : Value) : w.setCell ⟨b, k, none⟩ v = w.setCells b k [v] := rfl
theorem WB.set {w : World} {g L k : Nat} (h : WB w g L) (hk : k < L) (z : Int) : WB (w.setCell ⟨g, k, none⟩ (.int .u8 z)) g L := by
  intro j hj
  rw [setCell_one, World.frozen?_setCells]
  refine ⟨?_, (h j hj).2⟩
  by_cases e : j = k
  · subst e
    obtain ⟨y, hy⟩ := (h j hj).1
    refine ⟨z, ?_⟩
    have := World.cell?_setCells_in g [.int .u8 z] j w (fun i hi => by simp at hi; subst hi; simp [hy]) 0 (by simp)
    simpa using this
  · rw [World.cell?_setCells_out g _ k w ⟨g, j, none⟩ (fun _ _ => by simp; omega)]
    exact (h j hj).1
theorem WB.keep {w w' : World} {g L : Nat} (h : WB w g L) (hb : w'.heap[g]? = w.heap[g]?) : WB w' g L := by
  intro k hk
  obtain ⟨⟨z, hz⟩, hf⟩ := h k hk
  exact ⟨⟨z, by rw [← hz]; simp only [World.cell?, hb]⟩, by rw [← hf]; exact World.frozen?_of_block hb⟩
theorem WB.blk {w : World} {g : Nat} {t : TypeId} {l : List UInt8} (h : Blk w g t (U l)) : WB w g l.length := by
  intro k hk
  exact ⟨⟨_, h.cell (U_get l k hk)⟩, h.free k⟩

set_option maxRecDepth 100000 in
set_option maxHeartbeats 1000000 in
theorem do_read {w : World} {S R : Nat → Prop} {d r : Nat} {D : Disk} (h : Both w S R d r D D) (hn : D.ops < 1000000000) (K N : Int) (h0 : K ≠ 0) (h1 : K ≠ 1) (h2 : K ≠ 2) (h3 : K ≠ 3) (A : Option Addr) (L C : Nat) (sh : Bool) (KA : Option Addr) (KL KC : Nat) :
    Calls Try.prog 12 #[.pointer (some ⟨d, 0, none⟩), .pointer (some ⟨r, 0, none⟩), .agg #[.int .i64 K, .int .i64 N, .slice A L C, .bool sh, .slice KA KL KC]] w fun e w' => e = .returned (.bool true) ∧ BAfter w S R d r D D w' := by
  obtain ⟨W, hW⟩ : ∃ W, w.alloc (.cells #[.int .i64 K, .int .i64 N, .slice A L C, .bool sh, .slice KA KL KC] 33) = W := ⟨_, rfl⟩
  have hb : Below w.heap.size w W := by rw [← hW]; exact (Below.refl _ w).alloc (Nat.le_refl _) _
  have H0 : Hid (Both W S R d r D D ∧ Below w.heap.size w W ∧ Both w S R d r D D) := ⟨h.below hb, hb, h⟩
  have HX : Hid (Blk W w.heap.size 33 [.int .i64 K, .int .i64 N, .slice A L C, .bool sh, .slice KA KL KC]) := by
    show Blk _ _ _ _
    rw [← hW]
    simpa using Blk.new w #[.int .i64 K, .int .i64 N, .slice A L C, .bool sh, .slice KA KL KC] 33
  have HW : Hid (w.alloc (.cells #[.int .i64 K, .int .i64 N, .slice A L C, .bool sh, .slice KA KL KC] 33) = W) := hW
  have HN : Hid (D.ops < 1000000000) := hn
  have q0 : (K == 0) = false := by simpa using h0
  have q1 : (K == 1) = false := by simpa using h1
  have q2 : (K == 2) = false := by simpa using h2
  have q3 : (K == 3) = false := by simpa using h3
  clear h hb hn h0 h1 h2 h3 hW
  by_cases hok : D.down = false ∧ 0 ≤ N ∧ N < D.n
  · obtain ⟨i, rfl⟩ : ∃ i : Nat, N = (i : Int) := ⟨N.toNat, by omega⟩
    obtain ⟨l, hl⟩ : ∃ l, settled D.sure D.pend i = l := ⟨_, rfl⟩
    have HL : Hid (settled D.sure D.pend i = l ∧ l.length = 256 ∧ D.read (i : Int) = (l, 0)) := by
      refine ⟨hl, ?_, ?_⟩
      · rw [← hl]; exact settled_length (fun x hx => (H0.out.1.dk.good.2.2.2.1 x hx).2) H0.out.1.dk.good.2.2.1 i
      · unfold Disk.read
        rw [hok.1]
        simp only [Bool.false_eq_true, if_false]
        rw [if_neg (by simpa using hok.2), show ((i : Int).toNat) = i by omega, hl]
    have HOK : Hid (D.down = false ∧ i < D.n) := ⟨hok.1, by omega⟩
    clear hok hl
    go_enter Try.func12, Try.ntmps12
    go_wp2_with fail
    rw [HW.out]
    refine (read_dk H0.out.1.dk (by have := HN.out; omega) HOK.out.1 i HOK.out.2).mono ?_
    rintro e w1 ⟨rfl, hw1⟩
    rw [HL.out.1] at hw1
    have H1 : Hid (Below W.heap.size W w1 ∧ Blk w1 W.heap.size 72 (U l)) := by
      rw [hw1]
      exact ⟨(Below.refl _ W).alloc (Nat.le_refl _) _, by simpa using Blk.new W (U l).toArray 72⟩
    have c1 : w1.cell? ⟨w.heap.size, 1, none⟩ = some (.int .i64 (i : Int)) := (HX.out.below H1.out.1 HX.out.lt).cell rfl
    obtain ⟨gb, hgb⟩ : ∃ gb, W.heap.size = gb := ⟨_, rfl⟩
    have HGB : Hid (W.heap.size = gb) := hgb
    rw [hgb] at H1 ⊢
    clear hw1 hgb
    go_wp2_with fail
    refine (rread_dk (H0.out.1.rk.below (by rw [HGB.out]; exact H1.out.1)) HN.out (i : Int)).mono ?_
    rintro e w2 ⟨rfl, rfl⟩
    rw [HL.out.2.2]
    dsimp only
    clear c1
    have hconv := conv_sec HL.out.2.1 H1.out.2
    obtain ⟨T, hT⟩ : ∃ T, strOf l = T := ⟨_, rfl⟩
    rw [hT] at hconv ⊢
    go_wp2
    go_loopw [121] (fun u wr => ∃ k : Nat, u = .int .i64 (k : Int) ∧ Hid (k ≤ 256 ∧ Keep (fun q => q = gb) w1 wr ∧ WB wr gb 256)) (fun u _ => 256 - (intOf u).toNat)
    case atStart => exact ⟨0, rfl, ⟨Nat.zero_le _, Keep.refl _ _, by have := WB.blk H1.out.2; rw [HL.out.2.1] at this; exact this⟩⟩
    case round =>
      obtain ⟨k, rfl, HK⟩ := hrel
      by_cases hk : k < 256
      · have q4 : (k : Int) < 256 := by omega
        have HKK : Hid (k < 256) := hk
        obtain ⟨⟨z, c2⟩, f2⟩ := HK.out.2.2 k hk
        have HN2 : Hid (∀ z', Keep (fun q => q = gb) w1 (wr.setCell ⟨gb, k, none⟩ (.int .u8 z')) ∧ WB (wr.setCell ⟨gb, k, none⟩ (.int .u8 z')) gb 256) := fun z' => ⟨HK.out.2.1.trans (Keep.grown (S := fun q => q = gb) (grown_setCell wr gb k _) rfl) (fun j hj _ => hj), HK.out.2.2.set HKK.out z'⟩
        clear hk hconv
        go_wp2
        refine ⟨⟨k + 1, by simp, ⟨HKK.out, HN2.out _⟩⟩, ?_⟩
        have := HKK.out; simp [intOf]; omega
      · have q4 : ¬ (k : Int) < 256 := by omega
        have HF : Hid (BAfter w S R d r D D wr) := by
          have h1 : Below W.heap.size W wr := by
            have h2 := HK.out.2.1.toBelow (B := gb) (by have := H1.out.2.lt; omega) (fun j hj => by omega)
            rw [HGB.out]
            exact H1.out.1.trans h2
          exact BAfter.same H0.out.2.2 (H0.out.2.1.trans (h1.mono H0.out.2.1.size))
        clear hk hconv
        go_wp2
        go_ret
        exact ⟨rfl, HF.out⟩
  · have HB : Hid (D.down = true ∨ ¬ (0 ≤ N ∧ N < D.n)) := by
      by_cases hd : D.down = true
      · exact .inl hd
      · exact .inr (fun h => hok ⟨by simpa using hd, h⟩)
    have HL : Hid ((D.read N).1 = []) := by
      show (D.read N).1 = []
      unfold Disk.read
      rcases HB.out with h | h
      · rw [h]; rfl
      · by_cases hd : D.down = true
        · rw [hd]; rfl
        · rw [show D.down = false by simpa using hd]
          simp only [Bool.false_eq_true, if_false]
          rw [if_pos h]
    obtain ⟨er, her⟩ : ∃ er, (D.read N).2 = er := ⟨_, rfl⟩
    have HE : Hid ((D.read N).2 = er) := her
    clear hok her
    go_enter Try.func12, Try.ntmps12
    go_wp2_with fail
    rw [HW.out]
    refine (readbad_dk H0.out.1.dk N HB.out).mono ?_
    rintro e w1 ⟨rfl, rfl⟩
    rw [HE.out]
    have c1 : w1.cell? ⟨w.heap.size, 1, none⟩ = some (.int .i64 N) := HX.out.cell rfl
    go_wp2_with fail
    refine (rread_dk H0.out.1.rk HN.out N).mono ?_
    rintro e w2 ⟨rfl, rfl⟩
    rw [HE.out, HL.out, show strOf [] = (⟨#[]⟩ : ByteArray) from rfl]
    have HF : Hid (BAfter w S R d r D D w1) := BAfter.same H0.out.2.2 H0.out.2.1
    have hconv : (convert 30 9 (.slice none 0 0)).run Try.prog w1 = .ok (.string ⟨#[]⟩) w1 := string_in Try.underlying30 Try.underlying5 Try.underlying9 (In.nil w1)
    go_wp2
    go_loopw [121] (fun u wr => u = .int .i64 0 ∧ Hid (w1 = wr)) (fun _ _ => 0)
    case atStart => exact ⟨rfl, rfl⟩
    case round =>
      obtain ⟨rfl, HEQ⟩ := hrel
      have HF2 : Hid (BAfter w S R d r D D wr) := by have := HF.out; rw [HEQ.out] at this; exact this
      clear hconv
      go_wp2
      go_ret
      exact ⟨rfl, HF2.out⟩
#print axioms do_read
end Go.Proofs.Ytmhdldhplhffcaa.Oct
