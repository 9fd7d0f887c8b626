/-
  Layer 5 (disk): three disks side by side, and lists that stand beside them.
-/
import Derived.Test.YtmhdldhplhffcaaAllPure
namespace Go.Proofs.Ytmhdldhplhffcaa.Oct
open Go.RowKit Go.Maps Go.Lib

/-- sectors that were told, all in blocks of Q -/
def SVQ (w : World) (Q : Nat → Prop) (v : Value) (ls : List (List UInt8)) : Prop :=
  ∃ gs : List Nat, w.ownsRow 0 30 1 v ls.length (gs.map fun g => Value.slice (some ⟨g, 0, none⟩) 256 256) ∧ (∀ g, v.ownBlock = some g → Q g) ∧ gs.length = ls.length ∧ ∀ (i g : Nat) (l : List UInt8), gs[i]? = some g → ls[i]? = some l → Q g ∧ Blk w g 72 (U l) ∧ l.length = 256
theorem own_zero {w : World} {B : Nat} {e : TypeId} {size n : Nat} {v : Value} {xs : List Value} (h : w.ownsRow B e size v n xs) : w.ownsRow 0 e size v n xs := by
  obtain ⟨r1, r2⟩ := h
  refine ⟨r1, r2.imp id ?_⟩
  rintro ⟨g, cap, cur, e1, _, r⟩
  exact ⟨g, cap, cur, e1, Nat.zero_le _, r⟩
theorem SV.toQ {w : World} {B : Nat} {v : Value} {ls : List (List UInt8)} (h : SV w B v ls) : SVQ w (fun k => B ≤ k ∧ k < w.heap.size) v ls := by
  obtain ⟨gs, h1, h2, _, h4⟩ := h
  exact ⟨gs, own_zero h1, fun g hg => World.ownsRow.lt h1 g hg, h2, fun i g l hg hl => ⟨⟨(h4 i g l hg hl).1, (h4 i g l hg hl).2.1.lt⟩, (h4 i g l hg hl).2⟩⟩
theorem SVQ.keep {w w' : World} {Q S : Nat → Prop} {v : Value} {ls : List (List UInt8)} (h : SVQ w Q v ls) (hk : Keep S w w') (hS : ∀ k, Q k → ¬ S k) : SVQ w' Q v ls := by
  obtain ⟨gs, h1, h2, h3, h4⟩ := h
  exact ⟨gs, row_kept hk h1 (fun g hg => hS g (h2 g hg)), h2, h3, fun i g l hg hl => ⟨(h4 i g l hg hl).1, hk.blk (h4 i g l hg hl).2.1 (hS g (h4 i g l hg hl).1), (h4 i g l hg hl).2.2⟩⟩
theorem SVQ.below {w w' : World} {Q : Nat → Prop} {v : Value} {ls : List (List UInt8)} (h : SVQ w Q v ls) (hb : Below w.heap.size w w') : SVQ w' Q v ls := h.keep (Keep.below (S := fun _ => False) hb) (fun _ _ e => e)
/-- one of them, as the walks take it -/
theorem SVQ.at {w : World} {Q : Nat → Prop} {v : Value} {ls : List (List UInt8)} (h : SVQ w Q v ls) {i : Nat} {l : List UInt8} (hi : ls[i]? = some l) :
    ∃ r cap g, v = .slice (some ⟨r, 0, none⟩) ls.length cap ∧ ls.length ≤ cap ∧ ∀ W, Below w.heap.size w W → W.cell? ⟨r, i, none⟩ = some (.slice (some ⟨g, 0, none⟩) 256 256) ∧ (convert 30 9 (.slice (some ⟨g, 0, none⟩) 256 256)).run Try.prog W = .ok (.string (strOf l)) W := by
  obtain ⟨gs, h1, h2, h3, h4⟩ := h
  have hil : i < ls.length := (List.getElem?_eq_some_iff.1 hi).1
  obtain ⟨g, hg⟩ : ∃ g, gs[i]? = some g := ⟨_, List.getElem?_eq_getElem (by omega)⟩
  have hb := h4 i g l hg hi
  rcases h1.2 with ⟨_, e⟩ | ⟨r, cap, cur, e, _, hr, hc, _⟩
  · omega
  · subst e
    refine ⟨r, cap, g, rfl, hc, fun W hW => ⟨?_, conv_blk (hb.2.1.below hW hb.2.1.lt) hb.2.2⟩⟩
    have h1' := own_below h1 hW
    have := World.ownsRow.cellAt h1' i (by omega)
    rw [this, List.getElem?_map, hg]
    rfl

/-- three disks, apart from one another and from the blocks of Q -/
def Trio (w : World) (B : Nat) (Q : Nat → Prop) (d : Nat) (D : Disk) (c : Nat) (C : Disk) (e : Nat) (E : Disk) : Prop :=
  ∃ S T R, Dk w S d D ∧ Dk w T c C ∧ Dk w R e E ∧ (∀ k, S k → B ≤ k) ∧ (∀ k, T k → B ≤ k) ∧ (∀ k, R k → B ≤ k) ∧ (∀ k, S k → ¬ T k) ∧ (∀ k, S k → ¬ R k) ∧ (∀ k, T k → ¬ R k) ∧ (∀ k, Q k → ¬ S k ∧ ¬ T k ∧ ¬ R k) ∧ ∀ k, Q k → k < w.heap.size
theorem Trio.below {w w' : World} {B : Nat} {Q : Nat → Prop} {d c e : Nat} {D C E : Disk} (h : Trio w B Q d D c C e E) (hb : Below w.heap.size w w') : Trio w' B Q d D c C e E := by
  obtain ⟨S, T, R, h1, h2, h3, h4, h5, h6, h7, h8, h9, h10, h11⟩ := h
  exact ⟨S, T, R, h1.below hb, h2.below hb, h3.below hb, h4, h5, h6, h7, h8, h9, h10, fun k hk => Nat.lt_of_lt_of_le (h11 k hk) hb.size⟩
theorem Trio.rot {w : World} {B : Nat} {Q : Nat → Prop} {d c e : Nat} {D C E : Disk} (h : Trio w B Q d D c C e E) : Trio w B Q c C e E d D := by
  obtain ⟨S, T, R, h1, h2, h3, h4, h5, h6, h7, h8, h9, h10, h11⟩ := h
  exact ⟨T, R, S, h2, h3, h1, h5, h6, h4, h9, fun k hk hs => h7 k hs hk, fun k hk hs => h8 k hs hk, fun k hk => ⟨(h10 k hk).2.1, (h10 k hk).2.2, (h10 k hk).1⟩, h11⟩
theorem Trio.first {w : World} {B : Nat} {Q : Nat → Prop} {d c e : Nat} {D C E : Disk} (h : Trio w B Q d D c C e E) : DkB w B d D := by
  obtain ⟨S, T, R, h1, h2, h3, h4, _⟩ := h
  exact ⟨S, h1, h4⟩
theorem Trio.call {w : World} {B : Nat} {Q : Nat → Prop} {d c e : Nat} {D C E D' : Disk} (h : Trio w B Q d D c C e E) (hB : B ≤ w.heap.size) {f : Nat} {args : Array Value} {e0 : Ending} (hc : ∀ S, Dk w S d D → Calls Try.prog f args w fun e w' => e = e0 ∧ After w S d D' w') :
    Calls Try.prog f args w fun e1 w' => e1 = e0 ∧ Trio w' B Q d D' c C e E ∧ Below B w w' ∧ (∃ S, Keep S w w' ∧ ∀ k, Q k → ¬ S k) := by
  obtain ⟨S, T, R, h1, h2, h3, h4, h5, h6, h7, h8, h9, h10, h11⟩ := h
  refine (hc S h1).mono fun e w' ⟨he, S', k1, k2, k3⟩ => ⟨he, ⟨S', T, R, k1, h2.keep k3 (fun k hk hs => h7 k hs hk), h3.keep k3 (fun k hk hs => h8 k hs hk), fun k hk => (k2 k hk).elim (h4 k) (fun e => Nat.le_trans hB e), h5, h6, fun k hk ht => ?_, fun k hk ht => ?_, h9, fun k hk => ⟨fun hs => ?_, (h10 k hk).2⟩, fun k hk => Nat.lt_of_lt_of_le (h11 k hk) k3.size⟩, k3.toBelow hB h4, S, k3, fun k hk => (h10 k hk).1⟩
  · rcases k2 k hk with h | h
    · exact h7 k h ht
    · have := h2.lt k ht; omega
  · rcases k2 k hk with h | h
    · exact h8 k h ht
    · have := h3.lt k ht; omega
  · rcases k2 k hs with h | h
    · exact (h10 k hk).1 h
    · have := h11 k hk; omega
/-- a second clone beside them -/
theorem Two.clone {w : World} {B d c : Nat} {D C : Disk} (h : Two w B d D c C) (hB : B ≤ w.heap.size) (hn : D.ops < 100000000000) :
    Calls Try.prog 9 #[.pointer (some ⟨d, 0, none⟩)] w fun e w' => e = .returned (.pointer (some ⟨w.heap.size, 0, none⟩)) ∧ Trio w' B (fun _ => False) d D c C w.heap.size D ∧ Below w.heap.size w w' := by
  obtain ⟨S, T, h1, h2, h3, h4, h5⟩ := h
  refine (clone_dk h1 hn).mono fun e w' ⟨he, hc, hb⟩ => ⟨he, ⟨S, T, _, h1.below hb, h2.below hb, hc, h3, h4, fun k hk => Nat.le_trans hB hk.1, h5, fun k hk ht => ?_, fun k hk ht => ?_, fun k hk => hk.elim, fun k hk => hk.elim⟩, hb⟩
  · have := h1.lt k hk; have := ht.1; omega
  · have := h2.lt k hk; have := ht.1; omega
/-- what was made since stands apart -/
theorem Trio.since {w w' : World} {B : Nat} {d c e : Nat} {D C E : Disk} (h : Trio w B (fun _ => False) d D c C e E) (hb : Below w.heap.size w w') : Trio w' B (fun k => w.heap.size ≤ k ∧ k < w'.heap.size) d D c C e E := by
  obtain ⟨S, T, R, h1, h2, h3, h4, h5, h6, h7, h8, h9, _⟩ := h
  refine ⟨S, T, R, h1.below hb, h2.below hb, h3.below hb, h4, h5, h6, h7, h8, h9, fun k hk => ⟨fun hs => ?_, fun hs => ?_, fun hs => ?_⟩, fun k hk => hk.2⟩
  · have := h1.lt k hs; have := hk.1; omega
  · have := h2.lt k hs; have := hk.1; omega
  · have := h3.lt k hs; have := hk.1; omega
/-- numbers of the call's own, as Restart takes them -/
def IQ (w : World) (Q : Nat → Prop) (v : Value) (l : List Int) : Prop := w.ownsRow 0 3 1 v l.length (l.map (Value.int .i64)) ∧ ∀ g, v.ownBlock = some g → Q g
theorem IQ.keep {w w' : World} {Q S : Nat → Prop} {v : Value} {l : List Int} (h : IQ w Q v l) (hk : Keep S w w') (hS : ∀ k, Q k → ¬ S k) : IQ w' Q v l := ⟨row_kept hk h.1 (fun g hg => hS g (h.2 g hg)), h.2⟩
theorem IQ.toInI {w : World} {Q : Nat → Prop} {v : Value} {l : List Int} (h : IQ w Q v l) : ∃ a c, v = .slice a l.length c ∧ InI w a l.length c l := by
  rcases h.1.2 with ⟨e, h0⟩ | ⟨g, cap, cur, e, _, hb, h1, _⟩
  · exact ⟨none, 0, by rw [e, h0], rfl, by omega, fun hp => by omega⟩
  · refine ⟨_, cap, e, rfl, h1, fun _ => ⟨g, 0, rfl, lt_of_block hb, fun i z hz => ?_⟩⟩
    have hlt := (List.getElem?_eq_some_iff.1 hz).1
    have h' := h.1
    rw [e] at h'
    have := World.ownsRow.cellAt h' i (by omega)
    rw [Nat.zero_add, this, List.getElem?_map, hz]
    rfl
/-- one disk, apart from the blocks of Q -/
def Solo (w : World) (B : Nat) (Q : Nat → Prop) (d : Nat) (D : Disk) : Prop := ∃ S, Dk w S d D ∧ (∀ k, S k → B ≤ k) ∧ (∀ k, Q k → ¬ S k) ∧ ∀ k, Q k → k < w.heap.size
theorem Solo.below {w w' : World} {B : Nat} {Q : Nat → Prop} {d : Nat} {D : Disk} (h : Solo w B Q d D) (hb : Below w.heap.size w w') : Solo w' B Q d D := by
  obtain ⟨S, h1, h2, h3, h4⟩ := h
  exact ⟨S, h1.below hb, h2, h3, fun k hk => Nat.lt_of_lt_of_le (h4 k hk) hb.size⟩
theorem Solo.toB {w : World} {B : Nat} {Q : Nat → Prop} {d : Nat} {D : Disk} (h : Solo w B Q d D) : DkB w B d D := by
  obtain ⟨S, h1, h2, h3, h4⟩ := h
  exact ⟨S, h1, h2⟩
theorem DkB.since {w w' : World} {B d : Nat} {D : Disk} (h : DkB w B d D) (hb : Below w.heap.size w w') : Solo w' B (fun k => w.heap.size ≤ k ∧ k < w'.heap.size) d D := by
  obtain ⟨S, h1, h2⟩ := h
  exact ⟨S, h1.below hb, h2, fun k hk hs => by have := h1.lt k hs; have := hk.1; omega, fun k hk => hk.2⟩
theorem Solo.call {w : World} {B : Nat} {Q : Nat → Prop} {d : Nat} {D D' : Disk} (h : Solo w B Q d D) (hB : B ≤ w.heap.size) {f : Nat} {args : Array Value} {e0 : Ending} (hc : ∀ S, Dk w S d D → Calls Try.prog f args w fun e w' => e = e0 ∧ After w S d D' w') :
    Calls Try.prog f args w fun e1 w' => e1 = e0 ∧ Solo w' B Q d D' ∧ Below B w w' ∧ (∃ S, Keep S w w' ∧ ∀ k, Q k → ¬ S k) := by
  obtain ⟨S, h1, h4, h10, h11⟩ := h
  refine (hc S h1).mono fun e w' ⟨he, S', k1, k2, k3⟩ => ⟨he, ⟨S', k1, fun k hk => (k2 k hk).elim (h4 k) (fun e => Nat.le_trans hB e), fun k hk hs => ?_, fun k hk => Nat.lt_of_lt_of_le (h11 k hk) k3.size⟩, k3.toBelow hB h4, S, k3, h10⟩
  rcases k2 k hs with h | h
  · exact h10 k hk h
  · have := h11 k hk; omega
theorem keep_cell {w w' : World} {Q : Nat → Prop} (h : ∃ S, Keep S w w' ∧ ∀ k, Q k → ¬ S k) {b i : Nat} {v : Value} (hq : Q b) (hb : b < w.heap.size) (hc : w.cell? ⟨b, i, none⟩ = some v) : w'.cell? ⟨b, i, none⟩ = some v := by
  obtain ⟨S, h1, h2⟩ := h
  rw [World.cell?_of_block (a := ⟨b, i, none⟩) (h1.block b hb (h2 b hq))]
  exact hc
#print axioms Trio.call
end Go.Proofs.Ytmhdldhplhffcaa.Oct
