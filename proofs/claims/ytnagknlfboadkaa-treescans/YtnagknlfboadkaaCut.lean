/-
  Layer 7 (tree): lists with others in a part's place; a node cut in two where it is too great.
-/
import Derived.Test.YtnagknlfboadkaaLies
import Derived.Test.YtnagknlfboadkaaSpl
import Derived.Test.YtnagknlfboadkaaPut
namespace Go.Proofs.Ytnagknlfboadkaa.Oct
open Go.RowKit

def kp (b : Nat) : Value := .pointer (some ⟨b, 0, none⟩)
theorem RdP.toRd {w : World} {a : Option Addr} {n : Nat} {ps : List Pr} (h : RdP w a n ps) : Rd w 40 2 a n (ps.flatMap pc) := by
  refine ⟨by rw [flat_len, h.1], flat_one ps, fun hp => ?_⟩
  obtain ⟨g, off, rfl, h1, _⟩ := h.2 hp
  exact ⟨g, off, rfl, h1, h.cells⟩
theorem Rd.toP {w : World} {a : Option Addr} {n : Nat} {ps : List Pr} (h : Rd w 40 2 a n (ps.flatMap pc)) : RdP w a n ps := by
  have hl : ps.length = n := by have := h.1; rw [flat_len] at this; omega
  by_cases hp : 0 < n
  · obtain ⟨g, off, rfl, h1, h2⟩ := h.2.2 hp
    have := rd_of_cells (ps := ps) (g := g) (off := off) (fun _ => h1) h2
    rw [hl] at this
    exact this
  · exact ⟨hl, fun h => absurd h hp⟩
theorem RdK.toRd {w : World} {a : Option Addr} {n : Nat} {bs : List Nat} (h : RdK w a n bs) : Rd w 46 1 a n (bs.map kp) := by
  refine ⟨by simp [h.1], by intro u hu; obtain ⟨b, _, rfl⟩ := List.mem_map.1 hu; rfl, fun hp => ?_⟩
  obtain ⟨g, off, rfl, h1, h2⟩ := h.2 hp
  refine ⟨g, off, rfl, h1, fun j u hu => ?_⟩
  rw [List.getElem?_map] at hu
  obtain ⟨b, hb, rfl⟩ := Option.map_eq_some_iff.1 hu
  exact h2 j b hb
theorem Rd.toK {w : World} {a : Option Addr} {n : Nat} {bs : List Nat} (h : Rd w 46 1 a n (bs.map kp)) : RdK w a n bs := by
  refine ⟨by simpa using h.1, fun hp => ?_⟩
  obtain ⟨g, off, rfl, h1, h2⟩ := h.2.2 hp
  exact ⟨g, off, rfl, h1, fun i b hb => h2 i _ (by rw [List.getElem?_map, hb]; rfl)⟩
theorem flat_take (ps : List Pr) (i : Nat) : (ps.flatMap pc).take (i * 2) = (ps.take i).flatMap pc := by
  induction ps generalizing i with
  | nil => simp
  | cons x r ih =>
    cases i with
    | zero => simp
    | succ i => rw [show (i + 1) * 2 = i * 2 + 2 by omega]; simp [pc]; exact ih i
theorem flat_drop (ps : List Pr) (i : Nat) : (ps.flatMap pc).drop (i * 2) = (ps.drop i).flatMap pc := by
  induction ps generalizing i with
  | nil => simp
  | cons x r ih =>
    cases i with
    | zero => simp
    | succ i => rw [show (i + 1) * 2 = i * 2 + 2 by omega]; simp [pc]; exact ih i
def SpP (w : World) (i j n q : Nat) (ps qs : List Pr) (e : Ending) (w' : World) : Prop := ∃ (a' : Option Addr) (n' cap' : Nat) (ps' : List Pr), e = .returned (.slice a' n' cap') ∧ Hid (ps' = ps.take i ++ qs ++ ps.drop j ∧ n' = i + q + (n - j)) ∧ Hid (RdP w' a' n' ps' ∧ Cap a' n' cap') ∧ Hid (Below w.heap.size w w')
theorem spP (w : World) (a : Option Addr) (n cap i j : Nat) (I J : Int) (hI : I = (i : Int)) (hJ : J = (j : Int)) (ps : List Pr) (o : Option Addr) (q c : Nat) (qs : List Pr) (h : RdP w a n ps) (hc : Cap a n cap) (hij : i ≤ j) (hjn : j ≤ n) (ho : RdP w o q qs) (hb : n + q ≤ 1000000) :
    Calls Try.prog 40 #[.slice a n cap, .int .i64 I, .int .i64 J, .slice o q c] w (SpP w i j n q ps qs) := by
  refine (splP w a n cap i j I J hI hJ _ o q c _ h.toRd hc.2 hc.1 hij hjn ho.toRd hb).mono ?_
  rintro e w' ⟨a', n', cap', cs', rfl, h1, h2, h3⟩
  refine ⟨a', n', cap', _, rfl, ⟨rfl, h1.out.2.1⟩, ⟨?_, h1.out.2.2.1, h1.out.2.2.2⟩, h3⟩
  have e := h2.out
  rw [h1.out.1, flat_take, flat_drop, ← List.flatMap_append, ← List.flatMap_append] at e
  exact e.toP
def SpK (w : World) (i j n q : Nat) (bs qs : List Nat) (e : Ending) (w' : World) : Prop := ∃ (a' : Option Addr) (n' cap' : Nat) (bs' : List Nat), e = .returned (.slice a' n' cap') ∧ Hid (bs' = bs.take i ++ qs ++ bs.drop j ∧ n' = i + q + (n - j)) ∧ Hid (RdK w' a' n' bs' ∧ Cap a' n' cap') ∧ Hid (Below w.heap.size w w')
theorem spK (w : World) (a : Option Addr) (n cap i j : Nat) (I J : Int) (hI : I = (i : Int)) (hJ : J = (j : Int)) (bs : List Nat) (o : Option Addr) (q c : Nat) (qs : List Nat) (h : RdK w a n bs) (hc : Cap a n cap) (hij : i ≤ j) (hjn : j ≤ n) (ho : RdK w o q qs) (hb : n + q ≤ 1000000) :
    Calls Try.prog 45 #[.slice a n cap, .int .i64 I, .int .i64 J, .slice o q c] w (SpK w i j n q bs qs) := by
  refine (splK w a n cap i j I J hI hJ _ o q c _ h.toRd hc.2 hc.1 hij hjn ho.toRd hb).mono ?_
  rintro e w' ⟨a', n', cap', cs', rfl, h1, h2, h3⟩
  refine ⟨a', n', cap', _, rfl, ⟨rfl, h1.out.2.1⟩, ⟨?_, h1.out.2.2.1, h1.out.2.2.2⟩, h3⟩
  have e := h2.out
  rw [h1.out.1, Nat.mul_one, Nat.mul_one, ← List.map_take, ← List.map_drop, ← List.map_append, ← List.map_append] at e
  exact e.toK
#print axioms spK
/-- what stands where one node stood -/
inductive Half (d : Nat) where
  | one (t : T d)
  | two (l : T d) (m : Pr) (r : T d)
def Half.list {d : Nat} : Half d → List Pr
  | .one t => tl d t
  | .two l m r => tl d l ++ m :: tl d r
def two (b : Nat) (m : Pr) (b2 : Nat) : Value := .agg #[.pointer (some ⟨b, 0, none⟩), .string m.1, .string m.2, .pointer (some ⟨b2, 0, none⟩)]
def Half.lies {d : Nat} (w : World) (v : Value) : Half d → Prop
  | .one t => ∃ b, v = Oct.one b ∧ Lies w d t b
  | .two l m r => ∃ b b2, v = Oct.two b m b2 ∧ Lies w d l b ∧ Lies w d r b2
theorem Half.lies.below {w w' : World} {d : Nat} {v : Value} {H : Half d} (h : H.lies w v) (hb : Below w.heap.size w w') : H.lies w' v := by
  cases H with
  | one t => obtain ⟨b, h1, h2⟩ := h; exact ⟨b, h1, h2.below hb (Nat.le_refl _)⟩
  | two l m r => obtain ⟨b, b2, h1, h2, h3⟩ := h; exact ⟨b, b2, h1, h2.below hb (Nat.le_refl _), h3.below hb (Nat.le_refl _)⟩

theorem partP_is (w : World) (g off n cap i j : Nat) (I J : Int) (hI : I = (i : Int)) (hJ : J = (j : Int)) (h1 : i < j) (h2 : j ≤ cap) : Calls Try.prog 48 #[.slice (some ⟨g, off, none⟩) n cap, .int .i64 I, .int .i64 J] w fun e w' => e = .returned (.slice (some ⟨g, off + i * 2, none⟩) (j - i) (j - i)) ∧ w = w' := by
  subst hI; subst hJ
  have q1 : (0 : Int) ≤ (i : Int) := by omega
  have q2 : (i : Int) ≤ (j : Int) := by omega
  have q3 : (j : Int) ≤ (cap : Int) := by omega
  have q4 : ¬ j - i = 0 := by omega
  have q5 : ¬ j = i := by omega
  go_enter Try.func48, Try.ntmps48
  go_wp2
  go_ret
  exact ⟨rfl, rfl⟩
theorem partK_is (w : World) (g off n cap i j : Nat) (I J : Int) (hI : I = (i : Int)) (hJ : J = (j : Int)) (h1 : i < j) (h2 : j ≤ cap) : Calls Try.prog 50 #[.slice (some ⟨g, off, none⟩) n cap, .int .i64 I, .int .i64 J] w fun e w' => e = .returned (.slice (some ⟨g, off + i, none⟩) (j - i) (j - i)) ∧ w = w' := by
  subst hI; subst hJ
  have q1 : (0 : Int) ≤ (i : Int) := by omega
  have q2 : (i : Int) ≤ (j : Int) := by omega
  have q3 : (j : Int) ≤ (cap : Int) := by omega
  have q4 : ¬ j - i = 0 := by omega
  have q5 : ¬ j = i := by omega
  go_enter Try.func50, Try.ntmps50
  go_wp2
  go_ret
  exact ⟨rfl, rfl⟩
end Go.Proofs.Ytnagknlfboadkaa.Oct
