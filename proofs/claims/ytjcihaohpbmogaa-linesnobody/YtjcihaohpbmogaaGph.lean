/-
  Layer 11 (lines): rows of vertices; a graph in memory.
-/
import Derived.Test.YtjcihaohpbmogaaMem
namespace Go.Proofs.Ytjcihaohpbmogaa.Oct
open Go.RowKit
set_option maxRecDepth 100000
set_option linter.unusedSimpArgs false
set_option linter.unusedVariables false
set_option linter.unusedSectionVars false

/-- a list of vertices that can be read -/
def VsR (w : World) (a : Option Addr) (n : Nat) (vs : List Vx) : Prop :=
  vs.length = n ∧ (∀ v ∈ vs, Vk v) ∧ (0 < n → ∃ g off, a = some ⟨g, off, none⟩ ∧ g < w.heap.size ∧ ∀ i v, vs[i]? = some v → w.rangeAt g (off + i * 33) v.cells)
theorem VsR.same {w w' : World} {a : Option Addr} {n : Nat} {vs : List Vx} (h : VsR w a n vs) (hsz : w.heap.size ≤ w'.heap.size) (hk : ∀ g off, a = some ⟨g, off, none⟩ → w'.heap[g]? = w.heap[g]?) : VsR w' a n vs := by
  refine ⟨h.1, h.2.1, fun hp => ?_⟩
  obtain ⟨g, off, e, h1, h2⟩ := h.2.2 hp
  exact ⟨g, off, e, by omega, fun i x hx => rangeAt_same (h2 i x hx) (hk g off e)⟩
theorem VsR.below {w w' : World} {a : Option Addr} {n : Nat} {vs : List Vx} (h : VsR w a n vs) (hb : Below w.heap.size w w') : VsR w' a n vs := by
  refine ⟨h.1, h.2.1, fun hp => ?_⟩
  obtain ⟨g, off, e, h1, h2⟩ := h.2.2 hp
  exact ⟨g, off, e, Nat.lt_of_lt_of_le h1 hb.size, fun i x hx => rangeAt_same (h2 i x hx) (hb.block g h1)⟩
theorem VsR.nil (w : World) (a : Option Addr) : VsR w a 0 [] := ⟨rfl, by simp, fun h => absurd h (by omega)⟩
theorem VsR.keep {S : Nat → Prop} {w w' : World} {a : Option Addr} {n : Nat} {vs : List Vx} (h : VsR w a n vs) (hk : Keep S w w') (hS : ∀ g off, a = some ⟨g, off, none⟩ → ¬ S g) : VsR w' a n vs := by
  refine ⟨h.1, h.2.1, fun hp => ?_⟩
  obtain ⟨g, off, e, h1, h2⟩ := h.2.2 hp
  exact ⟨g, off, e, Nat.lt_of_lt_of_le h1 hk.size, fun i x hx => rangeAt_same (h2 i x hx) (hk.block g h1 (hS g off e))⟩
/-- the cells of vertices, one behind the other -/
def FV (l : List Vx) : List Value := l.flatMap Vx.cells
theorem FV_len : ∀ (l : List Vx), (∀ v ∈ l, Vk v) → (FV l).length = l.length * 33
  | [], _ => rfl
  | v :: l, h => by
    have ih := FV_len l (fun x hx => h x (by simp [hx]))
    have h1 := Vx.len (h v (by simp)).1
    show (v.cells ++ FV l).length = _
    rw [List.length_append, h1, ih, List.length_cons]
    omega
theorem FV_one (l : List Vx) : ∀ x ∈ FV l, x.oneCell' = true := by
  intro x hx
  obtain ⟨v, _, h⟩ := List.mem_flatMap.1 hx
  exact Vx.one v x h
theorem FV_append (a b : List Vx) : FV (a ++ b) = FV a ++ FV b := List.flatMap_append
theorem FV_at : ∀ (l : List Vx), (∀ v ∈ l, Vk v) → ∀ (i : Nat) (v : Vx), l[i]? = some v → ∀ j x, v.cells[j]? = some x → (FV l)[i * 33 + j]? = some x
  | [], _, i, v, hi, _, _, _ => by simp at hi
  | y :: l, h, i, v, hi, j, x, hx => by
    have h1 := Vx.len (h y (by simp)).1
    show (y.cells ++ FV l)[i * 33 + j]? = _
    cases i with
    | zero =>
      simp at hi
      subst hi
      have := (List.getElem?_eq_some_iff.1 hx).1
      rw [Nat.zero_mul, Nat.zero_add, List.getElem?_append_left this]
      exact hx
    | succ i =>
      rw [List.getElem?_append_right (by rw [h1]; omega), h1, show (i + 1) * 33 + j - 33 = i * 33 + j by omega]
      exact FV_at l (fun z hz => h z (by simp [hz])) i v (by simpa using hi) j x hx
/-- a row of a block of vertices is read -/
theorem Blk.vs {w : World} {g : Nat} {vs : List Vx} {rest : List Value} (h : Blk w g 34 (FV vs ++ rest)) (hv : ∀ v ∈ vs, Vk v) : VsR w (some ⟨g, 0, none⟩) vs.length vs := by
  refine ⟨rfl, hv, fun _ => ⟨g, 0, rfl, h.lt, fun i v hi j x hx => ?_⟩⟩
  rw [Nat.zero_add]
  refine h.cell ?_
  have := FV_at vs hv i v hi j x hx
  rw [List.getElem?_append_left (List.getElem?_eq_some_iff.1 this).1]
  exact this
/-- what a line has -/
structure PL where
  v : Vx
  t : BA
  fr : List Vx
  down : Vx
  kills : List Hs
/-- and where it lies -/
structure Ln where
  p : PL
  blk : Nat
  rb : Nat
  cap : Nat
  rest : List Value
  kb : Option Nat
def Ln.cells (l : Ln) : List Value := .string l.p.t :: .slice (some ⟨l.rb, 0, none⟩) l.p.fr.length l.cap :: (l.p.down.cells ++ [.map l.kb])
def unitH (l : List Hs) : Kv Hs := l.map fun h => (h, .agg #[])
def killHp (k : Option Nat) (l : List Hs) : Hp := match k with
  | none => []
  | some k => [(k, .kh (unitH l))]
def Ln.hp (l : Ln) : Hp := (l.blk, .cells 86 l.cells) :: (l.rb, .cells 34 (FV l.p.fr ++ l.rest)) :: killHp l.kb l.p.kills
structure Gm where
  mb : Nat
  ls : List Ln
def linesKv (ls : List Ln) : Kv Vx := ls.map fun l => (l.p.v, .pointer (some ⟨l.blk, 0, none⟩))
def Gm.hp (G : Gm) (p : Nat) : Hp := (p, .cells 67 [.map (some G.mb)]) :: (G.mb, .kv (linesKv G.ls)) :: G.ls.flatMap Ln.hp
def Gm.bl (G : Gm) (p : Nat) : List Nat := (G.hp p).map (·.1)
def Gm.ps (G : Gm) : List PL := G.ls.map (·.p)
def Gm.keys (G : Gm) : List Vx := G.ls.map (·.p.v)
structure LnOk (l : Ln) : Prop where
  v : Vk l.p.v
  fr : ∀ u ∈ l.p.fr, Vk u
  down : Vk l.p.down
  ne : l.p.fr ≠ []
  row : (FV l.p.fr ++ l.rest).length = l.cap * 33
  cap : l.p.fr.length ≤ l.cap
  big : l.cap ≤ maxLen
  len : l.p.fr.length ≤ 100000
  no : l.kb = none → l.p.kills = []
/-- a graph stands at block p -/
structure GAt (w : World) (p : Nat) (G : Gm) : Prop where
  hp : (G.hp p).at w
  ok : ∀ l ∈ G.ls, LnOk l
  few : G.ls.length ≤ 512
/-- what a call leaves -/
def GAfter (w : World) (p : Nat) (G G' : Gm) (w' : World) : Prop :=
  GAt w' p G' ∧ (∀ k ∈ G'.bl p, k ∈ G.bl p ∨ w.heap.size ≤ k) ∧ Keep (fun k => k ∈ G.bl p) w w'
section
variable {w w' : World} {p : Nat} {G : Gm}
theorem GAt.blk (h : GAt w p G) : Blk w p 67 [.map (some G.mb)] := h.hp.all (p, .cells 67 _) (by simp [Gm.hp])
theorem GAt.mp (h : GAt w p G) : MP w G.mb (linesKv G.ls) := h.hp.all (G.mb, .kv _) (by simp [Gm.hp])
theorem GAt.ln (h : GAt w p G) {l : Ln} (hl : l ∈ G.ls) : Blk w l.blk 86 l.cells := h.hp.all (l.blk, .cells 86 _) (by
  simp only [Gm.hp, List.mem_cons, List.mem_flatMap]
  exact .inr (.inr ⟨l, hl, by simp [Ln.hp]⟩))
theorem GAt.row (h : GAt w p G) {l : Ln} (hl : l ∈ G.ls) : Blk w l.rb 34 (FV l.p.fr ++ l.rest) := h.hp.all (l.rb, .cells 34 _) (by
  simp only [Gm.hp, List.mem_cons, List.mem_flatMap]
  exact .inr (.inr ⟨l, hl, by simp [Ln.hp]⟩))
theorem GAt.kl (h : GAt w p G) {l : Ln} (hl : l ∈ G.ls) {k : Nat} (hk : l.kb = some k) : MP w k (unitH l.p.kills) := h.hp.all (k, .kh _) (by
  simp only [Gm.hp, List.mem_cons, List.mem_flatMap]
  exact .inr (.inr ⟨l, hl, by simp [Ln.hp, killHp, hk]⟩))
theorem GAt.below (h : GAt w p G) (hb : Below w.heap.size w w') : GAt w' p G := ⟨h.hp.below hb, h.ok, h.few⟩
theorem GAt.keep {S : Nat → Prop} (h : GAt w p G) (hk : Keep S w w') (hS : ∀ k ∈ G.bl p, ¬ S k) : GAt w' p G :=
  ⟨h.hp.same fun b hb => hk.block b (h.hp.lt b hb) (hS b hb), h.ok, h.few⟩
theorem GAfter.same (h : GAt w p G) (hb : Below w.heap.size w w') : GAfter w p G G w' := ⟨h.below hb, fun _ hk => .inl hk, Keep.below hb⟩
theorem GAfter.first {w1 : World} {G' : Gm} (hb : Below w.heap.size w w1) (h : GAfter w1 p G G' w') : GAfter w p G G' w' :=
  ⟨h.1, fun k hk => (h.2.1 k hk).imp id (fun e => Nat.le_trans hb.size e), (Keep.below hb).trans h.2.2 (fun _ hj _ => hj)⟩
theorem GAfter.then {w1 : World} {G' : Gm} (h : GAfter w p G G' w1) (hb : Below w1.heap.size w1 w') : GAfter w p G G' w' :=
  ⟨h.1.below hb, h.2.1, h.2.2.trans (Keep.below (S := fun k => k ∈ G.bl p) hb) (fun _ hj _ => hj)⟩
theorem GAfter.trans {w1 : World} {G1 G2 : Gm} (h : GAfter w p G G1 w1) (k : GAfter w1 p G1 G2 w') : GAfter w p G G2 w' :=
  ⟨k.1, fun j hj => by
    rcases k.2.1 j hj with e | e
    · exact h.2.1 j e
    · exact .inr (Nat.le_trans h.2.2.size e), h.2.2.trans k.2.2 (fun j hj hlt => (h.2.1 j hj).resolve_right (by omega))⟩
theorem GAt.nodup (h : GAt w p G) : G.keys.Nodup := by
  have := h.mp.nodup
  unfold linesKv at this
  rw [List.map_map] at this
  exact this
/-- a line by its vertex -/
def Gm.get (G : Gm) (v : Vx) : Option Ln := G.ls.find? (fun l => l.p.v == v)
def ptrOf (o : Option Ln) : Value := match o with
  | some l => .pointer (some ⟨l.blk, 0, none⟩)
  | none => .pointer none
theorem kget_lines (ls : List Ln) (v : Vx) : (kget (linesKv ls) v).getD (.pointer none) = ptrOf (ls.find? (fun l => l.p.v == v)) := by
  unfold kget linesKv
  rw [List.find?_map, Option.map_map]
  show (Option.map _ (List.find? (fun l : Ln => l.p.v == v) ls)).getD _ = _
  cases List.find? (fun l : Ln => l.p.v == v) ls <;> rfl
theorem get_mem {v : Vx} {l : Ln} (h : G.get v = some l) : l ∈ G.ls ∧ l.p.v = v := by
  refine ⟨List.mem_of_find?_eq_some h, ?_⟩
  have := List.find?_some h
  simpa using this
theorem get_none {v : Vx} (h : G.get v = none) : v ∉ G.keys := by
  intro hv
  obtain ⟨l, hl, rfl⟩ := List.mem_map.1 hv
  have := List.find?_eq_none.1 h l hl
  simp at this
theorem get_is (h : GAt w p G) {l : Ln} (hl : l ∈ G.ls) : G.get l.p.v = some l := by
  cases hg : G.get l.p.v with
  | none => exact absurd (List.mem_map.2 ⟨l, hl, rfl⟩) (get_none hg)
  | some x =>
    obtain ⟨h1, h2⟩ := get_mem hg
    congr 1
    have hn := h.nodup
    unfold Gm.keys at hn
    obtain ⟨i, hi, rfl⟩ := List.mem_iff_getElem.1 h1
    obtain ⟨j, hj, rfl⟩ := List.mem_iff_getElem.1 hl
    have e1 : (G.ls.map (·.p.v))[i]? = some (G.ls[i]).p.v := by rw [List.getElem?_map, List.getElem?_eq_getElem hi]; rfl
    have e2 : (G.ls.map (·.p.v))[j]? = some (G.ls[j]).p.v := by rw [List.getElem?_map, List.getElem?_eq_getElem hj]; rfl
    have := (List.getElem?_inj (by simpa using hi) hn).1 (e1.trans (by rw [h2, e2]))
    subst this; rfl
theorem get_some {v : Vx} : (G.get v).isSome = decide (v ∈ G.keys) := by
  cases hg : G.get v with
  | none => simp [get_none hg]
  | some l =>
    obtain ⟨h1, h2⟩ := get_mem hg
    have : v ∈ G.keys := List.mem_map.2 ⟨l, h1, h2⟩
    simp [this]
theorem zero71 (W : World) : (zeroValue 71).run Try.prog W = .ok (.pointer none) W := by kernel_rfl
/-- a lookup -/
theorem GAt.look (h : GAt w p G) {v : Vx} (hv : Vk v) : (Instr.lookup 65 (.map (some G.mb)) (.agg v.cells.toArray) false).run Try.prog w = .ok (ptrOf (G.get v)) w := by
  have := h.mp.look (t := 65) (E := 71) (h := v) Try.underlying65 hv (zero71 w)
  rw [kget_lines] at this
  exact this
theorem GAt.look2 (h : GAt w p G) {v : Vx} (hv : Vk v) : ∀ W : World, W.heap[G.mb]? = w.heap[G.mb]? → (Instr.lookup 65 (.map (some G.mb)) (.agg v.cells.toArray) false).run Try.prog W = .ok (ptrOf (G.get v)) W := fun W hW => by
  have := (h.mp.same hW).look (t := 65) (E := 71) (h := v) Try.underlying65 hv (zero71 W)
  rw [kget_lines] at this
  exact this
end
#print axioms GAt.look
#print axioms get_is
end Go.Proofs.Ytjcihaohpbmogaa.Oct
