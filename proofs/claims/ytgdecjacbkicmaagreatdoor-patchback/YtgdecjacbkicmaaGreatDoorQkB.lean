/-
  Layer 10 (patch): what bytes are a patch: the reading, plain; what is read has just those bytes.
  Layer 10 (patch): the reference's With; texts that rise.
  Layer 10 (patch): what bytes are a patch: whole.
-/
import Derived.Test.YtgdecjacbkicmaaGreatDoorQkUlr
import Derived.Test.YtgdecjacbkicmaaGreatDoorQkA
import Derived.Sort.Walk0
/- Layer 10 (patch): what bytes are a patch: the reading, plain; what is read has just those bytes. -/
namespace Go.Proofs.YtgdecjacbkicmaaGreatDoor.Oct
open Go.RowKit
set_option maxRecDepth 100000
set_option linter.unusedSimpArgs false
set_option linter.unusedVariables false

/-- a number that is at most so great -/
def nN (most : Nat) (l : List UInt8) : Option (Nat × List UInt8) := if (dec l).2.2 = 0 ∧ (dec l).1 ≤ most then some ((dec l).1, l.drop (dec l).2.1) else none
theorem nN_some {most n : Nat} {l r : List UInt8} (h : nN most l = some (n, r)) : l = enc n ++ r ∧ n ≤ most := by
  unfold nN at h
  split at h
  · rename_i hc
    obtain ⟨rfl, rfl⟩ := by simpa using h
    obtain ⟨m, k, e⟩ : ∃ m k, dec l = (m, k, 0) := ⟨(dec l).1, (dec l).2.1, by rw [← hc.1]⟩
    have hf := dec_form e
    rw [e]
    rw [e] at hc
    exact ⟨by rw [hf.1, List.take_append_drop], hc.2⟩
  · cases h
theorem nN_enc {most n : Nat} (r : List UInt8) (h : n ≤ most) (hb : n < 2 ^ 64) : nN most (enc n ++ r) = some (n, r) := by
  unfold nN
  rw [dec_enc n hb r, if_pos ⟨rfl, h⟩]
  simp
/-- a text -/
def tT (most : Nat) (l : List UInt8) : Option (BA × List UInt8) := (nN most l).bind fun x => if x.1 ≤ x.2.length then some (⟨(x.2.take x.1).toArray⟩, x.2.drop x.1) else none
theorem tT_some {most : Nat} {l r : List UInt8} {s : BA} (h : tT most l = some (s, r)) : l = encT s ++ r ∧ s.size ≤ most := by
  unfold tT at h
  obtain ⟨⟨n, q⟩, h1, h2⟩ := Option.bind_eq_some_iff.1 h
  obtain ⟨e1, e2⟩ := nN_some h1
  simp only at h2
  split at h2
  · rename_i hn
    obtain ⟨rfl, rfl⟩ := by simpa using h2
    have hs : (⟨(q.take n).toArray⟩ : BA).size = n := by
      show (q.take n).toArray.size = n
      simp; omega
    refine ⟨?_, by rw [hs]; exact e2⟩
    unfold encT
    rw [hs, e1, List.append_assoc]
    simp
  · cases h2
theorem tT_enc {most : Nat} (s : BA) (r : List UInt8) (h : s.size ≤ most) (hb : s.size < 2 ^ 64) : tT most (encT s ++ r) = some (s, r) := by
  unfold tT encT
  rw [List.append_assoc, nN_enc _ h hb]
  have e : s.data.toList.length = s.size := rfl
  simp only [Option.bind_some, List.length_append, e]
  rw [if_pos (by omega)]
  have e1 : (s.data.toList ++ r).take s.size = s.data.toList := by rw [← e, List.take_left]
  have e2 : (s.data.toList ++ r).drop s.size = r := by rw [← e, List.drop_left]
  rw [e1, e2]
/-- so many of them -/
def rep {α : Type} (f : List UInt8 → Option (α × List UInt8)) : Nat → List UInt8 → Option (List α × List UInt8)
  | 0, l => some ([], l)
  | n + 1, l => (f l).bind fun x => (rep f n x.2).bind fun y => some (x.1 :: y.1, y.2)
theorem rep_some {α : Type} {f : List UInt8 → Option (α × List UInt8)} (g : α → List UInt8) : ∀ {n : Nat} {l r : List UInt8} {xs : List α}, rep f n l = some (xs, r) → (∀ x ∈ xs, ∀ l r, f l = some (x, r) → l = g x ++ r) → xs.length = n ∧ l = xs.flatMap g ++ r
  | 0, l, r, xs, h, _ => by
    simp only [rep, Option.some.injEq, Prod.mk.injEq] at h
    obtain ⟨rfl, rfl⟩ := h
    exact ⟨rfl, rfl⟩
  | n + 1, l, r, xs, h, hg => by
    unfold rep at h
    obtain ⟨⟨x, q⟩, h1, h2⟩ := Option.bind_eq_some_iff.1 h
    obtain ⟨⟨ys, q2⟩, h3, h4⟩ := Option.bind_eq_some_iff.1 h2
    simp only [Option.some.injEq, Prod.mk.injEq] at h4
    obtain ⟨rfl, rfl⟩ := h4
    obtain ⟨e1, e2⟩ := rep_some g h3 (fun y hy => hg y (by simp [hy]))
    refine ⟨by simp [e1], ?_⟩
    have e2 : q = ys.flatMap g ++ q2 := e2
    rw [hg x (by simp) l q h1, e2, List.flatMap_cons, List.append_assoc]
theorem rep_enc {α : Type} {f : List UInt8 → Option (α × List UInt8)} (g : α → List UInt8) (c : α → α) : ∀ (xs : List α) (r : List UInt8), (∀ x ∈ xs, ∀ r, f (g x ++ r) = some (c x, r)) → rep f xs.length (xs.flatMap g ++ r) = some (xs.map c, r)
  | [], r, _ => rfl
  | x :: xs, r, h => by
    have ih := rep_enc g c xs r (fun y hy => h y (by simp [hy]))
    rw [List.length_cons, List.flatMap_cons, List.append_assoc]
    unfold rep
    rw [h x (by simp), Option.bind_some]
    simp only [ih, Option.bind_some, List.map_cons]
theorem rep_all {α : Type} {f : List UInt8 → Option (α × List UInt8)} (Q : α → Prop) (hf : ∀ l x r, f l = some (x, r) → Q x) : ∀ {n : Nat} {l r : List UInt8} {xs : List α}, rep f n l = some (xs, r) → ∀ x ∈ xs, Q x
  | 0, l, r, xs, h => by
    simp only [rep, Option.some.injEq, Prod.mk.injEq] at h
    obtain ⟨rfl, rfl⟩ := h
    simp
  | n + 1, l, r, xs, h => by
    unfold rep at h
    obtain ⟨⟨x, q⟩, h1, h2⟩ := Option.bind_eq_some_iff.1 h
    obtain ⟨⟨ys, q2⟩, h3, h4⟩ := Option.bind_eq_some_iff.1 h2
    simp only [Option.some.injEq, Prod.mk.injEq] at h4
    obtain ⟨rfl, rfl⟩ := h4
    intro y hy
    rcases List.mem_cons.1 hy with rfl | hy
    · exact hf _ _ _ h1
    · exact rep_all Q hf h3 y hy
def hH (l : List UInt8) : Option (Hs × List UInt8) := if 32 ≤ l.length then some (l.take 32, l.drop 32) else none
theorem hH_some {l r : List UInt8} {x : Hs} (h : hH l = some (x, r)) : l = x ++ r ∧ x.length = 32 := by
  unfold hH at h
  split at h
  · obtain ⟨rfl, rfl⟩ := by simpa using h
    exact ⟨(List.take_append_drop _ _).symm, by rw [List.length_take]; omega⟩
  · cases h
theorem hH_enc {x : Hs} (r : List UInt8) (h : x.length = 32) : hH (x ++ r) = some (x, r) := by
  unfold hH
  rw [if_pos (by rw [List.length_append]; omega), ← h, List.take_left, List.drop_left]
/-- a vertex -/
def vV (D : List Hs) (l : List UInt8) : Option (Vx × List UInt8) := match l with
  | [] => none
  | c :: r => if c = 0 then some (vTop, r) else if c = 1 then some (vBot, r) else if c = 2 then (nN 16 r).bind fun x => if x.1 < D.length then (nN 64 x.2).bind fun y => some (⟨D.getD x.1 [], y.1⟩, y.2) else none else none
/-- what is needed: each of its hashes is no noughts, and none is there twice -/
structure DOk (D : List Hs) : Prop where
  len : ∀ h ∈ D, h.length = 32
  few : D.length ≤ 16
  zero : ∀ h ∈ D, h ≠ z32
  once : ∀ (i : Nat) (x : Hs) (j : Nat), D[i]? = some x → D[j]? = some x → j = i
theorem vV_some {D : List Hs} (hD : DOk D) {l r : List UInt8} {v : Vx} (h : vV D l = some (v, r)) : l = encV D v ++ r ∧ v.ok := by
  unfold vV at h
  cases l with
  | nil => cases h
  | cons c q =>
    simp only at h
    split at h
    · rename_i hc
      obtain ⟨rfl, rfl⟩ := by simpa using h
      subst hc
      exact ⟨by unfold encV; rw [if_pos ((eqVx_iff _ _).2 rfl)]; rfl, vTop_ok⟩
    · split at h
      · rename_i hc
        obtain ⟨rfl, rfl⟩ := by simpa using h
        subst hc
        refine ⟨?_, vBot_ok⟩
        have e : eqVx vBot vTop = false := by decide +kernel
        unfold encV
        rw [e, if_neg (by decide), if_pos ((eqVx_iff _ _).2 rfl)]
        rfl
      · split at h
        · rename_i hc
          subst hc
          obtain ⟨⟨i, q1⟩, h1, h2⟩ := Option.bind_eq_some_iff.1 h
          simp only at h2
          split at h2
          · rename_i hi
            obtain ⟨⟨j, q2⟩, h3, h4⟩ := Option.bind_eq_some_iff.1 h2
            simp only [Option.some.injEq, Prod.mk.injEq] at h4
            obtain ⟨rfl, rfl⟩ := h4
            obtain ⟨e1, e2⟩ := nN_some h1
            obtain ⟨e3, e4⟩ := nN_some h3
            have hg : D[i]? = some (D.getD i []) := by rw [List.getD_eq_getElem?_getD, List.getElem?_eq_getElem hi]; rfl
            have hm := List.mem_of_getElem? hg
            have hz := hD.zero _ hm
            have hp : placeOf (D.getD i []) D = (i : Int) := placeOf_at hg (fun j x hj hx e => by
              subst e
              have := hD.once _ _ _ hg hx
              omega)
            have n1 : eqVx ⟨D.getD i [], (j : Int)⟩ vTop = false := by
              rw [Bool.eq_false_iff]
              intro e
              exact hz (congrArg Vx.h ((eqVx_iff _ _).1 e))
            have n2 : eqVx ⟨D.getD i [], (j : Int)⟩ vBot = false := by
              rw [Bool.eq_false_iff]
              intro e
              exact hz (congrArg Vx.h ((eqVx_iff _ _).1 e))
            refine ⟨?_, hD.len _ hm⟩
            unfold encV
            rw [n1, n2, if_neg (by decide), if_neg (by decide)]
            simp only [hp, Int.toNat_natCast]
            rw [e1, e3, List.cons_append, List.append_assoc]
          · cases h2
        · cases h
theorem vV_enc {D : List Hs} (hD : D.length ≤ 16) {v : Vx} (h : okV D v) (r : List UInt8) : vV D (encV D v ++ r) = some (v, r) := by
  unfold encV
  by_cases h1 : eqVx v vTop = true
  · rw [if_pos h1, (eqVx_iff _ _).1 h1]
    rfl
  · rw [if_neg h1]
    by_cases h2 : eqVx v vBot = true
    · rw [if_pos h2, (eqVx_iff _ _).1 h2]
      rfl
    · rw [if_neg h2]
      have hl : lineOf D v = true := by
        rcases h with h | h | h
        · exact absurd h h1
        · exact absurd h h2
        · exact h
      unfold lineOf at hl
      simp only [Bool.and_eq_true, decide_eq_true_eq] at hl
      obtain ⟨a1, a2, a3⟩ := hl
      obtain ⟨k, k1, k2, k3⟩ := place_nat a3
      obtain ⟨j, hj⟩ : ∃ j : Nat, v.n = (j : Int) := ⟨v.n.toNat, by omega⟩
      rw [k1, hj, Int.toNat_natCast, Int.toNat_natCast]
      unfold vV
      simp only [List.cons_append]
      rw [if_neg (by decide), if_neg (by decide), if_pos (by trivial), List.append_assoc, nN_enc _ (by omega) (by omega)]
      simp only [Option.bind_some]
      rw [if_pos k2, nN_enc _ (by omega) (by omega)]
      simp only [Option.bind_some, Option.some.injEq, Prod.mk.injEq, and_true]
      rw [List.getD_eq_getElem?_getD, k3]
      cases v
      simp only at hj
      rw [hj]
      rfl
end Go.Proofs.YtgdecjacbkicmaaGreatDoor.Oct

/- Layer 10 (patch): the reference's With; texts that rise. -/
namespace Go.Proofs.YtgdecjacbkicmaaGreatDoor.Oct
open Go.RowKit
set_option maxRecDepth 100000
set_option linter.unusedSimpArgs false
set_option linter.unusedVariables false

def hv (x : Hs) : Value := .string ⟨x.toArray⟩
def bk (s : BA) : Hs := s.data.toList
theorem hv_bk (s : BA) : hv (bk s) = .string s := rfl
theorem bk_inj {s t : BA} (h : bk s = bk t) : s = t := by
  have : s.data = t.data := Array.toList_inj.1 h
  cases s; cases t; simpa using this
theorem bk_len (s : BA) : (bk s).length = s.size := rfl
theorem toList_bk (s : BA) : s.toList = bk s := ByteArray.toList_eq s
theorem eq_iff (s t : BA) : (s.toList == t.toList) = decide (s = t) := by
  rw [toList_bk, toList_bk]
  by_cases h : s = t
  · subst h; simp
  · have : bk s ≠ bk t := fun e => h (bk_inj e)
    simp [h, this]
/-- texts as cells -/
def strC (l : List BA) : List Value := l.map fun s => .string s
theorem strC_one (l : List BA) : ∀ u ∈ strC l, u.oneCell' = true := by
  intro u hu
  obtain ⟨s, _, rfl⟩ := List.mem_map.1 hu
  rfl
theorem strC_app (l k : List BA) : strC (l ++ k) = strC l ++ strC k := by simp [strC]
theorem ownsRow_below {w w' : World} {B e sz n : Nat} {v : Value} {cs : List Value} (h : w.ownsRow B e sz v n cs) (hb : Below w.heap.size w w') : w'.ownsRow B e sz v n cs := by
  refine ⟨h.1, ?_⟩
  rcases h.2 with hn | ⟨g, cap, cur, rfl, hB, hbk, hr⟩
  · exact .inl hn
  · exact .inr ⟨g, cap, cur, rfl, hB, (hb.block g (lt_of_block hbk)).trans hbk, hr⟩
theorem empty_row (w : World) (e sz : Nat) : (w.alloc (.cells #[] e)).ownsRow w.heap.size e sz (.slice (some ⟨w.heap.size, 0, none⟩) 0 0) 0 [] :=
  ⟨by simp, .inr ⟨w.heap.size, 0, #[], rfl, Nat.le_refl _, heap_alloc_new w _, Nat.le_refl _, by unfold maxLen; omega, by simp, by simp⟩⟩
theorem range_new (w : World) (cs : List Value) (t : TypeId) : (w.alloc (.cells cs.toArray t)).rangeAt w.heap.size 0 cs := by
  have hb : Blk (w.alloc (.cells cs.toArray t)) w.heap.size t cs := by simpa using Blk.new w cs.toArray t
  intro j v hj
  rw [Nat.zero_add]
  exact hb.cell hj
theorem strs_new (w : World) (s : BA) : Strs (w.alloc (.cells #[.string s] 9)) (some ⟨w.heap.size, 0, none⟩) 1 [s] :=
  ⟨rfl, fun _ => ⟨w.heap.size, 0, rfl, by simp, fun i x hx => range_new w [.string s] 9 i _ (by
    cases i with
    | zero => simp at hx; subst hx; rfl
    | succ i => simp at hx)⟩⟩
/-- a row of the call's own behind an append to one -/
theorem wpList_append_mine {ops : Array Oper} {rest : List Oper} {o : Oper} {a : Act} {Q : Exit → Act → World → Prop} (hgd : o.guard = none) (s x : Operand)
    (hop : o.op = .call { callee := .builtin .append, args := #[s, x], argTypes := #[44, 44] }) (w : World) (B : Nat) (v : Value) (n : Nat) (l : List BA) (h : w.ownsRow B 9 1 v n (strC l)) (ao : Option Addr) (q c : Nat) (k : List BA) (hsv : a.eval s = v) (hx : a.eval x = .slice ao q c) (ho : Strs w ao q k) (hB : B ≤ w.heap.size) (hn : n + q ≤ 1000000)
    (hk : ∀ v' w', Hid (w'.ownsRow B 9 1 v' (n + q) (strC (l ++ k))) → Hid (Below B w w') → wpList Tryz.prog ops Q rest (a.put o.dst v') w') : wpList Tryz.prog ops Q (o :: rest) a w := by
  obtain ⟨i0, z0, k0, k1, k2, k3, k4⟩ := inf9
  refine wpList_plain hgd fun K hK => ?_
  have hlen : k.length = q := ho.1
  by_cases hq : q = 0
  · subst hq
    obtain rfl := List.eq_nil_of_length_eq_zero hlen
    obtain ⟨a', cap, rfl, hnc⟩ : ∃ a cap, v = .slice a n cap ∧ n ≤ cap := by
      rcases h.2 with ⟨rfl, rfl⟩ | ⟨g, cap, cur, rfl, _, _, hn, _⟩
      · exact ⟨none, 0, rfl, Nat.le_refl _⟩
      · exact ⟨_, cap, rfl, hn⟩
    have hr := run_append_zero (P := Tryz.prog) w 44 o.type 9 i0 Tryz.underlying44 k0 a' ao n cap c hnc
    unfold Oper.wp execOp
    simp only [hop, resolve, invoke, builtin, Sem.run_bind, Sem.run_pure, Result.andThen_ok, List.map_toArray, List.map_cons, List.map_nil, hsv, hx, hr]
    exact hK _ _ (hk _ w (by show World.ownsRow _ _ _ _ _ _ _; simpa using h) (Below.refl _ _))
  · obtain ⟨g, off, rfl, _, hc⟩ := ho.2 (by omega)
    obtain ⟨v', w', hr, h2, h3, _⟩ := run_append_own_wide (P := Tryz.prog) w B 44 o.type 9 i0 z0 1 i0.bytes Tryz.underlying44 k0 k1 k2 rfl k4 (by omega) v n (strC l) h ⟨g, off, none⟩ q c (strC k) (by simp [strC, hlen]) (fun j u hu => by
      rw [Addr.add_lit]
      simp only [strC, List.getElem?_map] at hu
      obtain ⟨s, hs, rfl⟩ := Option.map_eq_some_iff.1 hu
      exact hc j s hs) (strC_one _) (by unfold maxLen; omega) (by rw [k3]; omega) hB
    unfold Oper.wp execOp
    simp only [hop, resolve, invoke, builtin, Sem.run_bind, Sem.run_pure, Result.andThen_ok, List.map_toArray, List.map_cons, List.map_nil, hsv, hx, hr]
    refine hK _ _ (hk v' w' (by rw [strC_app]; exact h2) ⟨h3.os, h3.tape, h3.output, h3.size, fun k hk => h3.block k (by omega) fun e => ?_⟩)
    have := (h.lt k e.symm).1
    omega
theorem lt_irr (a : Hs) : ¬ a < a := List.lt_irrefl a
theorem lt_tr {a b c : Hs} (h : a < b) (k : b < c) : a < c := List.lt_trans h k
theorem lt_or (a b : Hs) : a < b ∨ a = b ∨ b < a := by
  rcases List.le_total a b with h | h
  · by_cases e : a = b
    · exact .inr (.inl e)
    · left
      exact Classical.not_not.1 fun hn => e (List.le_antisymm h hn)
  · by_cases e : a = b
    · exact .inr (.inl e)
    · right; right
      exact Classical.not_not.1 fun hn => e (List.le_antisymm hn h)
/-- rising, each once -/
def Rise (l : List Hs) : Prop := l.Pairwise (· < ·)
/-- one more text, in its place -/
def withL (s : Hs) : List Hs → List Hs
  | [] => [s]
  | x :: l => if x < s then x :: withL s l else if x = s then x :: l else s :: x :: l
theorem mem_with (s x : Hs) : ∀ l, x ∈ withL s l ↔ x = s ∨ x ∈ l
  | [] => by simp [withL]
  | y :: l => by
    have ih := mem_with s x l
    unfold withL
    split
    · simp only [List.mem_cons, ih]
      constructor
      · rintro (h | h | h)
        · exact .inr (.inl h)
        · exact .inl h
        · exact .inr (.inr h)
      · rintro (h | h | h)
        · exact .inr (.inl h)
        · exact .inl h
        · exact .inr (.inr h)
    · split
      · rename_i e
        subst e
        simp only [List.mem_cons]
        constructor
        · exact .inr
        · rintro (h | h)
          · exact .inl h
          · exact h
      · simp only [List.mem_cons]
theorem rise_with (s : Hs) : ∀ {l : List Hs}, Rise l → Rise (withL s l)
  | [], _ => by simp [withL, Rise]
  | y :: l, h => by
    have hh := List.pairwise_cons.1 h
    unfold withL
    split
    · rename_i hlt
      refine List.pairwise_cons.2 ⟨fun z hz => ?_, rise_with s hh.2⟩
      rcases (mem_with s z l).1 hz with rfl | hz
      · exact hlt
      · exact hh.1 z hz
    · split
      · exact h
      · rename_i h1 h2
        have hs : s < y := by
          rcases lt_or y s with e | e | e
          · exact absurd e h1
          · exact absurd e h2
          · exact e
        refine List.pairwise_cons.2 ⟨fun z hz => ?_, h⟩
        rcases List.mem_cons.1 hz with rfl | hz
        · exact hs
        · exact lt_tr hs (hh.1 z hz)
theorem Rise.nodup {l : List Hs} (h : Rise l) : l.Nodup := List.Pairwise.imp (fun {a b} hab e => by subst e; exact lt_irr a hab) h
/-- rising lists of the same members are one -/
theorem rise_eq : ∀ {a b : List Hs}, Rise a → Rise b → (∀ x, x ∈ a ↔ x ∈ b) → a = b
  | [], [], _, _, _ => rfl
  | [], y :: b, _, _, h => by have := (h y).2 (by simp); cases this
  | x :: a, [], _, _, h => by have := (h x).1 (by simp); cases this
  | x :: a, y :: b, ha, hb, h => by
    have ha' := List.pairwise_cons.1 ha
    have hb' := List.pairwise_cons.1 hb
    have e : x = y := by
      rcases List.mem_cons.1 ((h x).1 (by simp)) with e | hx
      · exact e
      · rcases List.mem_cons.1 ((h y).2 (by simp)) with e | hy
        · exact e.symm
        · exact absurd (lt_tr (ha'.1 y hy) (hb'.1 x hx)) (lt_irr x)
    subst e
    refine congrArg (x :: ·) (rise_eq ha'.2 hb'.2 fun z => ?_)
    constructor
    · intro hz
      rcases List.mem_cons.1 ((h z).1 (List.mem_cons_of_mem _ hz)) with e | hz'
      · exact absurd (e ▸ ha'.1 z hz) (lt_irr z)
      · exact hz'
    · intro hz
      rcases List.mem_cons.1 ((h z).2 (List.mem_cons_of_mem _ hz)) with e | hz'
      · exact absurd (e ▸ hb'.1 z hz) (lt_irr z)
      · exact hz'
def withB (s : BA) : List BA → List BA
  | [] => [s]
  | x :: l => if bk x < bk s then x :: withB s l else if x = s then x :: l else s :: x :: l
theorem withB_bk (s : BA) : ∀ l, (withB s l).map bk = withL (bk s) (l.map bk)
  | [] => rfl
  | x :: l => by
    have ih := withB_bk s l
    have e : (bk x = bk s) = (x = s) := propext ⟨bk_inj, fun h => by rw [h]⟩
    unfold withB withL
    simp only [List.map_cons, e]
    split
    · simp [ih]
    · split <;> simp
theorem withB_at (s : BA) : ∀ (l : List BA) (i : Nat), i ≤ l.length → (∀ x ∈ l.take i, bk x < bk s) → (∀ x, l[i]? = some x → ¬ bk x < bk s) → withB s l = l.take i ++ (if l[i]? = some s then l.drop i else s :: l.drop i)
  | [], i, hi, _, _ => by simp at hi; subst hi; simp [withB]
  | y :: l, 0, _, _, h => by
    have hy := h y (by simp)
    unfold withB
    rw [if_neg hy]
    simp
  | y :: l, i + 1, hi, h1, h2 => by
    have hy := h1 y (by simp)
    have ih := withB_at s l i (by simpa using hi) (fun x hx => h1 x (by simp [hx])) (fun x hx => h2 x (by simpa using hx))
    unfold withB
    rw [if_pos hy, ih]
    simp
/-- a slice of texts that were put together -/
def TS (w : World) (v : Value) (l : List BA) : Prop := (v = .slice none 0 0 ∧ l = []) ∨ ∃ g c, v = .slice (some ⟨g, 0, none⟩) l.length c ∧ l.length ≤ c ∧ c ≤ maxLen ∧ g < w.heap.size ∧ ∀ i x, l[i]? = some x → w.cell? ⟨g, i, none⟩ = some (.string x)
theorem TS.below {w w' : World} {v : Value} {l : List BA} (h : TS w v l) (hb : Below w.heap.size w w') : TS w' v l := by
  rcases h with h | ⟨g, c, h1, h2, h3, h4, h5⟩
  · exact .inl h
  · exact .inr ⟨g, c, h1, h2, h3, Nat.lt_of_lt_of_le h4 hb.size, fun i x hx => (hb.cell (p := ⟨g, i, none⟩) h4).trans (h5 i x hx)⟩
theorem TS.own {w : World} {B n : Nat} {v : Value} {l : List BA} (h : w.ownsRow B 9 1 v n (strC l)) : TS w v l := by
  have hl : l.length = n := by have := h.1; simpa [strC] using this
  rcases h.2 with ⟨rfl, rfl⟩ | ⟨g, cap, cur, rfl, hB, hb, hn, hc, hsz, ht⟩
  · exact .inl ⟨rfl, List.eq_nil_of_length_eq_zero hl⟩
  · refine .inr ⟨g, cap, by rw [hl], by omega, hc, lt_of_block hb, fun i x hx => ?_⟩
    rw [cell_of_row w g i _ 9 (0, 0) hb]
    have hu : (strC l)[i]? = some (.string x) := by simp [strC, hx]
    rw [← ht, List.getElem?_take] at hu
    split at hu
    · simpa using hu
    · cases hu
end Go.Proofs.YtgdecjacbkicmaaGreatDoor.Oct

/- Layer 10 (patch): what bytes are a patch: whole. -/
namespace Go.Proofs.YtgdecjacbkicmaaGreatDoor.Oct
open Go.RowKit
set_option maxRecDepth 100000
set_option linter.unusedSimpArgs false
set_option linter.unusedVariables false

theorem cmp_lt : ∀ a b : Hs, Lib.compareBytes a b < 0 ↔ a < b
  | [], [] => by simp [Lib.compareBytes]
  | [], _ :: _ => by simp [Lib.compareBytes]
  | _ :: _, [] => by simp [Lib.compareBytes]
  | x :: a, y :: b => by
    have ih := cmp_lt a b
    rw [List.cons_lt_cons_iff]
    unfold Lib.compareBytes
    rcases u8_tri x y with h | rfl | h
    · rw [if_pos h]
      simp [h]
    · rw [if_neg (u8_irr x), if_neg (u8_irr x), ih]
      simp [u8_irr x]
    · rw [if_neg (u8_asym h), if_pos h]
      have hne : x ≠ y := fun e => by subst e; exact u8_irr _ h
      simp [u8_asym h, hne]
theorem rises_pair : ∀ (l : Hs) (D : List Hs), rises l D = true → (l :: D).Pairwise (· < ·)
  | l, [], _ => by simp
  | l, d :: r, h => by
    unfold rises at h
    rw [Bool.and_eq_true, decide_eq_true_eq, cmp_lt] at h
    have ih := rises_pair d r h.2
    refine List.pairwise_cons.2 ⟨fun x hx => ?_, ih⟩
    rcases List.mem_cons.1 hx with rfl | hx
    · exact h.1
    · exact lt_tr h.1 ((List.pairwise_cons.1 ih).1 x hx)
theorem dok_of {D : List Hs} (hl : ∀ h ∈ D, h.length = 32) (h : depsB D = true) : DOk D := by
  obtain ⟨h1, h2⟩ := deps_of h
  have hp := List.pairwise_cons.1 (rises_pair z32 D h2)
  refine ⟨hl, h1, fun x hx e => lt_irr z32 (by have := hp.1 x hx; rw [e] at this; exact this), fun i x j hi hj => ?_⟩
  obtain ⟨hi1, hi2⟩ := List.getElem?_eq_some_iff.1 hi
  obtain ⟨hj1, hj2⟩ := List.getElem?_eq_some_iff.1 hj
  rcases Nat.lt_trichotomy i j with hc | hc | hc
  · have := List.pairwise_iff_getElem.1 hp.2 i j hi1 hj1 hc
    rw [hi2, hj2] at this
    exact absurd this (lt_irr x)
  · exact hc.symm
  · have := List.pairwise_iff_getElem.1 hp.2 j i hj1 hi1 hc
    rw [hi2, hj2] at this
    exact absurd this (lt_irr x)
def mkO (k : UInt8) (s : BA) (u d : Vx) (ts : List BA) : OpV := ⟨(k.toNat : Int), s, u, d, none, ts.length, ts.length, ts⟩
/-- an operation -/
def oO (P T : Nat) (D : List Hs) (l : List UInt8) : Option (OpV × List UInt8) := match l with
  | [] => none
  | k :: l => (tT P l).bind fun s => (vV D s.2).bind fun u => if k = 1 then (vV D u.2).bind fun d => (nN 64 d.2).bind fun m => (rep (tT T) m.1 m.2).bind fun t => some (mkO k s.1 u.1 d.1 t.1, t.2) else some (mkO k s.1 u.1 vTop [], u.2)
def OpV.pl (o : OpV) : OpV := ⟨o.kind, o.path, o.up, o.dn, none, o.ts.length, o.ts.length, o.ts⟩
theorem ofNat_kind (k : UInt8) : UInt8.ofNat ((k.toNat : Int)).toNat = k := by simp
theorem oO_some {P T : Nat} {D : List Hs} (hD : DOk D) {l r : List UInt8} {o : OpV} (h : oO P T D l = some (o, r)) : l = encO D o ++ r := by
  unfold oO at h
  cases l with
  | nil => cases h
  | cons k l =>
    simp only at h
    obtain ⟨⟨s, q1⟩, h1, h2⟩ := Option.bind_eq_some_iff.1 h
    obtain ⟨⟨u, q2⟩, h3, h4⟩ := Option.bind_eq_some_iff.1 h2
    obtain ⟨e1, _⟩ := tT_some h1
    obtain ⟨e2, _⟩ := vV_some hD h3
    have e2 : q1 = encV D u ++ q2 := e2
    simp only at h4
    split at h4
    · rename_i hk
      obtain ⟨⟨d, q3⟩, h5, h6⟩ := Option.bind_eq_some_iff.1 h4
      obtain ⟨⟨m, q4⟩, h7, h8⟩ := Option.bind_eq_some_iff.1 h6
      obtain ⟨⟨ts, q5⟩, h9, ha⟩ := Option.bind_eq_some_iff.1 h8
      simp only [Option.some.injEq, Prod.mk.injEq] at ha
      obtain ⟨rfl, rfl⟩ := ha
      obtain ⟨e3, _⟩ := vV_some hD h5
      obtain ⟨e4, _⟩ := nN_some h7
      obtain ⟨e5, e6⟩ := rep_some encT h9 (fun x _ l r hx => (tT_some hx).1)
      have e3 : q2 = encV D d ++ q3 := e3
      have e4 : q3 = enc m ++ q4 := e4
      have e6 : q4 = ts.flatMap encT ++ q5 := e6
      have e5 : ts.length = m := e5
      unfold encO mkO
      simp only [ofNat_kind]
      rw [if_pos (by rw [hk]; rfl), e1, e2, e3, e4, e6, e5]
      simp only [List.cons_append, List.append_assoc]
    · rename_i hk
      simp only [Option.some.injEq, Prod.mk.injEq] at h4
      obtain ⟨rfl, rfl⟩ := h4
      unfold encO mkO
      simp only [ofNat_kind]
      rw [if_neg (fun e => hk (UInt8.toNat_inj.1 (by show k.toNat = 1; omega))), e1, e2]
      simp only [List.cons_append, List.append_assoc, List.nil_append]
theorem oO_enc {P T : Nat} (hP : 64 ≤ P) (hT : 200 ≤ T) {D : List Hs} (hD : D.length ≤ 16) {o : OpV} (h : opB D o = true) (hl : o.ts.length = o.ln) (hm : o.ln ≤ 64) (r : List UInt8) : oO P T D (encO D o ++ r) = some (o.pl, r) := by
  obtain ⟨hp, hc⟩ := op_of h
  have hps := path_len hp
  unfold encO
  rw [List.cons_append, List.append_assoc, List.append_assoc]
  unfold oO
  simp only
  rw [tT_enc _ _ (by omega) (by omega)]
  simp only [Option.bind_some]
  rcases hc with ⟨hk, _, hb, hu, hd⟩ | ⟨hk, hz, hd, hu⟩
  · rw [vV_enc hD hu]
    simp only [Option.bind_some]
    rw [hk, if_pos (by decide), if_pos rfl, List.append_assoc, vV_enc hD hd]
    simp only [Option.bind_some, List.append_assoc]
    rw [nN_enc _ hm (by omega)]
    simp only [Option.bind_some]
    rw [← hl, rep_enc encT id o.ts r (fun x hx r => tT_enc x r (by have := (not_bad (hb x hx)).1; omega) (by have := (not_bad (hb x hx)).1; omega))]
    simp only [Option.bind_some, List.map_id, Option.some.injEq, Prod.mk.injEq, and_true]
    unfold mkO OpV.pl
    rw [hk]
    rfl
  · rw [vV_enc hD (.inr (.inr hu))]
    simp only [Option.bind_some]
    rw [hk, if_neg (by decide), if_neg (by decide)]
    have ht : o.ts = [] := List.length_eq_zero_iff.1 (by omega)
    simp only [List.nil_append, Option.some.injEq, Prod.mk.injEq, and_true]
    unfold mkO OpV.pl
    rw [hk, hd, ht]
    rfl
def mkP (a : BA) (t : Nat) (s : BA) (D : List Hs) (O : List OpV) : PV := ⟨a, (t : Int), s, none, D.length, D.length, D, none, O.length, O.length, O⟩
/-- a patch that bytes begin with -/
def pP (A P T : Nat) (l : List UInt8) : Option (PV × List UInt8) := match l with
  | [] => none
  | c :: l => if c = 80 then (tT A l).bind fun a => (nN 1099511627776 a.2).bind fun t => (tT T t.2).bind fun s => (nN 16 s.2).bind fun n => (rep hH n.1 n.2).bind fun d => (nN 16 d.2).bind fun m => (rep (oO P T d.1) m.1 m.2).bind fun o => some (mkP a.1 t.1 s.1 d.1 o.1, o.2) else none
theorem pP_some {A P T : Nat} {l r : List UInt8} {p : PV} (h : pP A P T l = some (p, r)) (hc : chk p = 0) : l = ptB p ++ r := by
  unfold pP at h
  cases l with
  | nil => cases h
  | cons c l =>
    simp only at h
    split at h
    · rename_i hk
      subst hk
      obtain ⟨⟨a, q1⟩, h1, h⟩ := Option.bind_eq_some_iff.1 h
      obtain ⟨⟨t, q2⟩, h2, h⟩ := Option.bind_eq_some_iff.1 h
      obtain ⟨⟨s, q3⟩, h3, h⟩ := Option.bind_eq_some_iff.1 h
      obtain ⟨⟨n, q4⟩, h4, h⟩ := Option.bind_eq_some_iff.1 h
      obtain ⟨⟨D, q5⟩, h5, h⟩ := Option.bind_eq_some_iff.1 h
      obtain ⟨⟨m, q6⟩, h6, h⟩ := Option.bind_eq_some_iff.1 h
      obtain ⟨⟨O, q7⟩, h7, h⟩ := Option.bind_eq_some_iff.1 h
      simp only [Option.some.injEq, Prod.mk.injEq] at h
      obtain ⟨rfl, rfl⟩ := h
      obtain ⟨_, hdd, _⟩ := chk_of hc
      have hD : DOk D := dok_of (rep_all (fun x => x.length = 32) (fun l x r hx => (hH_some hx).2) h5) hdd
      obtain ⟨e1, _⟩ := tT_some h1
      obtain ⟨e2, _⟩ := nN_some h2
      obtain ⟨e3, _⟩ := tT_some h3
      obtain ⟨e4, _⟩ := nN_some h4
      obtain ⟨f5, e5⟩ := rep_some id h5 (fun x _ l r hx => (hH_some hx).1)
      obtain ⟨e6, _⟩ := nN_some h6
      obtain ⟨f7, e7⟩ := rep_some (encO D) h7 (fun x _ l r hx => oO_some hD hx)
      have e2 : q1 = enc t ++ q2 := e2
      have e3 : q2 = encT s ++ q3 := e3
      have e4 : q3 = enc n ++ q4 := e4
      have e5 : q4 = D.flatMap id ++ q5 := e5
      have e6 : q5 = enc m ++ q6 := e6
      have e7 : q6 = O.flatMap (encO D) ++ q7 := e7
      have f5 : D.length = n := f5
      have f7 : O.length = m := f7
      unfold ptB mkP
      simp only [Int.toNat_natCast]
      rw [e1, e2, e3, e4, e5, e6, e7, f5, f7]
      simp only [List.cons_append, List.append_assoc]
    · cases h
theorem pl_same (o : OpV) : sameO o o.pl = true := by
  unfold sameO OpV.pl
  simp [(eqVx_iff _ _).2 rfl]
theorem pl_sameL : ∀ O : List OpV, sameL O (O.map OpV.pl) = true
  | [] => rfl
  | o :: O => by
    rw [List.map_cons]
    simp only [sameL, Bool.and_eq_true]
    exact ⟨pl_same o, pl_sameL O⟩
theorem pP_enc {A P T : Nat} (hA : 16 ≤ A) (hP : 64 ≤ P) (hT : 200 ≤ T) {w : World} {q : PV} (hq : PR w q) (hc : chk q = 0) (r : List UInt8) : ∃ p, pP A P T (ptB q ++ r) = some (p, r) ∧ sameP q p = true := by
  obtain ⟨hh, hdd, hoo⟩ := chk_of hc
  obtain ⟨s1, s2, s3, s4, _⟩ := head_of hh
  obtain ⟨s5, _⟩ := deps_of hdd
  obtain ⟨s6, s7, s8, s9⟩ := ops_of hoo
  have dl := hq.deps.1
  have ol := hq.ops.1
  obtain ⟨t, ht⟩ : ∃ t : Nat, q.tm = (t : Int) := ⟨q.tm.toNat, by omega⟩
  refine ⟨mkP q.au t q.nt q.D (q.O.map OpV.pl), ?_, ?_⟩
  · unfold ptB
    rw [ht, Int.toNat_natCast]
    simp only [List.cons_append, List.append_assoc]
    unfold pP
    simp only
    rw [if_pos (by trivial), tT_enc _ _ (by omega) (by omega)]
    simp only [Option.bind_some]
    rw [nN_enc _ (by omega) (by omega)]
    simp only [Option.bind_some]
    rw [tT_enc _ _ (by omega) (by omega)]
    simp only [Option.bind_some]
    rw [nN_enc _ (by omega) (by omega)]
    simp only [Option.bind_some]
    rw [← dl, rep_enc id id q.D _ (fun x hx r => hH_enc r (hq.deps.2.1 x hx))]
    simp only [Option.bind_some, List.map_id]
    rw [nN_enc _ (by omega) (by omega)]
    simp only [Option.bind_some]
    rw [← ol, rep_enc (encO q.D) OpV.pl q.O r (fun x hx r => oO_enc hP hT (by omega) (s9 x hx) (hq.ops.2.1 x hx).1.2.2.1 (by have := many_mem hx; omega) r)]
    simp only [Option.bind_some]
  · unfold sameP mkP
    simp only [ht, pl_sameL, Bool.and_true, decide_true]
end Go.Proofs.YtgdecjacbkicmaaGreatDoor.Oct
