/-
  A slice of bytes among a law's arguments, as the walks take it; an append of bytes that came in.
-/
import Derived.Test.YtgdecjacbkicmaaDoorQkE
import Derived.Laws.AppendOwnNone
import Derived.Deep.RegionHeld
import Derived.ProofKit
import Derived.SizedLaws
/- A slice of bytes among a law's arguments, as the walks take it; an append of bytes that came in. -/
namespace Go.Proofs.YtgdecjacbkicmaaDoor.Hsh
open Go.RowKit Go.ChangeShapes Go.WideShapes Go.ChangeAt

/-- a slice of bytes that came in, of whatever length: its elements are l -/
def Arg (w : World) (a : Option Addr) (len cap : Nat) (l : List UInt8) : Prop :=
  l.length = len ∧ len ≤ cap ∧ cap ≤ maxLen ∧ (a = none → cap = 0) ∧
  (0 < len → ∃ b off, a = some ⟨b, off, none⟩ ∧ b < w.heap.size ∧ ∀ i c, l[i]? = some c → w.cell? ⟨b, off + i, none⟩ = some (.int .u8 (c.toNat : Int)))

theorem Arg.toIn {w : World} {a : Option Addr} {len cap : Nat} {l : List UInt8} (h : Arg w a len cap l) (hl : len ≤ 140737488355328) : In w a len cap l := ⟨h.1, h.2.1, hl, h.2.2.2.1, h.2.2.2.2⟩

theorem Arg.nil (w : World) : Arg w none 0 0 [] := ⟨rfl, Nat.le_refl _, by unfold maxLen; omega, fun _ => rfl, fun h => absurd h (by omega)⟩

theorem arg_of_ints {w : World} (x : Addr) (len cap : Nat) (zs : List Int) (hl : len ≤ cap) (hm : cap ≤ maxLen) (hz : zs.length = cap) (hcell : ∀ i, i < zs.length → w.cell? (x.add i) = some (.int .u8 (zs.getD i 0))) (hwz : ∀ n ∈ zs, (Lit.int .u8 n).wf = true) :
    ∃ l, Arg w (some x) len cap l := by
  refine ⟨(zs.take len).map (fun z => UInt8.ofNat z.toNat), by simp; omega, hl, hm, by simp, fun hp => ?_⟩
  obtain ⟨b, off, spot⟩ := x
  have h0 := hcell 0 (by omega)
  have hspot : spot = none := by simpa [Addr.add] using World.cell?_spot h0
  subst hspot
  refine ⟨b, off, rfl, ?_, fun i c hi => ?_⟩
  · have := World.block_lt_of_cell? w _ h0
    simpa [Addr.add] using this
  · have hlt : i < len := by
      have := (List.getElem?_eq_some_iff.1 hi).1
      simp at this; omega
    have hc := hcell i (by omega)
    rw [Addr.add_lit] at hc
    rw [hc]
    have hi' : i < zs.length := by omega
    simp only [List.getElem?_map, List.getElem?_take, hlt, if_true, List.getElem?_eq_getElem hi', Option.map_some, Option.some.injEq] at hi
    have hw := hwz zs[i] (List.getElem_mem hi')
    have hb : 0 ≤ zs[i] ∧ zs[i] < 256 := by simp [Lit.wf, IntKind.min, IntKind.max, IntKind.bits, IntKind.signed] at hw; omega
    have hg : zs.getD i 0 = zs[i] := by simp [List.getD, hi']
    rw [hg, ← hi, UInt8.toNat_ofNat']
    congr 2
    omega

/-- 'append(v, b...)', v the call's own, b a slice of bytes that is read: at the operation -/
theorem wp_append_in {P : Program} (w : World) {o : Oper} {a : Act} {K : Act → World → Prop} {Q : Exit → Act → World → Prop} (s x : Operand) (t : TypeId)
    (ho : o.op = .call { callee := .builtin .append, args := #[s, x], argTypes := #[t, t] })
    (base : Nat) (e : TypeId) (i : TypeInfo) (ht : P.underlying t = some (.slice e)) (hi : P.info? e = some i) (hz : i.zero = some (.int .u8 0)) (hsize : i.size = 1) (hby : i.bytes = 1)
    (v : Value) (r : List UInt8) (n : Nat) (hn : r.length = n) (hs : a.eval s = v) (hown : w.ownsRow base e 1 v n (U r)) (ao : Option Addr) (m c : Nat) (l : List UInt8) (hx : a.eval x = .slice ao m c) (hin : In w ao m c l)
    (hbytes : n + m ≤ 140737488355328) (hbase : base ≤ w.heap.size)
    (h : ∀ v' w', Own e base w' v' (r ++ l) → w.grownBy w' v.ownBlock → K (a.put o.dst v') w') : Oper.wp P o a w K Q := by
  have hl := hin.1
  cases ao with
  | none =>
    have hc := hin.2.2.2.1 rfl
    have hle := hin.2.1
    obtain rfl : c = 0 := hc
    obtain rfl : m = 0 := by omega
    obtain rfl : l = [] := List.eq_nil_of_length_eq_zero hl
    have hrun := run_append_owned_none (P := P) (w := w) base t o.type e i 1 ht hi v n (U r) hown
    have hh := h v w (by subst hn; rw [List.append_nil]; exact hown) (World.grownBy.refl _ _)
    unfold Oper.wp
    simp [execOp, ho, resolve, invoke, builtin, hs, hx, hrun, Result.andThen]
    exact hh
  | some ad =>
    refine wp_append_own w s x t ho base e i (.int .u8 0) 1 1 ht hi hz hsize hby rfl (by omega) v n (U r) hs hown ad m c (U l) hx (by rw [U_length, hl, Nat.mul_one]) ?_ (U_one l) (by unfold maxLen; omega) (by omega) hbase ?_
    · intro j u hj
      have hp : 0 < (U l).length := by have := (List.getElem?_eq_some_iff.1 hj).1; omega
      obtain ⟨ad', e1, e2⟩ := cells_of_in hin hp
      obtain rfl := Option.some.inj e1
      exact e2 j u hj
    · intro v' w' h1 h2 _
      refine h v' w' ?_ h2
      subst hn hl
      show w'.ownsRow base e 1 v' (r ++ l).length (U (r ++ l))
      rw [List.length_append, U_append]
      exact h1

/-- the same, as the walk takes it -/
theorem wpList_append_in {P : Program} (w : World) {ops : Array Oper} {rest : List Oper} {o : Oper} {a : Act} {Q : Exit → Act → World → Prop} (hgd : o.guard = none) (s x : Operand) (t : TypeId)
    (ho : o.op = .call { callee := .builtin .append, args := #[s, x], argTypes := #[t, t] })
    (base : Nat) (e : TypeId) (i : TypeInfo) (ht : P.underlying t = some (.slice e)) (hi : P.info? e = some i) (hz : i.zero = some (.int .u8 0)) (hsize : i.size = 1) (hby : i.bytes = 1)
    (v : Value) (r : List UInt8) (n : Nat) (hn : r.length = n) (hs : a.eval s = v) (hown : w.ownsRow base e 1 v n (U r)) (ao : Option Addr) (m c : Nat) (l : List UInt8) (hx : a.eval x = .slice ao m c) (hin : In w ao m c l)
    (hbytes : n + m ≤ 140737488355328) (hbase : base ≤ w.heap.size)
    (h : ∀ v' w', Own e base w' v' (r ++ l) → w.grownBy w' v.ownBlock → wpList P ops Q rest (a.put o.dst v') w') : wpList P ops Q (o :: rest) a w :=
  wpList_plain hgd fun _ hK => wp_append_in w s x t ho base e i ht hi hz hsize hby v r n hn hs hown ao m c l hx hin hbytes hbase fun v' w' h1 h2 => hK _ _ (h v' w' h1 h2)

/-- the same, within a statement whose order is open, guarded or not -/
theorem step_append_in {P : Program} (w : World) {ops : Array Oper} {o : Oper} {a : Act} {K : Act → World → Prop} {Q : Exit → Act → World → Prop} {E : Prop} (hw : Region.wanted o (yielded ops a.tmps) = true) (s x : Operand) (t : TypeId)
    (ho : o.op = .call { callee := .builtin .append, args := #[s, x], argTypes := #[t, t] })
    (base : Nat) (e : TypeId) (i : TypeInfo) (ht : P.underlying t = some (.slice e)) (hi : P.info? e = some i) (hz : i.zero = some (.int .u8 0)) (hsize : i.size = 1) (hby : i.bytes = 1)
    (v : Value) (r : List UInt8) (n : Nat) (hn : r.length = n) (hs : a.eval s = v) (hown : w.ownsRow base e 1 v n (U r)) (ao : Option Addr) (m c : Nat) (l : List UInt8) (hx : a.eval x = .slice ao m c) (hin : In w ao m c l)
    (hbytes : n + m ≤ 140737488355328) (hbase : base ≤ w.heap.size)
    (h : ∀ v' w', Own e base w' v' (r ++ l) → w.grownBy w' v.ownBlock → K (a.put o.dst v') w') : if Region.wanted o (yielded ops a.tmps) = true then Oper.wp P o a w K Q else E := by
  rw [if_pos hw]
  exact wp_append_in w s x t ho base e i ht hi hz hsize hby v r n hn hs hown ao m c l hx hin hbytes hbase h

theorem own_size {e : TypeId} {B : Nat} {w : World} {v : Value} {l : List UInt8} {n : Nat} (hn : l.length = n) (h : Own e B w v l) : w.ownsRow B e 1 v n (U l) := by
  subst hn; exact h

/-- a new block of bytes, read -/
theorem in_new (w : World) (e : TypeId) (l : List UInt8) (hl : l.length ≤ 140737488355328) : In (w.alloc (.cells (U l).toArray e)) (some ⟨w.heap.size, 0, none⟩) l.length l.length l := by
  refine ⟨rfl, Nat.le_refl _, hl, by simp, fun _ => ⟨_, 0, rfl, by simp, fun i c hi => ?_⟩⟩
  have hlt : i < l.length := (List.getElem?_eq_some_iff.1 hi).1
  have hc := (List.getElem?_eq_some_iff.1 hi).2
  have e1 := World.cell?_alloc_mark w (U l).toArray e (0, 0) (0 + i)
  rw [e1, Nat.zero_add, List.getElem?_toArray, U_get l i hlt, hc]

/-- a slice of bytes that was read: what the walks are told of it, and its datum's length -/
theorem view_bytes {H : Type} {enc : TypeId × Value → H} {P : Program} {w : World} {t e : TypeId} {fuel : Nat} {a : Option Addr} {len cap : Nat} {d : DataW H} {p : List MemPlace}
    (ht : P.underlying t = some (.slice e)) (he : P.underlying e = some (.int .u8)) (hc : P.cellsOf e = 1) (h : DataW.trod enc P w 0 (fun _ => true) true fuel t (Value.slice a len cap).cells.toList = some (d, p)) :
    ∃ l, Arg w a len cap l ∧ (len = 0 ∨ ∃ el sp, d = .slice el sp ∧ el.length = len) := by
  rcases open_ints ht he hc h with ⟨hcs, _⟩ | ⟨x, l, c, zs, hcs, _, hl, hm, hz, hx, hcell, hwz⟩
  · simp [Value.cells] at hcs
    obtain ⟨rfl, rfl, rfl⟩ := hcs
    exact ⟨[], Arg.nil w, .inl rfl⟩
  · simp [Value.cells] at hcs
    obtain ⟨rfl, rfl, rfl⟩ := hcs
    have hz' : zs.length = cap := by simpa using hz
    obtain ⟨r, hr⟩ := arg_of_ints x len cap zs hl hm hz' hcell hwz
    simp only [Prod.mk.injEq] at hx
    refine ⟨r, hr, .inr ⟨_, _, hx.1, ?_⟩⟩
    simp [lits]; omega

end Go.Proofs.YtgdecjacbkicmaaDoor.Hsh
