/-
  '[]byte(s)' of any string, and an append behind bytes of the call's own that lie with room or without. Of no program.
-/
import Derived.Test.YtchblcfbllcbmaaDoorSlices
import Derived.ArgAppend
import Derived.Laws.IdiomCopy
import Derived.Lib.LazyBuf
namespace Go.Proofs.YtchblcfbllcbmaaDoor.Oct
open Go.RowKit

/-- the cells behind the elements may be written -/
def Spare (w : World) (b n cap : Nat) : Prop := ∀ j, n ≤ j → j < cap → (w.cell? ⟨b, j, none⟩).isSome = true ∧ w.frozen? ⟨b, j, none⟩ = false

theorem bytesRow_size (s : ByteArray) (cap : Nat) (h : s.size ≤ cap) : (bytesRow s cap).size = cap := by
  have e : s.data.size = s.size := rfl
  simp only [bytesRow, Array.size_append, Array.size_map, Array.size_replicate]
  omega

/-- '[]byte(s)' -/
theorem label_made {P : Program} (w : World) (src dst e : TypeId) (s : ByteArray) (hs : P.underlying src = some .string) (hd : P.underlying dst = some (.slice e)) (he : P.underlying e = some (.int .u8)) (hsz : s.size ≤ 140737488355328) :
    ∃ cap W, (convert src dst (.string s)).run P w = .ok (.slice (some ⟨w.heap.size, 0, none⟩) s.size cap) W ∧ Hid (In W (some ⟨w.heap.size, 0, none⟩) s.size cap s.data.toList) ∧ Hid (Spare W w.heap.size s.size cap) ∧ Hid (Below w.heap.size w W) ∧ Hid (W.heap.size = w.heap.size + 1) := by
  have hge := grownCap_ge w s.size 0 e
  refine ⟨grownCap w s.size 0 e, _, run_bytes_of_string w src dst e s hs hd he, ?_, ?_, ?_, ?_⟩
  · refine ⟨rfl, hge, hsz, by simp, fun _ => ⟨w.heap.size, 0, rfl, by simp, fun i c hc => ?_⟩⟩
    have hlt : i < s.data.size := by have := (List.getElem?_eq_some_iff.1 hc).1; simpa using this
    have e1 := World.cell?_alloc_mark w.drew (bytesRow s (grownCap w s.size 0 e)) e ((bytesRow s (grownCap w s.size 0 e)).size, (bytesRow s (grownCap w s.size 0 e)).size + 1) i
    rw [Nat.zero_add]
    refine e1.trans ?_
    rw [bytesRow_at s _ i hlt]
    have e2 : s.data[i] = c := by
      rw [Array.getElem?_toList, Array.getElem?_eq_getElem hlt] at hc
      exact Option.some.inj hc
    rw [e2]
  · intro j h1 h2
    have e1 := World.cell?_alloc_mark w.drew (bytesRow s (grownCap w s.size 0 e)) e ((bytesRow s (grownCap w s.size 0 e)).size, (bytesRow s (grownCap w s.size 0 e)).size + 1) j
    have e2 := World.frozen?_alloc_mark w.drew (bytesRow s (grownCap w s.size 0 e)) e (bytesRow s (grownCap w s.size 0 e)).size ((bytesRow s (grownCap w s.size 0 e)).size + 1) j
    have hsz := bytesRow_size s (grownCap w s.size 0 e) hge
    refine ⟨?_, ?_⟩
    · refine (congrArg Option.isSome e1).trans ?_
      rw [Array.getElem?_eq_getElem (by rw [hsz]; exact h2)]
      rfl
    · refine e2.trans ?_
      rw [hsz]
      simp
      omega
  · have h := (Below.refl w.heap.size w.drew).alloc (Nat.le_refl _) (.cells (bytesRow s (grownCap w s.size 0 e)) e ((bytesRow s (grownCap w s.size 0 e)).size, (bytesRow s (grownCap w s.size 0 e)).size + 1))
    exact ⟨h.os, h.tape, h.output, h.size, h.block⟩
  · show _ = _
    simp

theorem Spare.alloc {w : World} {b n cap : Nat} (h : Spare w b n cap) (hb : b < w.heap.size) (o : Obj) : Spare (w.alloc o) b n cap := by
  intro j h1 h2
  have hB := (Below.refl w.heap.size w).alloc (Nat.le_refl _) o
  rw [hB.cell (p := ⟨b, j, none⟩) hb, hB.frozen (p := ⟨b, j, none⟩) hb]
  exact h j h1 h2

/-- 'append(v, r...)' behind bytes of the call's own: at the operation -/
theorem wp_append_spare {P : Program} (w : World) {o : Oper} {a : Act} {K : Act → World → Prop} {Q : Exit → Act → World → Prop} (s x : Operand) (t : TypeId)
    (ho : o.op = .call { callee := .builtin .append, args := #[s, x], argTypes := #[t, t] })
    (e : TypeId) (i : TypeInfo) (ht : P.underlying t = some (.slice e)) (hi : P.info? e = some i) (hz : i.zero = some (.int .u8 0)) (hsize : i.size = 1) (hby : i.bytes = 1)
    (B b n cap : Nat) (l r : List UInt8) (hB : B ≤ b) (hb : b < w.heap.size) (hs : a.eval s = .slice (some ⟨b, 0, none⟩) n cap) (hin : In w (some ⟨b, 0, none⟩) n cap l) (hsp : Spare w b n cap)
    (ad : Addr) (m c : Nat) (hx : a.eval x = .slice (some ad) m c) (hr : In w (some ad) m c r) (hm : n + m ≤ 140737488355328)
    (h : ∀ a' c' w', Hid (In w' a' (n + m) c' (l ++ r)) → Hid (Below B w w') → K (a.put o.dst (.slice a' (n + m) c')) w') : Oper.wp P o a w K Q := by
  have hl := hin.1
  have hrl := hr.1
  have holds : ∀ j u, (U l)[j]? = some u → w.cell? ⟨b, 0 + j, none⟩ = some u := by
    intro j u hj
    have hlt : j < l.length := by have := (List.getElem?_eq_some_iff.1 hj).1; rwa [U_length] at this
    obtain ⟨b', off', e1, _, e3⟩ := hin.2.2.2.2 (by omega)
    simp only [Option.some.injEq, Addr.mk.injEq, and_true] at e1
    obtain ⟨rfl, rfl⟩ := e1
    rw [U_get l j hlt] at hj
    rw [e3 j l[j] (List.getElem?_eq_getElem hlt)]
    exact hj
  have hnews : ∀ j u, (U r)[j]? = some u → w.cell? (ad.add j) = some u := by
    intro j u hj
    have hp : 0 < (U r).length := by have := (List.getElem?_eq_some_iff.1 hj).1; omega
    obtain ⟨ad', e1, e2⟩ := cells_of_in hr hp
    obtain rfl := Option.some.inj e1
    exact e2 j u hj
  by_cases hroom : n + m ≤ cap
  · have hthere : ∀ j, j < (U r).length → (w.cell? ⟨b, 0 + n * i.size + j, none⟩).isSome = true := by
      intro j hj
      rw [U_length] at hj
      rw [hsize, show 0 + n * 1 + j = n + j by omega]
      exact (hsp (n + j) (by omega) (by omega)).1
    have hfree : ∀ j, j < (U r).length → w.frozen? ⟨b, 0 + n * i.size + j, none⟩ = false := by
      intro j hj
      rw [U_length] at hj
      rw [hsize, show 0 + n * 1 + j = n + j by omega]
      exact (hsp (n + j) (by omega) (by omega)).2
    have hrun := run_append_room_cells (P := P) w t o.type e i ht hi b 0 n cap ad m c (U r) (by rw [U_length, hsize]; omega) hnews (U_one r) hroom hthere hfree
    unfold Oper.wp
    simp [execOp, ho, resolve, invoke, builtin, hs, hx, hrun, Result.andThen]
    have hthere2 : ∀ j, j < (U r).length → (w.cell? ⟨b, n + j, none⟩).isSome = true := by
      intro j hj
      rw [U_length] at hj
      exact (hsp (n + j) (by omega) (by omega)).1
    rw [hsize, Nat.mul_one]
    have hbs : Below B w (w.setCells b n (U r)) := below_setCells hB (U r) n w (Below.refl _ _)
    refine h _ _ _ ?_ hbs
    refine ⟨by rw [List.length_append]; omega, by omega, hm, by simp, fun _ => ⟨b, 0, rfl, Nat.lt_of_lt_of_le hb hbs.size, fun j y hy => ?_⟩⟩
    rw [Nat.zero_add]
    rcases Nat.lt_or_ge j n with hj | hj
    · rw [World.cell?_setCells_out b (U r) n w _ (fun _ _ => .inl hj)]
      rw [List.getElem?_append_left (by omega)] at hy
      have := holds j (.int .u8 (y.toNat : Int)) (by rw [U_get l j (by omega)]; rw [List.getElem?_eq_getElem (by omega)] at hy; rw [Option.some.inj hy])
      rwa [Nat.zero_add] at this
    · rw [List.getElem?_append_right (by omega), hl] at hy
      have hlt : j - n < r.length := (List.getElem?_eq_some_iff.1 hy).1
      have e2 := World.cell?_setCells_in b (U r) n w hthere2 (j - n) (by rw [U_length]; exact hlt)
      rw [show n + (j - n) = j by omega] at e2
      rw [e2]
      have e3 : (U r)[j - n]? = some (.int .u8 (y.toNat : Int)) := by rw [U_get r _ hlt]; rw [List.getElem?_eq_getElem hlt] at hy; rw [Option.some.inj hy]
      rw [List.getElem?_eq_getElem (by rw [U_length]; exact hlt)] at e3
      exact e3
  · obtain ⟨v', w', hrun, r1, r2⟩ := run_append_arg_grows (P := P) w t o.type e i (.int .u8 0) 1 1 ht hi hz hsize hby rfl (by omega) ⟨b, 0, none⟩ n cap (U l) (by rw [U_length]; omega) (fun j u hj => by rw [Addr.add_lit]; exact holds j u hj) ad m c (U r) (by rw [U_length]; omega) hnews (by omega) (by unfold maxLen; omega) (by omega)
    unfold Oper.wp
    simp [execOp, ho, resolve, invoke, builtin, hs, hx, hrun, Result.andThen]
    have hown : Own e w.heap.size w' v' (l ++ r) := by
      show w'.ownsRow w.heap.size e 1 v' (l ++ r).length (U (l ++ r))
      rw [List.length_append, U_append, hl, hrl]
      exact r1
    obtain ⟨a', c', hv, hin', -⟩ := own_in hown (by rw [List.length_append]; omega)
    rw [List.length_append, hl, hrl] at hv hin'
    subst hv
    exact h _ _ _ hin' ((Below.refl _ w).grown r2 (by omega) (by intro k hk; cases hk))

/-- '[]byte(s)', as the walk takes it -/
theorem wpList_conv {P : Program} {w w' : World} {ops : Array Oper} {rest : List Oper} {o : Oper} {a : Act} {Q : Exit → Act → World → Prop} (hw : Region.wanted o (yielded ops a.tmps) = true) (x : Operand) (src dst : TypeId) (ho : o.op = .convert src dst x) (v v' : Value) (hx : a.eval x = v)
    (hrun : (convert src dst v).run P w = .ok v' w') (h : wpList P ops Q rest (a.put o.dst v') w') : wpList P ops Q (o :: rest) a w := by
  refine Go.BigFrame.wpList_want hw fun K hK => ?_
  unfold Oper.wp
  simp [execOp, ho, hx, hrun, Result.andThen]
  exact hK _ _ h
/-- an append behind bytes of the call's own, as the walk takes it -/
theorem wpList_append_spare {P : Program} (w : World) {ops : Array Oper} {rest : List Oper} {o : Oper} {a : Act} {Q : Exit → Act → World → Prop} (hw : Region.wanted o (yielded ops a.tmps) = true) (s x : Operand) (t : TypeId)
    (ho : o.op = .call { callee := .builtin .append, args := #[s, x], argTypes := #[t, t] })
    (e : TypeId) (i : TypeInfo) (ht : P.underlying t = some (.slice e)) (hi : P.info? e = some i) (hz : i.zero = some (.int .u8 0)) (hsize : i.size = 1) (hby : i.bytes = 1)
    (B b n cap : Nat) (l r : List UInt8) (hB : B ≤ b) (hb : b < w.heap.size) (hs : a.eval s = .slice (some ⟨b, 0, none⟩) n cap) (hin : In w (some ⟨b, 0, none⟩) n cap l) (hsp : Spare w b n cap)
    (ad : Addr) (m c : Nat) (hx : a.eval x = .slice (some ad) m c) (hr : In w (some ad) m c r) (hm : n + m ≤ 140737488355328)
    (h : ∀ a' c' w', Hid (In w' a' (n + m) c' (l ++ r)) → Hid (Below B w w') → wpList P ops Q rest (a.put o.dst (.slice a' (n + m) c')) w') : wpList P ops Q (o :: rest) a w :=
  Go.BigFrame.wpList_want hw fun _ hK => wp_append_spare w s x t ho e i ht hi hz hsize hby B b n cap l r hB hb hs hin hsp ad m c hx hr hm fun a' c' w' h1 h2 => hK _ _ (h a' c' w' h1 h2)
#print axioms wpList_conv
#print axioms wpList_append_spare
end Go.Proofs.YtchblcfbllcbmaaDoor.Oct
