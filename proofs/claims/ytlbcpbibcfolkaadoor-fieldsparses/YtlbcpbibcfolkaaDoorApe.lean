/-
  Layer 22 (fields): Escape of the program.
-/
import Derived.Test.YtlbcpbibcfolkaaDoorPar
import Derived.Deep.RegionLaw
namespace Go.Proofs.YtlbcpbibcfolkaaDoor.Oct
open Go.RowKit
set_option linter.unusedSimpArgs false
set_option linter.unusedVariables false

def digits : List UInt8 := [48, 49, 50, 51, 52, 53, 54, 55, 56, 57, 65, 66, 67, 68, 69, 70]
theorem digits_at (A : Nat) (h : A < (⟨#[48, 49, 50, 51, 52, 53, 54, 55, 56, 57, 65, 66, 67, 68, 69, 70]⟩ : ByteArray).size) : (⟨#[48, 49, 50, 51, 52, 53, 54, 55, 56, 57, 65, 66, 67, 68, 69, 70]⟩ : ByteArray)[A]'h = digits.getD A 0 := by
  have hA : A < digits.length := h
  show (#[48, 49, 50, 51, 52, 53, 54, 55, 56, 57, 65, 66, 67, 68, 69, 70] : Array UInt8)[A]'h = _
  rw [List.getD_eq_getElem?_getD, List.getElem?_eq_getElem hA]
  rfl
theorem and15f : ∀ x : Fin 256, bits BinOp.and IntKind.u8 (x.val : Int) 15 = ((x.val % 16 : Nat) : Int) := by decide +kernel
theorem and15 (X : Nat) (h : X < 256) : bits BinOp.and IntKind.u8 (X : Int) 15 = ((X % 16 : Nat) : Int) := and15f ⟨X, h⟩
/-- a byte, escaped -/
def escB (b : UInt8) : List UInt8 := if b = 32 then [43] else if plainI (b.toNat : Int) = true then [b] else [37, digits.getD (b.toNat / 16) 0, digits.getD (b.toNat % 16) 0]
def escL (l : List UInt8) : List UInt8 := l.flatMap escB
theorem escB_len (b : UInt8) : 1 ≤ (escB b).length ∧ (escB b).length ≤ 3 := by
  unfold escB
  split
  · simp
  · split <;> simp
theorem escL_app (l r : List UInt8) : escL (l ++ r) = escL l ++ escL r := by unfold escL; rw [List.flatMap_append]
theorem escL_len : ∀ l : List UInt8, l.length ≤ (escL l).length ∧ (escL l).length ≤ 3 * l.length
  | [] => by simp [escL]
  | b :: l => by
    have h1 := escB_len b
    have h2 := escL_len l
    show _ ≤ (escB b ++ escL l).length ∧ (escB b ++ escL l).length ≤ _
    rw [List.length_append, List.length_cons]
    omega
theorem own_lt {B : Nat} {w : World} {v : Value} {o : List UInt8} (h : Own 5 B w v o) {j : Nat} (hj : v.ownBlock = some j) : B ≤ j := by
  rcases h.2 with ⟨rfl, _⟩ | ⟨b, _, _, rfl, hB, _⟩
  · cases hj
  · have : b = j := Option.some.inj hj
    omega
theorem wpList_idx {ops : Array Oper} {rest : List Oper} {o : Oper} {a : Act} {w : World} {Q : Exit → Act → World → Prop} (hgd : o.guard = none) (x y : Operand) (hop : o.op = .index 9 x y) (s : BA) (i : Nat) (c : UInt8) (hx : a.eval x = .string s) (hy : a.eval y = iv (i : Int)) (h : s.data.toList[i]? = some c)
    (hk : wpList Tryd.prog ops Q rest (a.put o.dst (bv (c.toNat : Int))) w) : wpList Tryd.prog ops Q (o :: rest) a w := by
  refine wpList_plain hgd fun K hK => ?_
  have h1 := run_idx s i c h w
  unfold Oper.wp execOp
  simp only [hop, Sem.run_bind, Sem.run_pure, Result.andThen_ok, hx, hy, h1]
  exact hK _ _ hk
def ApE (B : Nat) (w : World) (v : Value) (l : List UInt8) (e : Ending) (w' : World) : Prop := ∃ v', e = .returned v' ∧ Own 5 B w' v' l ∧ w.grownBy w' v.ownBlock
set_option maxRecDepth 100000 in
set_option maxHeartbeats 1000000 in
theorem appE_one {w : World} {B : Nat} {v : Value} {o : List UInt8} (h : Own 5 B w v o) (hB : B ≤ w.heap.size) (hl : o.length + 3 ≤ 140737488355328) (b c : UInt8) (hb : b = 32 ∧ c = 43 ∨ b ≠ 32 ∧ plainI (b.toNat : Int) = true ∧ c = b) : Calls Tryd.prog 29 #[v, bv (b.toNat : Int)] w (ApE B w v (o ++ [c])) := by
  obtain ⟨i0, hi, hz0, hz1, hz2⟩ := info5
  obtain ⟨W4, hW4⟩ : ∃ W4, w.alloc (.cells #[bv (c.toNat : Int)] 5) = W4 := ⟨_, rfl⟩
  have hb4 : Below w.heap.size w W4 := by rw [← hW4]; exact below_al _ _
  have HH : Hid (W4.ownsRow B 5 1 v o.length (U o) ∧ In W4 (some ⟨w.heap.size, 0, none⟩) 1 1 [c] ∧ B ≤ W4.heap.size ∧ o.length + 1 ≤ 140737488355328 ∧ Below w.heap.size w W4) := ⟨h.below hb4 (Nat.le_refl _), by rw [← hW4]; exact in_new w 5 [c] (by simp), Nat.le_trans hB hb4.size, by omega, hb4⟩
  have HI5 : Hid (Tryd.prog.info? 5 = some i0 ∧ i0.zero = some (.int .u8 0) ∧ i0.size = 1 ∧ i0.bytes = 1) := ⟨hi, hz0, hz1, hz2⟩
  clear h hB hl hb4 hi hz0 hz1 hz2
  rcases hb with ⟨rfl, rfl⟩ | ⟨h1, h2, rfl⟩
  · change w.alloc (.cells #[bv 43] 5) = W4 at hW4
    go_enter Tryd.func29, Tryd.ntmps29
    go_wp2_with (with_reducible change wpList _ _ _ ({ dst := some 14, op := _, type := _, pos := _, after := _, guard := _ } :: _) _ _; refine Hid.out ?_)
    show wpList _ _ _ _ _ _
    refine wpList_append_in _ rfl (.tmp 11) (.tmp 13) 51 rfl B 5 i0 Tryd.underlying51 HI5.out.1 HI5.out.2.1 HI5.out.2.2.1 HI5.out.2.2.2 v o o.length rfl rfl HH.out.1 (some ⟨w.heap.size, 0, none⟩) 1 1 [43] rfl HH.out.2.1 HH.out.2.2.2.1 HH.out.2.2.1 ?_
    intro v5 W5 ho5 hg5
    have HF : Hid (Own 5 B W5 v5 (o ++ [43]) ∧ w.grownBy W5 v.ownBlock) := ⟨ho5, (gr_of HH.out.2.2.2.2).trans hg5⟩
    clear ho5 hg5
    go_wp2
    go_ret
    exact ⟨_, rfl, HF.out⟩
  · obtain ⟨x, hx⟩ : ∃ x : Int, (c.toNat : Int) = x := ⟨_, rfl⟩
    have n1 : (x == 32) = false := by rw [beq_eq_false_iff_ne, ← hx]; exact fun h => h1 (UInt8.toNat_inj.1 (by show c.toNat = 32; omega))
    rw [hx] at h2 hW4 ⊢
    have HP : Hid (plainI x = true) := h2
    clear h1 h2 hx
    go_enter Tryd.func29, Tryd.ntmps29
    go_wp2_with fail
    refine (plain_is x w true HP.out).mono ?_
    rintro e W ⟨rfl, rfl⟩
    go_wp2_with (with_reducible change wpList _ _ _ ({ dst := some 14, op := _, type := _, pos := _, after := _, guard := _ } :: _) _ _; refine Hid.out ?_)
    show wpList _ _ _ _ _ _
    refine wpList_append_in _ rfl (.tmp 11) (.tmp 13) 51 rfl B 5 i0 Tryd.underlying51 HI5.out.1 HI5.out.2.1 HI5.out.2.2.1 HI5.out.2.2.2 v o o.length rfl rfl HH.out.1 (some ⟨w.heap.size, 0, none⟩) 1 1 [c] rfl HH.out.2.1 HH.out.2.2.2.1 HH.out.2.2.1 ?_
    intro v5 W5 ho5 hg5
    have HF : Hid (Own 5 B W5 v5 (o ++ [c]) ∧ w.grownBy W5 v.ownBlock) := ⟨ho5, (gr_of HH.out.2.2.2.2).trans hg5⟩
    clear ho5 hg5
    go_wp2
    go_ret
    exact ⟨_, rfl, HF.out⟩
#print axioms appE_one
set_option maxRecDepth 100000 in
set_option maxHeartbeats 1000000 in
theorem appE_hex {w : World} {B : Nat} {v : Value} {o : List UInt8} (h : Own 5 B w v o) (hB : B ≤ w.heap.size) (hl : o.length + 3 ≤ 140737488355328) (b : UInt8) (h1 : b ≠ 32) (h2 : plainI (b.toNat : Int) = false) : Calls Tryd.prog 29 #[v, bv (b.toNat : Int)] w (ApE B w v (o ++ [37, digits.getD (b.toNat / 16) 0, digits.getD (b.toNat % 16) 0])) := by
  obtain ⟨i0, hi, hz0, hz1, hz2⟩ := info5
  have HOW : Hid (Own 5 B w v o ∧ B ≤ w.heap.size ∧ o.length + 3 ≤ 140737488355328) := ⟨h, hB, hl⟩
  have HXL : Hid (b.toNat < 256) := b.toNat_lt
  obtain ⟨X, hX⟩ : ∃ X, b.toNat = X := ⟨_, rfl⟩
  have n1 : ((X : Int) == 32) = false := by rw [beq_eq_false_iff_ne, ← hX]; exact fun h => h1 (UInt8.toNat_inj.1 (by show b.toNat = 32; omega))
  rw [hX] at h2 HXL ⊢
  have HP : Hid (plainI (X : Int) = false) := h2
  have q2 : (X : Int) < 256 := by have := HXL.out; omega
  obtain ⟨A, hA⟩ : ∃ A, A = X / 16 := ⟨_, rfl⟩
  obtain ⟨D, hD⟩ : ∃ D, D = X % 16 := ⟨_, rfl⟩
  have hA1 : (X : Int) / 16 = (A : Int) := by omega
  have hB1 : bits BinOp.and IntKind.u8 (X : Int) 15 = (D : Int) := by rw [hD]; exact and15 X HXL.out
  have hA2 : A < 16 := by have := HXL.out; omega
  have hB2 : D < 16 := by omega
  have hA3 : (A : Int) < 16 := by omega
  have hB3 : (D : Int) < 16 := by omega
  rw [← hA, ← hD]
  have hg1 := digits_at A
  have hg2 := digits_at D
  generalize digits.getD A 0 = d1 at hg1 ⊢
  generalize digits.getD D 0 = d2 at hg2 ⊢
  clear h hB hl h1 h2 hX hA hD
  go_enter Tryd.func29, Tryd.ntmps29
  go_wp2_with fail
  refine (plain_is (X : Int) w false HP.out).mono ?_
  rintro e W ⟨rfl, rfl⟩
  go_wp2_with fail
  have HI : Hid (In (w.drew.alloc (.cells (U [37, d1, d2]).toArray 5)) (some ⟨w.drew.heap.size, 0, none⟩) 3 3 [37, d1, d2]) := in_new w.drew 5 [37, d1, d2] (by simp)
  have HO : Hid ((w.drew.alloc (.cells (U [37, d1, d2]).toArray 5)).ownsRow B 5 1 v o.length (U o)) := World.ownsRow.alloc (show w.drew.ownsRow B 5 1 v o.length (U o) from HOW.out.1) _
  go_region_law (refine step_append_in _ (by rfl) (.tmp 15) (.tmp 22) 51 rfl B 5 i0 Tryd.underlying51 hi hz0 hz1 hz2 v o o.length rfl rfl HO.out (some ⟨w.drew.heap.size, 0, none⟩) 3 3 [37, d1, d2] rfl HI.out (by have := HOW.out; omega) (by have := HOW.out.2.1; simp; omega) ?_; intro v' w' ho' hg')
  all_goals
    have HF : Hid (Own 5 B w' v' (o ++ [37, d1, d2]) ∧ w.grownBy w' v.ownBlock) := ⟨ho', (gr_of (below_tr (below_drew0 w) (below_al w.drew _))).trans hg'⟩
    clear ho' hg'
    go_wp2
    go_ret
    exact ⟨_, rfl, HF.out⟩
#print axioms appE_hex
theorem appE_is {w : World} {B : Nat} {v : Value} {o : List UInt8} (h : Own 5 B w v o) (hB : B ≤ w.heap.size) (hl : o.length + 3 ≤ 140737488355328) (b : UInt8) : Calls Tryd.prog 29 #[v, bv (b.toNat : Int)] w (ApE B w v (o ++ escB b)) := by
  unfold escB
  by_cases h1 : b = 32
  · rw [if_pos h1]
    exact appE_one h hB hl b 43 (.inl ⟨h1, rfl⟩)
  · rw [if_neg h1]
    cases h2 : plainI (b.toNat : Int) with
    | true => rw [if_pos rfl]; exact appE_one h hB hl b b (.inr ⟨h1, h2, rfl⟩)
    | false => rw [if_neg (by simp)]; exact appE_hex h hB hl b h1 h2
set_option maxRecDepth 100000 in
set_option maxHeartbeats 1000000 in
theorem escape_is (s : BA) (hs : s.size ≤ 20000000) (w : World) : Calls Tryd.prog 12 #[.string s] w fun e w' => e = .returned (.string ⟨(escL s.data.toList).toArray⟩) ∧ Below w.heap.size w w' := by
  obtain ⟨i0, hi, hz0, hz1, hz2⟩ := info5
  obtain ⟨n, hn⟩ : ∃ n, s.size = n := ⟨_, rfl⟩
  have qn : (s.size : Int) = (n : Int) := by omega
  have qn2 : (n : Int) ≤ 20000000 := by omega
  obtain ⟨L, hL⟩ : ∃ L, s.data.toList = L := ⟨_, rfl⟩
  have HL : Hid (s.data.toList = L ∧ L.length = n ∧ n ≤ 20000000) := ⟨hL, by rw [← hL, ← hn]; rfl, by omega⟩
  obtain ⟨S, hS⟩ : ∃ S : BA, ⟨(escL L).toArray⟩ = S := ⟨_, rfl⟩
  have HS : Hid ((⟨(escL L).toArray⟩ : BA) = S) := hS
  rw [hL, hS]
  clear hs hL hS hn
  go_enter Tryd.func12, Tryd.ntmps12
  go_wp2_with (at_make; refine wpList_make_two _ rfl _ _ 51 rfl 5 i0 Tryd.underlying51 hi hz0 hz1 hz2 _ _ _ _ 0 n rfl rfl (by omega) (by omega) (by omega) (by omega) ?_)
  intro w1 hrow1 hsz1 hb1
  have HO1 : Hid (Own 5 w.heap.size w1 (.slice (some ⟨w.heap.size, 0, none⟩) 0 n) []) := ⟨rfl, .inr ⟨_, n, _, rfl, Nat.le_refl _, hrow1.out, Nat.zero_le _, by unfold maxLen; omega, by simp [noughts], rfl⟩⟩
  have HB1 : Hid (Below w.heap.size w w1) := hb1
  clear hrow1 hsz1 hb1
  go_wp2_with fail
  go_loopw [10, 3] (fun i v wr => ∃ (t : Nat) (x : Value), i = .int .i64 t ∧ x = v ∧ t ≤ n ∧ Hid (Own 5 w.heap.size wr x (escL (L.take t))) ∧ Hid (Below w.heap.size w wr)) (fun i _ _ => n - (intOf i).toNat)
  case atStart => exact ⟨0, _, rfl, rfl, by omega, HO1.out, HB1.out⟩
  case round =>
    obtain ⟨t, v, rfl, rfl, ht, ho, hb⟩ := hrel
    by_cases hlt : t = n
    · subst hlt
      have hfull : L.take t = L := List.take_of_length_le (by rw [HL.out.2.1]; exact Nat.le_refl _)
      rw [hfull] at ho
      have hHL : (escL L).length ≤ 140737488355328 := by have := (escL_len L).2; have := HL.out.2; omega
      obtain ⟨ah, ch, rfl, hinh, -⟩ := own_in ho.out hHL
      have hcv := string_in Tryd.underlying51 Tryd.underlying5 Tryd.underlying9 hinh
      rw [HS.out] at hcv
      have HB : Hid (Below w.heap.size w wr) := hb
      generalize (escL L).length = K at *
      clear hinh hHL
      go_wp2
      go_ret
      exact ⟨rfl, HB.out⟩
    · have q1 : (t : Int) < (n : Int) := by omega
      have HT : Hid (t < n) := by show t < n; omega
      have htl : t < L.length := by rw [HL.out.2.1]; exact HT.out
      obtain ⟨c, hc⟩ : ∃ c, L[t]? = some c := ⟨_, List.getElem?_eq_getElem htl⟩
      have HC : Hid (s.data.toList[t]? = some c ∧ escL (L.take (t + 1)) = escL (L.take t) ++ escB c ∧ (escL (L.take t)).length + 3 ≤ 140737488355328) := ⟨by rw [HL.out.1]; exact hc, by rw [List.take_add_one, hc, escL_app]; simp [escL], by have h3 := (escL_len (L.take t)).2; rw [List.length_take] at h3; have := HL.out.2; omega⟩
      have hix := run_idx s t c HC.out.1
      have HO : Hid (Own 5 w.heap.size wr v (escL (L.take t)) ∧ Below w.heap.size w wr) := ⟨ho.out, hb.out⟩
      clear htl hc hlt ho hb
      go_wp2_with (with_reducible change wpList _ _ _ ({ dst := some 16, op := _, type := _, pos := _, after := _, guard := _ } :: _) _ _; refine Hid.out ?_)
      show wpList _ _ _ _ _ _
      refine wpList_idx rfl (.tmp 14) (.tmp 15) rfl s t c rfl rfl HC.out.1 ?_
      go_wp2_with fail
      refine (appE_is HO.out.1 HO.out.2.size HC.out.2.2 c).mono ?_
      rintro e W2 ⟨v', rfl, ho2, hg2⟩
      have HF : Hid (t + 1 ≤ n ∧ Own 5 w.heap.size W2 v' (escL (L.take (t + 1))) ∧ Below w.heap.size w W2) := ⟨HT.out, by rw [HC.out.2.1]; exact ho2, HO.out.2.grown hg2 HO.out.2.size (fun j hj => (own_lt HO.out.1 hj))⟩
      clear ho2 hg2
      go_wp2
      go_roundw
      case rel => exact ⟨t + 1, _, rfl, rfl, HF.out.1, HF.out.2.1, HF.out.2.2⟩
      case measure => show n - (t + 1) < n - t; have := HF.out.1; omega
#print axioms escape_is
end Go.Proofs.YtlbcpbibcfolkaaDoor.Oct
