/-
  Layer 15 (people): the reference's With; texts that rise.
-/
import Derived.Test.YtfickhhfhdhcbaaRfa
import Derived.Sort.Walk0
namespace Go.Proofs.Ytfickhhfhdhcbaa.Oct
open Go.RowKit
set_option linter.unusedSimpArgs false
set_option linter.unusedVariables false

abbrev BA := ByteArray
def bk (s : BA) : Hs := s.data.toList
theorem hv_bk (s : BA) : hv (bk s) = .string s := rfl
theorem bk_inj {s t : BA} (h : bk s = bk t) : s = t := by
  have : s.data = t.data := Array.toList_inj.1 h
  cases s; cases t; simpa using this
theorem bk_len (s : BA) : (bk s).length = s.size := rfl
theorem toList_bk (s : BA) : s.toList = bk s := ByteArray.toList_eq s
theorem eq_iff (s t : BA) : (s.toList == t.toList) = decide (s = t) := by
  rw [toList_bk, toList_bk]
  by_cases h : s = t
  · subst h; simp
  · have : bk s ≠ bk t := fun e => h (bk_inj e)
    simp [h, this]
/-- texts that are read: a slice's elements are l -/
def Strs (w : World) (a : Option Addr) (n : Nat) (l : List ByteArray) : Prop :=
  l.length = n ∧ (0 < n → ∃ b off, a = some ⟨b, off, none⟩ ∧ b < w.heap.size ∧ ∀ i x, l[i]? = some x → w.cell? ⟨b, off + i, none⟩ = some (.string x))
theorem Strs.below {w w' : World} {a : Option Addr} {n : Nat} {l : List ByteArray} (h : Strs w a n l) (hb : Below w.heap.size w w') : Strs w' a n l := by
  refine ⟨h.1, fun hp => ?_⟩
  obtain ⟨b, off, e1, e2, e3⟩ := h.2 hp
  exact ⟨b, off, e1, Nat.lt_of_lt_of_le e2 hb.size, fun i c hc => (hb.cell (p := ⟨b, off + i, none⟩) e2).trans (e3 i c hc)⟩

/-- a slice's head -/
structure Sl where
  a : Option Addr
  n : Nat
  c : Nat
/-- texts as cells -/
def strC (l : List BA) : List Value := l.map fun s => .string s
theorem strC_one (l : List BA) : ∀ u ∈ strC l, u.oneCell' = true := by
  intro u hu
  obtain ⟨s, _, rfl⟩ := List.mem_map.1 hu
  rfl
theorem strC_app (l k : List BA) : strC (l ++ k) = strC l ++ strC k := by simp [strC]
theorem ownsRow_below {w w' : World} {B e sz n : Nat} {v : Value} {cs : List Value} (h : w.ownsRow B e sz v n cs) (hb : Below w.heap.size w w') : w'.ownsRow B e sz v n cs := by
  refine ⟨h.1, ?_⟩
  rcases h.2 with hn | ⟨g, cap, cur, rfl, hB, hbk, hr⟩
  · exact .inl hn
  · exact .inr ⟨g, cap, cur, rfl, hB, (hb.block g (lt_of_block hbk)).trans hbk, hr⟩
theorem empty_row (w : World) (e sz : Nat) : (w.alloc (.cells #[] e)).ownsRow w.heap.size e sz (.slice (some ⟨w.heap.size, 0, none⟩) 0 0) 0 [] :=
  ⟨by simp, .inr ⟨w.heap.size, 0, #[], rfl, Nat.le_refl _, heap_alloc_new w _, Nat.le_refl _, by unfold maxLen; omega, by simp, by simp⟩⟩
theorem range_new (w : World) (cs : List Value) (t : TypeId) : (w.alloc (.cells cs.toArray t)).rangeAt w.heap.size 0 cs := by
  have hb : Blk (w.alloc (.cells cs.toArray t)) w.heap.size t cs := by simpa using Blk.new w cs.toArray t
  intro j v hj
  rw [Nat.zero_add]
  exact hb.cell hj
theorem strs_new (w : World) (s : BA) : Strs (w.alloc (.cells #[.string s] 9)) (some ⟨w.heap.size, 0, none⟩) 1 [s] :=
  ⟨rfl, fun _ => ⟨w.heap.size, 0, rfl, by simp, fun i x hx => range_new w [.string s] 9 i _ (by
    cases i with
    | zero => simp at hx; subst hx; rfl
    | succ i => simp at hx)⟩⟩
theorem run_bs27_0 (W : World) : (Instr.buildSlice 27 0 #[]).run Try.prog W = .ok (.slice (some ⟨W.heap.size, 0, none⟩) 0 0) (W.alloc (.cells #[] 9)) := by kernel_rfl
theorem info9' : ∃ i z, Try.prog.info? 9 = some i ∧ i.zero = some z ∧ i.size = 1 ∧ i.bytes = 16 ∧ z.cells.size = 1 := by
  obtain ⟨i, hi, he⟩ := Option.map_eq_some_iff.1 info9
  simp only [Prod.mk.injEq] at he
  exact ⟨i, _, hi, he.1, he.2.1, he.2.2, rfl⟩
/-- a row of the call's own behind an append to one -/
theorem wpList_append_mine {ops : Array Oper} {rest : List Oper} {o : Oper} {a : Act} {Q : Exit → Act → World → Prop} (hgd : o.guard = none) (s x : Operand)
    (hop : o.op = .call { callee := .builtin .append, args := #[s, x], argTypes := #[27, 27] }) (w : World) (B : Nat) (v : Value) (n : Nat) (l : List BA) (h : w.ownsRow B 9 1 v n (strC l)) (ao : Option Addr) (q c : Nat) (k : List BA) (hsv : a.eval s = v) (hx : a.eval x = .slice ao q c) (ho : Strs w ao q k) (hB : B ≤ w.heap.size) (hn : n + q ≤ 1000000)
    (hk : ∀ v' w', Hid (w'.ownsRow B 9 1 v' (n + q) (strC (l ++ k))) → Hid (Below B w w') → wpList Try.prog ops Q rest (a.put o.dst v') w') : wpList Try.prog ops Q (o :: rest) a w := by
  obtain ⟨i0, z0, k0, k1, k2, k3, k4⟩ := info9'
  refine wpList_plain hgd fun K hK => ?_
  have hlen : k.length = q := ho.1
  by_cases hq : q = 0
  · subst hq
    obtain rfl := List.eq_nil_of_length_eq_zero hlen
    obtain ⟨a', cap, rfl, hnc⟩ : ∃ a cap, v = .slice a n cap ∧ n ≤ cap := by
      rcases h.2 with ⟨rfl, rfl⟩ | ⟨g, cap, cur, rfl, _, _, hn, _⟩
      · exact ⟨none, 0, rfl, Nat.le_refl _⟩
      · exact ⟨_, cap, rfl, hn⟩
    have hr := run_append_zero (P := Try.prog) w 27 o.type 9 i0 Try.underlying27 k0 a' ao n cap c hnc
    unfold Oper.wp execOp
    simp only [hop, resolve, invoke, builtin, Sem.run_bind, Sem.run_pure, Result.andThen_ok, List.map_toArray, List.map_cons, List.map_nil, hsv, hx, hr]
    exact hK _ _ (hk _ w (by show World.ownsRow _ _ _ _ _ _ _; simpa using h) (Below.refl _ _))
  · obtain ⟨g, off, rfl, _, hc⟩ := ho.2 (by omega)
    obtain ⟨v', w', hr, h2, h3, _⟩ := run_append_own_wide (P := Try.prog) w B 27 o.type 9 i0 z0 1 i0.bytes Try.underlying27 k0 k1 k2 rfl k4 (by omega) v n (strC l) h ⟨g, off, none⟩ q c (strC k) (by simp [strC, hlen]) (fun j u hu => by
      rw [Addr.add_lit]
      simp only [strC, List.getElem?_map] at hu
      obtain ⟨s, hs, rfl⟩ := Option.map_eq_some_iff.1 hu
      exact hc j s hs) (strC_one _) (by unfold maxLen; omega) (by rw [k3]; omega) hB
    unfold Oper.wp execOp
    simp only [hop, resolve, invoke, builtin, Sem.run_bind, Sem.run_pure, Result.andThen_ok, List.map_toArray, List.map_cons, List.map_nil, hsv, hx, hr]
    refine hK _ _ (hk v' w' (by rw [strC_app]; exact h2) ⟨h3.os, h3.tape, h3.output, h3.size, fun k hk => h3.block k (by omega) fun e => ?_⟩)
    have := (h.lt k e.symm).1
    omega
theorem lt_irr (a : Hs) : ¬ a < a := List.lt_irrefl a
theorem lt_tr {a b c : Hs} (h : a < b) (k : b < c) : a < c := List.lt_trans h k
theorem lt_or (a b : Hs) : a < b ∨ a = b ∨ b < a := by
  rcases List.le_total a b with h | h
  · by_cases e : a = b
    · exact .inr (.inl e)
    · left
      exact Classical.not_not.1 fun hn => e (List.le_antisymm h hn)
  · by_cases e : a = b
    · exact .inr (.inl e)
    · right; right
      exact Classical.not_not.1 fun hn => e (List.le_antisymm hn h)
/-- rising, each once -/
def Rise (l : List Hs) : Prop := l.Pairwise (· < ·)
/-- one more text, in its place -/
def withL (s : Hs) : List Hs → List Hs
  | [] => [s]
  | x :: l => if x < s then x :: withL s l else if x = s then x :: l else s :: x :: l
theorem mem_with (s x : Hs) : ∀ l, x ∈ withL s l ↔ x = s ∨ x ∈ l
  | [] => by simp [withL]
  | y :: l => by
    have ih := mem_with s x l
    unfold withL
    split
    · simp only [List.mem_cons, ih]
      constructor
      · rintro (h | h | h)
        · exact .inr (.inl h)
        · exact .inl h
        · exact .inr (.inr h)
      · rintro (h | h | h)
        · exact .inr (.inl h)
        · exact .inl h
        · exact .inr (.inr h)
    · split
      · rename_i e
        subst e
        simp only [List.mem_cons]
        constructor
        · exact .inr
        · rintro (h | h)
          · exact .inl h
          · exact h
      · simp only [List.mem_cons]
theorem rise_with (s : Hs) : ∀ {l : List Hs}, Rise l → Rise (withL s l)
  | [], _ => by simp [withL, Rise]
  | y :: l, h => by
    have hh := List.pairwise_cons.1 h
    unfold withL
    split
    · rename_i hlt
      refine List.pairwise_cons.2 ⟨fun z hz => ?_, rise_with s hh.2⟩
      rcases (mem_with s z l).1 hz with rfl | hz
      · exact hlt
      · exact hh.1 z hz
    · split
      · exact h
      · rename_i h1 h2
        have hs : s < y := by
          rcases lt_or y s with e | e | e
          · exact absurd e h1
          · exact absurd e h2
          · exact e
        refine List.pairwise_cons.2 ⟨fun z hz => ?_, h⟩
        rcases List.mem_cons.1 hz with rfl | hz
        · exact hs
        · exact lt_tr hs (hh.1 z hz)
theorem Rise.nodup {l : List Hs} (h : Rise l) : l.Nodup := List.Pairwise.imp (fun {a b} hab e => by subst e; exact lt_irr a hab) h
/-- rising lists of the same members are one -/
theorem rise_eq : ∀ {a b : List Hs}, Rise a → Rise b → (∀ x, x ∈ a ↔ x ∈ b) → a = b
  | [], [], _, _, _ => rfl
  | [], y :: b, _, _, h => by have := (h y).2 (by simp); cases this
  | x :: a, [], _, _, h => by have := (h x).1 (by simp); cases this
  | x :: a, y :: b, ha, hb, h => by
    have ha' := List.pairwise_cons.1 ha
    have hb' := List.pairwise_cons.1 hb
    have e : x = y := by
      rcases List.mem_cons.1 ((h x).1 (by simp)) with e | hx
      · exact e
      · rcases List.mem_cons.1 ((h y).2 (by simp)) with e | hy
        · exact e.symm
        · exact absurd (lt_tr (ha'.1 y hy) (hb'.1 x hx)) (lt_irr x)
    subst e
    refine congrArg (x :: ·) (rise_eq ha'.2 hb'.2 fun z => ?_)
    constructor
    · intro hz
      rcases List.mem_cons.1 ((h z).1 (List.mem_cons_of_mem _ hz)) with e | hz'
      · exact absurd (e ▸ ha'.1 z hz) (lt_irr z)
      · exact hz'
    · intro hz
      rcases List.mem_cons.1 ((h z).2 (List.mem_cons_of_mem _ hz)) with e | hz'
      · exact absurd (e ▸ hb'.1 z hz) (lt_irr z)
      · exact hz'
def withB (s : BA) : List BA → List BA
  | [] => [s]
  | x :: l => if bk x < bk s then x :: withB s l else if x = s then x :: l else s :: x :: l
theorem withB_bk (s : BA) : ∀ l, (withB s l).map bk = withL (bk s) (l.map bk)
  | [] => rfl
  | x :: l => by
    have ih := withB_bk s l
    have e : (bk x = bk s) = (x = s) := propext ⟨bk_inj, fun h => by rw [h]⟩
    unfold withB withL
    simp only [List.map_cons, e]
    split
    · simp [ih]
    · split <;> simp
theorem withB_at (s : BA) : ∀ (l : List BA) (i : Nat), i ≤ l.length → (∀ x ∈ l.take i, bk x < bk s) → (∀ x, l[i]? = some x → ¬ bk x < bk s) → withB s l = l.take i ++ (if l[i]? = some s then l.drop i else s :: l.drop i)
  | [], i, hi, _, _ => by simp at hi; subst hi; simp [withB]
  | y :: l, 0, _, _, h => by
    have hy := h y (by simp)
    unfold withB
    rw [if_neg hy]
    simp
  | y :: l, i + 1, hi, h1, h2 => by
    have hy := h1 y (by simp)
    have ih := withB_at s l i (by simpa using hi) (fun x hx => h1 x (by simp [hx])) (fun x hx => h2 x (by simpa using hx))
    unfold withB
    rw [if_pos hy, ih]
    simp
/-- a slice of texts that were put together -/
def TS (w : World) (v : Value) (l : List BA) : Prop := (v = .slice none 0 0 ∧ l = []) ∨ ∃ g c, v = .slice (some ⟨g, 0, none⟩) l.length c ∧ l.length ≤ c ∧ c ≤ maxLen ∧ g < w.heap.size ∧ ∀ i x, l[i]? = some x → w.cell? ⟨g, i, none⟩ = some (.string x)
theorem TS.below {w w' : World} {v : Value} {l : List BA} (h : TS w v l) (hb : Below w.heap.size w w') : TS w' v l := by
  rcases h with h | ⟨g, c, h1, h2, h3, h4, h5⟩
  · exact .inl h
  · exact .inr ⟨g, c, h1, h2, h3, Nat.lt_of_lt_of_le h4 hb.size, fun i x hx => (hb.cell (p := ⟨g, i, none⟩) h4).trans (h5 i x hx)⟩
theorem TS.own {w : World} {B n : Nat} {v : Value} {l : List BA} (h : w.ownsRow B 9 1 v n (strC l)) : TS w v l := by
  have hl : l.length = n := by have := h.1; simpa [strC] using this
  rcases h.2 with ⟨rfl, rfl⟩ | ⟨g, cap, cur, rfl, hB, hb, hn, hc, hsz, ht⟩
  · exact .inl ⟨rfl, List.eq_nil_of_length_eq_zero hl⟩
  · refine .inr ⟨g, cap, by rw [hl], by omega, hc, lt_of_block hb, fun i x hx => ?_⟩
    rw [cell_of_row w g i _ 9 (0, 0) hb]
    have hu : (strC l)[i]? = some (.string x) := by simp [strC, hx]
    rw [← ht, List.getElem?_take] at hu
    split at hu
    · simpa using hu
    · cases hu
set_option maxRecDepth 100000 in
set_option maxHeartbeats 4000000 in
theorem with_is (s : BA) (l : List BA) (v : Value) (w : World) (h : TS w v l) (hn : l.length ≤ 1000) :
    Calls Try.prog 43 #[v, .string s] w fun e w' => ∃ v', e = .returned v' ∧ TS w' v' (withB s l) ∧ Below w.heap.size w w' := by
  have hbs0 := run_bs27_0
  have hbs1 := run_bs27 s
  rcases h with ⟨rfl, rfl⟩ | ⟨g, c, rfl, h2, h3, h4, h5⟩
  · obtain ⟨l, hl⟩ : ∃ l : List BA, l = [] := ⟨_, rfl⟩
    have HWB : Hid (withB s l = List.take 0 l ++ ([s] ++ List.drop 0 l)) := by rw [hl]; rfl
    have HSZ : Hid (0 ≤ 1000) := Nat.zero_le _
    have HSA : Hid (Strs w none 0 (List.take 0 l) ∧ Strs w none 0 (List.drop 0 l)) := by rw [hl]; exact ⟨⟨rfl, fun h => absurd h (by decide)⟩, ⟨rfl, fun h => absurd h (by decide)⟩⟩
    have HWL : Hid (withB s l = withB s []) := by rw [hl]; rfl
    rw [← HWL.out]
    go_enter Try.func43, Try.ntmps43
    go_wp2
    go_loopw [5] (fun u wr => u = iv 0 ∧ w = wr) (fun _ _ => 0)
    case atStart => exact ⟨rfl, rfl⟩
    case round =>
      obtain ⟨rfl, rfl⟩ := hrel
      have HB0 : Hid (w.heap.size ≤ w.heap.size) := Nat.le_refl _
      obtain ⟨W0, hW0⟩ : ∃ W0, w.alloc (.cells #[] 9) = W0 := ⟨_, rfl⟩
      have HW0 : Hid (Below w.heap.size w W0 ∧ W0.ownsRow w.heap.size 9 1 (.slice (some ⟨w.heap.size, 0, none⟩) 0 0) 0 (strC [])) := by rw [← hW0]; exact ⟨below_al _ _, empty_row w 9 1⟩
      go_wp2_with (with_reducible change wpList _ _ _ ({ dst := some 38, op := _, type := _, pos := _, after := _, guard := _ } :: _) _ _; refine Hid.out ?_)
      show wpList _ _ _ _ _ _
      refine wpList_append_mine rfl (.tmp 34) (.tmp 37) rfl W0 w.heap.size _ 0 [] HW0.out.2 _ 0 _ (l.take 0) rfl rfl (HSA.out.1.below HW0.out.1) HW0.out.1.size (by have := HSZ.out; omega) ?_
      intro v38 W1 ho1 hb1
      rw [List.nil_append, Nat.zero_add] at ho1
      obtain ⟨W2, hW2⟩ : ∃ W2, W1.alloc (.cells #[.string s] 9) = W2 := ⟨_, rfl⟩
      have HW2 : Hid (W2.ownsRow w.heap.size 9 1 v38 0 (strC (l.take 0)) ∧ Below w.heap.size w W2 ∧ Strs W2 (some ⟨W1.heap.size, 0, none⟩) 1 [s]) := by
        rw [← hW2]
        exact ⟨ownsRow_below ho1.out (below_al _ _), below_tr (HW0.out.1.trans hb1.out) (below_al _ _), strs_new _ _⟩
      clear ho1 hb1 hW0
      go_wp2_with (with_reducible change wpList _ _ _ ({ dst := some 42, op := _, type := _, pos := _, after := _, guard := _ } :: _) _ _; refine Hid.out ?_)
      show wpList _ _ _ _ _ _
      refine wpList_append_mine rfl (.tmp 39) (.tmp 41) rfl W2 w.heap.size v38 0 (l.take 0) HW2.out.1 _ 1 1 [s] rfl rfl HW2.out.2.2 HW2.out.2.1.size (by have := HSZ.out; omega) ?_
      intro v42 W3 ho3 hb3
      have HW3 : Hid (W3.ownsRow w.heap.size 9 1 v42 (0 + 1) (strC (l.take 0 ++ [s])) ∧ Below w.heap.size w W3) := ⟨ho3.out, HW2.out.2.1.trans hb3.out⟩
      clear ho3 hb3 hW2
      go_wp2_with (with_reducible change wpList _ _ _ ({ dst := some 47, op := _, type := _, pos := _, after := _, guard := _ } :: _) _ _; refine Hid.out ?_)
      all_goals
        show wpList _ _ _ _ _ _
        refine wpList_append_mine rfl (.tmp 43) (.tmp 46) rfl W3 w.heap.size v42 (0 + 1) (l.take 0 ++ [s]) HW3.out.1 _ 0 _ (l.drop 0) rfl rfl (by first | exact HSA.out.2.below HW3.out.2 | exact ⟨by rw [List.length_drop, HL.out.1], fun hp => by have := HSZ.out; omega⟩) HW3.out.2.size (by have := HSZ.out; omega) ?_
        intro v47 W4 ho4 hb4
        have HW4 : Hid (TS W4 v47 (withB s l) ∧ Below w.heap.size w W4) := by
          refine ⟨?_, HW3.out.2.trans hb4.out⟩
          rw [HWB.out]
          exact TS.own (by have := ho4.out; rw [List.append_assoc] at this; exact this)
        clear ho4 hb4
        go_wp2
        go_ret
        exact ⟨_, rfl, HW4.out.1, HW4.out.2⟩
  · obtain ⟨n, hnn⟩ : ∃ n, l.length = n := ⟨_, rfl⟩
    have HL : Hid (l.length = n ∧ g < w.heap.size ∧ (∀ i x, l[i]? = some x → w.cell? ⟨g, i, none⟩ = some (.string x)) ∧ n ≤ c ∧ c ≤ maxLen ∧ n ≤ 1000) := ⟨hnn, h4, h5, by omega, h3, by omega⟩
    have qn : (n : Int) ≤ 1000 := by omega
    have qc : (n : Int) ≤ (c : Int) := by omega
    have qm : (c : Int) ≤ 9223372036854775807 := by unfold maxLen at h3; omega
    rw [hnn]
    clear h2 h3 h4 h5 hn hnn
    go_enter Try.func43, Try.ntmps43
    go_wp2
    go_loopw [5] (fun u wr => ∃ i : Nat, u = iv i ∧ Hid (i ≤ n ∧ w = wr ∧ ∀ x ∈ l.take i, bk x < bk s)) (fun u _ => n - (intOf u).toNat)
    case atStart => exact ⟨0, rfl, Nat.zero_le _, rfl, by simp⟩
    case round =>
      obtain ⟨i, rfl, HI⟩ := hrel
      obtain ⟨x1, rfl, x2⟩ := HI.out
      have HSZ : Hid (i ≤ n ∧ n ≤ 1000 ∧ n ≤ c) := ⟨x1, HL.out.2.2.2.2.2, HL.out.2.2.2.1⟩
      have HSA : Hid (Strs w (some ⟨g, 0, none⟩) i (l.take i) ∧ Strs w (some ⟨g, i, none⟩) (n - i) (l.drop i)) := by
        refine ⟨⟨by rw [List.length_take, HL.out.1]; omega, fun _ => ⟨g, 0, rfl, HL.out.2.1, fun j y hj => ?_⟩⟩, ⟨by rw [List.length_drop, HL.out.1], fun _ => ⟨g, i, rfl, HL.out.2.1, fun j y hj => ?_⟩⟩⟩
        · rw [Nat.zero_add]
          rw [List.getElem?_take] at hj
          split at hj
          · exact HL.out.2.2.1 j y hj
          · cases hj
        · rw [List.getElem?_drop] at hj
          exact HL.out.2.2.1 _ y hj
      by_cases hi : i = n
      · have q1 : (n : Int) ≤ (i : Int) := by omega
        have HWB : Hid (withB s l = l.take i ++ ([s] ++ l.drop i)) := by
          show _ = _
          have hnone : l[i]? = none := List.getElem?_eq_none (by rw [HL.out.1]; omega)
          rw [withB_at s l i (by rw [HL.out.1]; omega) x2 (fun x hx => by rw [hnone] at hx; cases hx), hnone]
          simp
        have q3 : (i : Int) ≤ (c : Int) := by omega
        have q6 : (i : Int) ≤ (n : Int) := by omega
        clear x2 HI hi
        have HB0 : Hid (w.heap.size ≤ w.heap.size) := Nat.le_refl _
        obtain ⟨W0, hW0⟩ : ∃ W0, w.alloc (.cells #[] 9) = W0 := ⟨_, rfl⟩
        have HW0 : Hid (Below w.heap.size w W0 ∧ W0.ownsRow w.heap.size 9 1 (.slice (some ⟨w.heap.size, 0, none⟩) 0 0) 0 (strC [])) := by rw [← hW0]; exact ⟨below_al _ _, empty_row w 9 1⟩
        go_wp2_with (with_reducible change wpList _ _ _ ({ dst := some 38, op := _, type := _, pos := _, after := _, guard := _ } :: _) _ _; refine Hid.out ?_)
        show wpList _ _ _ _ _ _
        refine wpList_append_mine rfl (.tmp 34) (.tmp 37) rfl W0 w.heap.size _ 0 [] HW0.out.2 _ i _ (l.take i) rfl rfl (HSA.out.1.below HW0.out.1) HW0.out.1.size (by have := HSZ.out; omega) ?_
        intro v38 W1 ho1 hb1
        rw [List.nil_append, Nat.zero_add] at ho1
        obtain ⟨W2, hW2⟩ : ∃ W2, W1.alloc (.cells #[.string s] 9) = W2 := ⟨_, rfl⟩
        have HW2 : Hid (W2.ownsRow w.heap.size 9 1 v38 i (strC (l.take i)) ∧ Below w.heap.size w W2 ∧ Strs W2 (some ⟨W1.heap.size, 0, none⟩) 1 [s]) := by
          rw [← hW2]
          exact ⟨ownsRow_below ho1.out (below_al _ _), below_tr (HW0.out.1.trans hb1.out) (below_al _ _), strs_new _ _⟩
        clear ho1 hb1 hW0
        go_wp2_with (with_reducible change wpList _ _ _ ({ dst := some 42, op := _, type := _, pos := _, after := _, guard := _ } :: _) _ _; refine Hid.out ?_)
        show wpList _ _ _ _ _ _
        refine wpList_append_mine rfl (.tmp 39) (.tmp 41) rfl W2 w.heap.size v38 i (l.take i) HW2.out.1 _ 1 1 [s] rfl rfl HW2.out.2.2 HW2.out.2.1.size (by have := HSZ.out; omega) ?_
        intro v42 W3 ho3 hb3
        have HW3 : Hid (W3.ownsRow w.heap.size 9 1 v42 (i + 1) (strC (l.take i ++ [s])) ∧ Below w.heap.size w W3) := ⟨ho3.out, HW2.out.2.1.trans hb3.out⟩
        clear ho3 hb3 hW2
        go_wp2_with (with_reducible change wpList _ _ _ ({ dst := some 47, op := _, type := _, pos := _, after := _, guard := _ } :: _) _ _; refine Hid.out ?_)
        all_goals
          show wpList _ _ _ _ _ _
          refine wpList_append_mine rfl (.tmp 43) (.tmp 46) rfl W3 w.heap.size v42 (i + 1) (l.take i ++ [s]) HW3.out.1 _ (n - i) _ (l.drop i) rfl rfl (by first | exact HSA.out.2.below HW3.out.2 | exact ⟨by rw [List.length_drop, HL.out.1], fun hp => by have := HSZ.out; omega⟩) HW3.out.2.size (by have := HSZ.out; omega) ?_
          intro v47 W4 ho4 hb4
          have HW4 : Hid (TS W4 v47 (withB s l) ∧ Below w.heap.size w W4) := by
            refine ⟨?_, HW3.out.2.trans hb4.out⟩
            rw [HWB.out]
            exact TS.own (by have := ho4.out; rw [List.append_assoc] at this; exact this)
          clear ho4 hb4
          go_wp2
          go_ret
          exact ⟨_, rfl, HW4.out.1, HW4.out.2⟩
      · have q1 : (i : Int) < (n : Int) := by omega
        obtain ⟨x, hx⟩ : ∃ x, l[i]? = some x := ⟨_, List.getElem?_eq_getElem (by rw [HL.out.1]; omega)⟩
        have c0 := HL.out.2.2.1 i x hx
        have HX : Hid (l[i]? = some x) := hx
        by_cases hlt : bk x < bk s
        · have q4 : Op.bytesLess x.toList s.toList = true := by rw [toList_bk, toList_bk, Go.Proofs.bytesLess_eq]; simpa using hlt
          have HN : Hid (∀ y ∈ l.take (i + 1), bk y < bk s) := by
            intro y hy
            rw [List.take_add_one, HX.out] at hy
            rcases List.mem_append.1 hy with hy | hy
            · exact x2 y hy
            · simp at hy; rw [hy]; exact hlt
          clear hlt hx x2 HI
          go_wp2
          refine ⟨⟨i + 1, by simp, by omega, by first | rfl | trivial, HN.out⟩, ?_⟩
          simp only [intOf]
          omega
        · have q4 : Op.bytesLess x.toList s.toList = false := by rw [toList_bk, toList_bk, Go.Proofs.bytesLess_eq]; simpa using hlt
          by_cases heq : x = s
          · have q5 : (x.toList == s.toList) = true := by rw [eq_iff]; simp [heq]
            have HWB : Hid (withB s l = l) := by
              show _ = _
              rw [withB_at s l i (by rw [HL.out.1]; omega) x2 (fun y hy => by rw [HX.out] at hy; cases hy; exact hlt), HX.out, heq]
              simp
            have HTS : Hid (TS w (.slice (some ⟨g, 0, none⟩) n c) l) := .inr ⟨g, c, by rw [HL.out.1], by rw [HL.out.1]; exact HL.out.2.2.2.1, HL.out.2.2.2.2.1, HL.out.2.1, HL.out.2.2.1⟩
            clear hlt hx x2 HI heq
            go_wp2
            go_ret
            exact ⟨_, rfl, by rw [HWB.out]; exact HTS.out, Below.refl _ _⟩
          · have q5 : (x.toList == s.toList) = false := by rw [eq_iff]; simp [heq]
            have HWB : Hid (withB s l = l.take i ++ ([s] ++ l.drop i)) := by
              show _ = _
              have hne : ¬ (some x = some s) := fun e => heq (by simpa using e)
              rw [withB_at s l i (by rw [HL.out.1]; omega) x2 (fun y hy => by rw [HX.out] at hy; cases hy; exact hlt), HX.out, if_neg hne]
              simp
            have q3 : (i : Int) ≤ (c : Int) := by omega
            clear hlt hx x2 HI heq
            have HB0 : Hid (w.heap.size ≤ w.heap.size) := Nat.le_refl _
            obtain ⟨W0, hW0⟩ : ∃ W0, w.alloc (.cells #[] 9) = W0 := ⟨_, rfl⟩
            have HW0 : Hid (Below w.heap.size w W0 ∧ W0.ownsRow w.heap.size 9 1 (.slice (some ⟨w.heap.size, 0, none⟩) 0 0) 0 (strC [])) := by rw [← hW0]; exact ⟨below_al _ _, empty_row w 9 1⟩
            go_wp2_with (with_reducible change wpList _ _ _ ({ dst := some 38, op := _, type := _, pos := _, after := _, guard := _ } :: _) _ _; refine Hid.out ?_)
            show wpList _ _ _ _ _ _
            refine wpList_append_mine rfl (.tmp 34) (.tmp 37) rfl W0 w.heap.size _ 0 [] HW0.out.2 _ i _ (l.take i) rfl rfl (HSA.out.1.below HW0.out.1) HW0.out.1.size (by have := HSZ.out; omega) ?_
            intro v38 W1 ho1 hb1
            rw [List.nil_append, Nat.zero_add] at ho1
            obtain ⟨W2, hW2⟩ : ∃ W2, W1.alloc (.cells #[.string s] 9) = W2 := ⟨_, rfl⟩
            have HW2 : Hid (W2.ownsRow w.heap.size 9 1 v38 i (strC (l.take i)) ∧ Below w.heap.size w W2 ∧ Strs W2 (some ⟨W1.heap.size, 0, none⟩) 1 [s]) := by
              rw [← hW2]
              exact ⟨ownsRow_below ho1.out (below_al _ _), below_tr (HW0.out.1.trans hb1.out) (below_al _ _), strs_new _ _⟩
            clear ho1 hb1 hW0
            go_wp2_with (with_reducible change wpList _ _ _ ({ dst := some 42, op := _, type := _, pos := _, after := _, guard := _ } :: _) _ _; refine Hid.out ?_)
            show wpList _ _ _ _ _ _
            refine wpList_append_mine rfl (.tmp 39) (.tmp 41) rfl W2 w.heap.size v38 i (l.take i) HW2.out.1 _ 1 1 [s] rfl rfl HW2.out.2.2 HW2.out.2.1.size (by have := HSZ.out; omega) ?_
            intro v42 W3 ho3 hb3
            have HW3 : Hid (W3.ownsRow w.heap.size 9 1 v42 (i + 1) (strC (l.take i ++ [s])) ∧ Below w.heap.size w W3) := ⟨ho3.out, HW2.out.2.1.trans hb3.out⟩
            clear ho3 hb3 hW2
            go_wp2_with (with_reducible change wpList _ _ _ ({ dst := some 47, op := _, type := _, pos := _, after := _, guard := _ } :: _) _ _; refine Hid.out ?_)
            all_goals
              show wpList _ _ _ _ _ _
              refine wpList_append_mine rfl (.tmp 43) (.tmp 46) rfl W3 w.heap.size v42 (i + 1) (l.take i ++ [s]) HW3.out.1 _ (n - i) _ (l.drop i) rfl rfl (by first | exact HSA.out.2.below HW3.out.2 | exact ⟨by rw [List.length_drop, HL.out.1], fun hp => by have := HSZ.out; omega⟩) HW3.out.2.size (by have := HSZ.out; omega) ?_
              intro v47 W4 ho4 hb4
              have HW4 : Hid (TS W4 v47 (withB s l) ∧ Below w.heap.size w W4) := by
                refine ⟨?_, HW3.out.2.trans hb4.out⟩
                rw [HWB.out]
                exact TS.own (by have := ho4.out; rw [List.append_assoc] at this; exact this)
              clear ho4 hb4
              go_wp2
              go_ret
              exact ⟨_, rfl, HW4.out.1, HW4.out.2⟩
#print axioms with_is
end Go.Proofs.Ytfickhhfhdhcbaa.Oct
