/-
  Layer 10 (patch): the reference's With; texts that rise.
  Layer 10 (patch): the reference's Paths.
  A range over a function whose body may leave: what stands between two rounds is told by a place (a number); what is handed out is told by a list. Of no program.
  Layer 10 (patch): slices.Values of texts.
  Layer 10 (patch): slices.AppendSeq and Collect of texts.
  Layer 10 (patch): slices.Sort and slices.Compact of texts as this program bears them: the bodies of which the library's contracts were proved.
-/
import Derived.Test.YtgdecjacbkicmaaPkB
import Derived.Sort.Walk0
import Derived.Test.YtgdecjacbkicmaaOver
import Derived.RangeFuncNested
import Derived.RangeFuncBound
import Derived.RangeFuncCalls
import Derived.RangeFuncLeaves
import Derived.WalkKit
import Derived.Test.YtgdecjacbkicmaaRows
import Derived.Shelf.SortM.Plain
import Derived.Shelf.SortM.SortNone
import Derived.Shelf.Slices.CompactS
/- Layer 10 (patch): the reference's With; texts that rise. -/
namespace Go.Proofs.Ytgdecjacbkicmaa.Oct
open Go.RowKit
set_option maxRecDepth 100000
set_option linter.unusedSimpArgs false
set_option linter.unusedVariables false

def hv (x : Hs) : Value := .string ⟨x.toArray⟩
def bk (s : BA) : Hs := s.data.toList
theorem hv_bk (s : BA) : hv (bk s) = .string s := rfl
theorem bk_inj {s t : BA} (h : bk s = bk t) : s = t := by
  have : s.data = t.data := Array.toList_inj.1 h
  cases s; cases t; simpa using this
theorem bk_len (s : BA) : (bk s).length = s.size := rfl
theorem toList_bk (s : BA) : s.toList = bk s := ByteArray.toList_eq s
theorem eq_iff (s t : BA) : (s.toList == t.toList) = decide (s = t) := by
  rw [toList_bk, toList_bk]
  by_cases h : s = t
  · subst h; simp
  · have : bk s ≠ bk t := fun e => h (bk_inj e)
    simp [h, this]
/-- texts as cells -/
def strC (l : List BA) : List Value := l.map fun s => .string s
theorem strC_one (l : List BA) : ∀ u ∈ strC l, u.oneCell' = true := by
  intro u hu
  obtain ⟨s, _, rfl⟩ := List.mem_map.1 hu
  rfl
theorem strC_app (l k : List BA) : strC (l ++ k) = strC l ++ strC k := by simp [strC]
theorem ownsRow_below {w w' : World} {B e sz n : Nat} {v : Value} {cs : List Value} (h : w.ownsRow B e sz v n cs) (hb : Below w.heap.size w w') : w'.ownsRow B e sz v n cs := by
  refine ⟨h.1, ?_⟩
  rcases h.2 with hn | ⟨g, cap, cur, rfl, hB, hbk, hr⟩
  · exact .inl hn
  · exact .inr ⟨g, cap, cur, rfl, hB, (hb.block g (lt_of_block hbk)).trans hbk, hr⟩
theorem empty_row (w : World) (e sz : Nat) : (w.alloc (.cells #[] e)).ownsRow w.heap.size e sz (.slice (some ⟨w.heap.size, 0, none⟩) 0 0) 0 [] :=
  ⟨by simp, .inr ⟨w.heap.size, 0, #[], rfl, Nat.le_refl _, heap_alloc_new w _, Nat.le_refl _, by unfold maxLen; omega, by simp, by simp⟩⟩
theorem range_new (w : World) (cs : List Value) (t : TypeId) : (w.alloc (.cells cs.toArray t)).rangeAt w.heap.size 0 cs := by
  have hb : Blk (w.alloc (.cells cs.toArray t)) w.heap.size t cs := by simpa using Blk.new w cs.toArray t
  intro j v hj
  rw [Nat.zero_add]
  exact hb.cell hj
theorem strs_new (w : World) (s : BA) : Strs (w.alloc (.cells #[.string s] 9)) (some ⟨w.heap.size, 0, none⟩) 1 [s] :=
  ⟨rfl, fun _ => ⟨w.heap.size, 0, rfl, by simp, fun i x hx => range_new w [.string s] 9 i _ (by
    cases i with
    | zero => simp at hx; subst hx; rfl
    | succ i => simp at hx)⟩⟩
/-- a row of the call's own behind an append to one -/
theorem wpList_append_mine {ops : Array Oper} {rest : List Oper} {o : Oper} {a : Act} {Q : Exit → Act → World → Prop} (hgd : o.guard = none) (s x : Operand)
    (hop : o.op = .call { callee := .builtin .append, args := #[s, x], argTypes := #[31, 31] }) (w : World) (B : Nat) (v : Value) (n : Nat) (l : List BA) (h : w.ownsRow B 9 1 v n (strC l)) (ao : Option Addr) (q c : Nat) (k : List BA) (hsv : a.eval s = v) (hx : a.eval x = .slice ao q c) (ho : Strs w ao q k) (hB : B ≤ w.heap.size) (hn : n + q ≤ 1000000)
    (hk : ∀ v' w', Hid (w'.ownsRow B 9 1 v' (n + q) (strC (l ++ k))) → Hid (Below B w w') → wpList Try.prog ops Q rest (a.put o.dst v') w') : wpList Try.prog ops Q (o :: rest) a w := by
  obtain ⟨i0, z0, k0, k1, k2, k3, k4⟩ := inf9
  refine wpList_plain hgd fun K hK => ?_
  have hlen : k.length = q := ho.1
  by_cases hq : q = 0
  · subst hq
    obtain rfl := List.eq_nil_of_length_eq_zero hlen
    obtain ⟨a', cap, rfl, hnc⟩ : ∃ a cap, v = .slice a n cap ∧ n ≤ cap := by
      rcases h.2 with ⟨rfl, rfl⟩ | ⟨g, cap, cur, rfl, _, _, hn, _⟩
      · exact ⟨none, 0, rfl, Nat.le_refl _⟩
      · exact ⟨_, cap, rfl, hn⟩
    have hr := run_append_zero (P := Try.prog) w 31 o.type 9 i0 Try.underlying31 k0 a' ao n cap c hnc
    unfold Oper.wp execOp
    simp only [hop, resolve, invoke, builtin, Sem.run_bind, Sem.run_pure, Result.andThen_ok, List.map_toArray, List.map_cons, List.map_nil, hsv, hx, hr]
    exact hK _ _ (hk _ w (by show World.ownsRow _ _ _ _ _ _ _; simpa using h) (Below.refl _ _))
  · obtain ⟨g, off, rfl, _, hc⟩ := ho.2 (by omega)
    obtain ⟨v', w', hr, h2, h3, _⟩ := run_append_own_wide (P := Try.prog) w B 31 o.type 9 i0 z0 1 i0.bytes Try.underlying31 k0 k1 k2 rfl k4 (by omega) v n (strC l) h ⟨g, off, none⟩ q c (strC k) (by simp [strC, hlen]) (fun j u hu => by
      rw [Addr.add_lit]
      simp only [strC, List.getElem?_map] at hu
      obtain ⟨s, hs, rfl⟩ := Option.map_eq_some_iff.1 hu
      exact hc j s hs) (strC_one _) (by unfold maxLen; omega) (by rw [k3]; omega) hB
    unfold Oper.wp execOp
    simp only [hop, resolve, invoke, builtin, Sem.run_bind, Sem.run_pure, Result.andThen_ok, List.map_toArray, List.map_cons, List.map_nil, hsv, hx, hr]
    refine hK _ _ (hk v' w' (by rw [strC_app]; exact h2) ⟨h3.os, h3.tape, h3.output, h3.size, fun k hk => h3.block k (by omega) fun e => ?_⟩)
    have := (h.lt k e.symm).1
    omega
theorem lt_irr (a : Hs) : ¬ a < a := List.lt_irrefl a
theorem lt_tr {a b c : Hs} (h : a < b) (k : b < c) : a < c := List.lt_trans h k
theorem lt_or (a b : Hs) : a < b ∨ a = b ∨ b < a := by
  rcases List.le_total a b with h | h
  · by_cases e : a = b
    · exact .inr (.inl e)
    · left
      exact Classical.not_not.1 fun hn => e (List.le_antisymm h hn)
  · by_cases e : a = b
    · exact .inr (.inl e)
    · right; right
      exact Classical.not_not.1 fun hn => e (List.le_antisymm hn h)
/-- rising, each once -/
def Rise (l : List Hs) : Prop := l.Pairwise (· < ·)
/-- one more text, in its place -/
def withL (s : Hs) : List Hs → List Hs
  | [] => [s]
  | x :: l => if x < s then x :: withL s l else if x = s then x :: l else s :: x :: l
theorem mem_with (s x : Hs) : ∀ l, x ∈ withL s l ↔ x = s ∨ x ∈ l
  | [] => by simp [withL]
  | y :: l => by
    have ih := mem_with s x l
    unfold withL
    split
    · simp only [List.mem_cons, ih]
      constructor
      · rintro (h | h | h)
        · exact .inr (.inl h)
        · exact .inl h
        · exact .inr (.inr h)
      · rintro (h | h | h)
        · exact .inr (.inl h)
        · exact .inl h
        · exact .inr (.inr h)
    · split
      · rename_i e
        subst e
        simp only [List.mem_cons]
        constructor
        · exact .inr
        · rintro (h | h)
          · exact .inl h
          · exact h
      · simp only [List.mem_cons]
theorem rise_with (s : Hs) : ∀ {l : List Hs}, Rise l → Rise (withL s l)
  | [], _ => by simp [withL, Rise]
  | y :: l, h => by
    have hh := List.pairwise_cons.1 h
    unfold withL
    split
    · rename_i hlt
      refine List.pairwise_cons.2 ⟨fun z hz => ?_, rise_with s hh.2⟩
      rcases (mem_with s z l).1 hz with rfl | hz
      · exact hlt
      · exact hh.1 z hz
    · split
      · exact h
      · rename_i h1 h2
        have hs : s < y := by
          rcases lt_or y s with e | e | e
          · exact absurd e h1
          · exact absurd e h2
          · exact e
        refine List.pairwise_cons.2 ⟨fun z hz => ?_, h⟩
        rcases List.mem_cons.1 hz with rfl | hz
        · exact hs
        · exact lt_tr hs (hh.1 z hz)
theorem Rise.nodup {l : List Hs} (h : Rise l) : l.Nodup := List.Pairwise.imp (fun {a b} hab e => by subst e; exact lt_irr a hab) h
/-- rising lists of the same members are one -/
theorem rise_eq : ∀ {a b : List Hs}, Rise a → Rise b → (∀ x, x ∈ a ↔ x ∈ b) → a = b
  | [], [], _, _, _ => rfl
  | [], y :: b, _, _, h => by have := (h y).2 (by simp); cases this
  | x :: a, [], _, _, h => by have := (h x).1 (by simp); cases this
  | x :: a, y :: b, ha, hb, h => by
    have ha' := List.pairwise_cons.1 ha
    have hb' := List.pairwise_cons.1 hb
    have e : x = y := by
      rcases List.mem_cons.1 ((h x).1 (by simp)) with e | hx
      · exact e
      · rcases List.mem_cons.1 ((h y).2 (by simp)) with e | hy
        · exact e.symm
        · exact absurd (lt_tr (ha'.1 y hy) (hb'.1 x hx)) (lt_irr x)
    subst e
    refine congrArg (x :: ·) (rise_eq ha'.2 hb'.2 fun z => ?_)
    constructor
    · intro hz
      rcases List.mem_cons.1 ((h z).1 (List.mem_cons_of_mem _ hz)) with e | hz'
      · exact absurd (e ▸ ha'.1 z hz) (lt_irr z)
      · exact hz'
    · intro hz
      rcases List.mem_cons.1 ((h z).2 (List.mem_cons_of_mem _ hz)) with e | hz'
      · exact absurd (e ▸ hb'.1 z hz) (lt_irr z)
      · exact hz'
def withB (s : BA) : List BA → List BA
  | [] => [s]
  | x :: l => if bk x < bk s then x :: withB s l else if x = s then x :: l else s :: x :: l
theorem withB_bk (s : BA) : ∀ l, (withB s l).map bk = withL (bk s) (l.map bk)
  | [] => rfl
  | x :: l => by
    have ih := withB_bk s l
    have e : (bk x = bk s) = (x = s) := propext ⟨bk_inj, fun h => by rw [h]⟩
    unfold withB withL
    simp only [List.map_cons, e]
    split
    · simp [ih]
    · split <;> simp
theorem withB_at (s : BA) : ∀ (l : List BA) (i : Nat), i ≤ l.length → (∀ x ∈ l.take i, bk x < bk s) → (∀ x, l[i]? = some x → ¬ bk x < bk s) → withB s l = l.take i ++ (if l[i]? = some s then l.drop i else s :: l.drop i)
  | [], i, hi, _, _ => by simp at hi; subst hi; simp [withB]
  | y :: l, 0, _, _, h => by
    have hy := h y (by simp)
    unfold withB
    rw [if_neg hy]
    simp
  | y :: l, i + 1, hi, h1, h2 => by
    have hy := h1 y (by simp)
    have ih := withB_at s l i (by simpa using hi) (fun x hx => h1 x (by simp [hx])) (fun x hx => h2 x (by simpa using hx))
    unfold withB
    rw [if_pos hy, ih]
    simp
/-- a slice of texts that were put together -/
def TS (w : World) (v : Value) (l : List BA) : Prop := (v = .slice none 0 0 ∧ l = []) ∨ ∃ g c, v = .slice (some ⟨g, 0, none⟩) l.length c ∧ l.length ≤ c ∧ c ≤ maxLen ∧ g < w.heap.size ∧ ∀ i x, l[i]? = some x → w.cell? ⟨g, i, none⟩ = some (.string x)
theorem TS.below {w w' : World} {v : Value} {l : List BA} (h : TS w v l) (hb : Below w.heap.size w w') : TS w' v l := by
  rcases h with h | ⟨g, c, h1, h2, h3, h4, h5⟩
  · exact .inl h
  · exact .inr ⟨g, c, h1, h2, h3, Nat.lt_of_lt_of_le h4 hb.size, fun i x hx => (hb.cell (p := ⟨g, i, none⟩) h4).trans (h5 i x hx)⟩
theorem TS.own {w : World} {B n : Nat} {v : Value} {l : List BA} (h : w.ownsRow B 9 1 v n (strC l)) : TS w v l := by
  have hl : l.length = n := by have := h.1; simpa [strC] using this
  rcases h.2 with ⟨rfl, rfl⟩ | ⟨g, cap, cur, rfl, hB, hb, hn, hc, hsz, ht⟩
  · exact .inl ⟨rfl, List.eq_nil_of_length_eq_zero hl⟩
  · refine .inr ⟨g, cap, by rw [hl], by omega, hc, lt_of_block hb, fun i x hx => ?_⟩
    rw [cell_of_row w g i _ 9 (0, 0) hb]
    have hu : (strC l)[i]? = some (.string x) := by simp [strC, hx]
    rw [← ht, List.getElem?_take] at hu
    split at hu
    · simpa using hu
    · cases hu
set_option maxRecDepth 100000 in
set_option maxHeartbeats 4000000 in
theorem with_is (s : BA) (l : List BA) (v : Value) (w : World) (h : TS w v l) (hn : l.length ≤ 1000) :
    Calls Try.prog 27 #[v, .string s] w fun e w' => ∃ v', e = .returned v' ∧ TS w' v' (withB s l) ∧ Below w.heap.size w w' := by
  have hbs0 := rb31
  have hbs1 := run_bs31 s
  rcases h with ⟨rfl, rfl⟩ | ⟨g, c, rfl, h2, h3, h4, h5⟩
  · obtain ⟨l, hl⟩ : ∃ l : List BA, l = [] := ⟨_, rfl⟩
    have HWB : Hid (withB s l = List.take 0 l ++ ([s] ++ List.drop 0 l)) := by rw [hl]; rfl
    have HSZ : Hid (0 ≤ 1000) := Nat.zero_le _
    have HSA : Hid (Strs w none 0 (List.take 0 l) ∧ Strs w none 0 (List.drop 0 l)) := by rw [hl]; exact ⟨⟨rfl, fun h => absurd h (by decide)⟩, ⟨rfl, fun h => absurd h (by decide)⟩⟩
    have HWL : Hid (withB s l = withB s []) := by rw [hl]; rfl
    rw [← HWL.out]
    go_enter Try.func27, Try.ntmps27
    go_wp2
    go_loopw [5] (fun u wr => u = iv 0 ∧ w = wr) (fun _ _ => 0)
    case atStart => exact ⟨rfl, rfl⟩
    case round =>
      obtain ⟨rfl, rfl⟩ := hrel
      have HB0 : Hid (w.heap.size ≤ w.heap.size) := Nat.le_refl _
      obtain ⟨W0, hW0⟩ : ∃ W0, w.alloc (.cells #[] 9) = W0 := ⟨_, rfl⟩
      have HW0 : Hid (Below w.heap.size w W0 ∧ W0.ownsRow w.heap.size 9 1 (.slice (some ⟨w.heap.size, 0, none⟩) 0 0) 0 (strC [])) := by rw [← hW0]; exact ⟨below_al _ _, empty_row w 9 1⟩
      go_wp2_with (with_reducible change wpList _ _ _ ({ dst := some 38, op := _, type := _, pos := _, after := _, guard := _ } :: _) _ _; refine Hid.out ?_)
      show wpList _ _ _ _ _ _
      refine wpList_append_mine rfl (.tmp 34) (.tmp 37) rfl W0 w.heap.size _ 0 [] HW0.out.2 _ 0 _ (l.take 0) rfl rfl (HSA.out.1.below HW0.out.1) HW0.out.1.size (by have := HSZ.out; omega) ?_
      intro v38 W1 ho1 hb1
      rw [List.nil_append, Nat.zero_add] at ho1
      obtain ⟨W2, hW2⟩ : ∃ W2, W1.alloc (.cells #[.string s] 9) = W2 := ⟨_, rfl⟩
      have HW2 : Hid (W2.ownsRow w.heap.size 9 1 v38 0 (strC (l.take 0)) ∧ Below w.heap.size w W2 ∧ Strs W2 (some ⟨W1.heap.size, 0, none⟩) 1 [s]) := by
        rw [← hW2]
        exact ⟨ownsRow_below ho1.out (below_al _ _), below_tr (HW0.out.1.trans hb1.out) (below_al _ _), strs_new _ _⟩
      clear ho1 hb1 hW0
      go_wp2_with (with_reducible change wpList _ _ _ ({ dst := some 42, op := _, type := _, pos := _, after := _, guard := _ } :: _) _ _; refine Hid.out ?_)
      show wpList _ _ _ _ _ _
      refine wpList_append_mine rfl (.tmp 39) (.tmp 41) rfl W2 w.heap.size v38 0 (l.take 0) HW2.out.1 _ 1 1 [s] rfl rfl HW2.out.2.2 HW2.out.2.1.size (by have := HSZ.out; omega) ?_
      intro v42 W3 ho3 hb3
      have HW3 : Hid (W3.ownsRow w.heap.size 9 1 v42 (0 + 1) (strC (l.take 0 ++ [s])) ∧ Below w.heap.size w W3) := ⟨ho3.out, HW2.out.2.1.trans hb3.out⟩
      clear ho3 hb3 hW2
      go_wp2_with (with_reducible change wpList _ _ _ ({ dst := some 47, op := _, type := _, pos := _, after := _, guard := _ } :: _) _ _; refine Hid.out ?_)
      all_goals
        show wpList _ _ _ _ _ _
        refine wpList_append_mine rfl (.tmp 43) (.tmp 46) rfl W3 w.heap.size v42 (0 + 1) (l.take 0 ++ [s]) HW3.out.1 _ 0 _ (l.drop 0) rfl rfl (by first | exact HSA.out.2.below HW3.out.2 | exact ⟨by rw [List.length_drop, HL.out.1], fun hp => by have := HSZ.out; omega⟩) HW3.out.2.size (by have := HSZ.out; omega) ?_
        intro v47 W4 ho4 hb4
        have HW4 : Hid (TS W4 v47 (withB s l) ∧ Below w.heap.size w W4) := by
          refine ⟨?_, HW3.out.2.trans hb4.out⟩
          rw [HWB.out]
          exact TS.own (by have := ho4.out; rw [List.append_assoc] at this; exact this)
        clear ho4 hb4
        go_wp2
        go_ret
        exact ⟨_, rfl, HW4.out.1, HW4.out.2⟩
  · obtain ⟨n, hnn⟩ : ∃ n, l.length = n := ⟨_, rfl⟩
    have HL : Hid (l.length = n ∧ g < w.heap.size ∧ (∀ i x, l[i]? = some x → w.cell? ⟨g, i, none⟩ = some (.string x)) ∧ n ≤ c ∧ c ≤ maxLen ∧ n ≤ 1000) := ⟨hnn, h4, h5, by omega, h3, by omega⟩
    have qn : (n : Int) ≤ 1000 := by omega
    have qc : (n : Int) ≤ (c : Int) := by omega
    have qm : (c : Int) ≤ 9223372036854775807 := by unfold maxLen at h3; omega
    rw [hnn]
    clear h2 h3 h4 h5 hn hnn
    go_enter Try.func27, Try.ntmps27
    go_wp2
    go_loopw [5] (fun u wr => ∃ i : Nat, u = iv i ∧ Hid (i ≤ n ∧ w = wr ∧ ∀ x ∈ l.take i, bk x < bk s)) (fun u _ => n - (intOf u).toNat)
    case atStart => exact ⟨0, rfl, Nat.zero_le _, rfl, by simp⟩
    case round =>
      obtain ⟨i, rfl, HI⟩ := hrel
      obtain ⟨x1, rfl, x2⟩ := HI.out
      have HSZ : Hid (i ≤ n ∧ n ≤ 1000 ∧ n ≤ c) := ⟨x1, HL.out.2.2.2.2.2, HL.out.2.2.2.1⟩
      have HSA : Hid (Strs w (some ⟨g, 0, none⟩) i (l.take i) ∧ Strs w (some ⟨g, i, none⟩) (n - i) (l.drop i)) := by
        refine ⟨⟨by rw [List.length_take, HL.out.1]; omega, fun _ => ⟨g, 0, rfl, HL.out.2.1, fun j y hj => ?_⟩⟩, ⟨by rw [List.length_drop, HL.out.1], fun _ => ⟨g, i, rfl, HL.out.2.1, fun j y hj => ?_⟩⟩⟩
        · rw [Nat.zero_add]
          rw [List.getElem?_take] at hj
          split at hj
          · exact HL.out.2.2.1 j y hj
          · cases hj
        · rw [List.getElem?_drop] at hj
          exact HL.out.2.2.1 _ y hj
      by_cases hi : i = n
      · have q1 : (n : Int) ≤ (i : Int) := by omega
        have HWB : Hid (withB s l = l.take i ++ ([s] ++ l.drop i)) := by
          show _ = _
          have hnone : l[i]? = none := List.getElem?_eq_none (by rw [HL.out.1]; omega)
          rw [withB_at s l i (by rw [HL.out.1]; omega) x2 (fun x hx => by rw [hnone] at hx; cases hx), hnone]
          simp
        have q3 : (i : Int) ≤ (c : Int) := by omega
        have q6 : (i : Int) ≤ (n : Int) := by omega
        clear x2 HI hi
        have HB0 : Hid (w.heap.size ≤ w.heap.size) := Nat.le_refl _
        obtain ⟨W0, hW0⟩ : ∃ W0, w.alloc (.cells #[] 9) = W0 := ⟨_, rfl⟩
        have HW0 : Hid (Below w.heap.size w W0 ∧ W0.ownsRow w.heap.size 9 1 (.slice (some ⟨w.heap.size, 0, none⟩) 0 0) 0 (strC [])) := by rw [← hW0]; exact ⟨below_al _ _, empty_row w 9 1⟩
        go_wp2_with (with_reducible change wpList _ _ _ ({ dst := some 38, op := _, type := _, pos := _, after := _, guard := _ } :: _) _ _; refine Hid.out ?_)
        show wpList _ _ _ _ _ _
        refine wpList_append_mine rfl (.tmp 34) (.tmp 37) rfl W0 w.heap.size _ 0 [] HW0.out.2 _ i _ (l.take i) rfl rfl (HSA.out.1.below HW0.out.1) HW0.out.1.size (by have := HSZ.out; omega) ?_
        intro v38 W1 ho1 hb1
        rw [List.nil_append, Nat.zero_add] at ho1
        obtain ⟨W2, hW2⟩ : ∃ W2, W1.alloc (.cells #[.string s] 9) = W2 := ⟨_, rfl⟩
        have HW2 : Hid (W2.ownsRow w.heap.size 9 1 v38 i (strC (l.take i)) ∧ Below w.heap.size w W2 ∧ Strs W2 (some ⟨W1.heap.size, 0, none⟩) 1 [s]) := by
          rw [← hW2]
          exact ⟨ownsRow_below ho1.out (below_al _ _), below_tr (HW0.out.1.trans hb1.out) (below_al _ _), strs_new _ _⟩
        clear ho1 hb1 hW0
        go_wp2_with (with_reducible change wpList _ _ _ ({ dst := some 42, op := _, type := _, pos := _, after := _, guard := _ } :: _) _ _; refine Hid.out ?_)
        show wpList _ _ _ _ _ _
        refine wpList_append_mine rfl (.tmp 39) (.tmp 41) rfl W2 w.heap.size v38 i (l.take i) HW2.out.1 _ 1 1 [s] rfl rfl HW2.out.2.2 HW2.out.2.1.size (by have := HSZ.out; omega) ?_
        intro v42 W3 ho3 hb3
        have HW3 : Hid (W3.ownsRow w.heap.size 9 1 v42 (i + 1) (strC (l.take i ++ [s])) ∧ Below w.heap.size w W3) := ⟨ho3.out, HW2.out.2.1.trans hb3.out⟩
        clear ho3 hb3 hW2
        go_wp2_with (with_reducible change wpList _ _ _ ({ dst := some 47, op := _, type := _, pos := _, after := _, guard := _ } :: _) _ _; refine Hid.out ?_)
        all_goals
          show wpList _ _ _ _ _ _
          refine wpList_append_mine rfl (.tmp 43) (.tmp 46) rfl W3 w.heap.size v42 (i + 1) (l.take i ++ [s]) HW3.out.1 _ (n - i) _ (l.drop i) rfl rfl (by first | exact HSA.out.2.below HW3.out.2 | exact ⟨by rw [List.length_drop, HL.out.1], fun hp => by have := HSZ.out; omega⟩) HW3.out.2.size (by have := HSZ.out; omega) ?_
          intro v47 W4 ho4 hb4
          have HW4 : Hid (TS W4 v47 (withB s l) ∧ Below w.heap.size w W4) := by
            refine ⟨?_, HW3.out.2.trans hb4.out⟩
            rw [HWB.out]
            exact TS.own (by have := ho4.out; rw [List.append_assoc] at this; exact this)
          clear ho4 hb4
          go_wp2
          go_ret
          exact ⟨_, rfl, HW4.out.1, HW4.out.2⟩
      · have q1 : (i : Int) < (n : Int) := by omega
        obtain ⟨x, hx⟩ : ∃ x, l[i]? = some x := ⟨_, List.getElem?_eq_getElem (by rw [HL.out.1]; omega)⟩
        have c0 := HL.out.2.2.1 i x hx
        have HX : Hid (l[i]? = some x) := hx
        by_cases hlt : bk x < bk s
        · have q4 : Op.bytesLess x.toList s.toList = true := by rw [toList_bk, toList_bk, Go.Proofs.bytesLess_eq]; simpa using hlt
          have HN : Hid (∀ y ∈ l.take (i + 1), bk y < bk s) := by
            intro y hy
            rw [List.take_add_one, HX.out] at hy
            rcases List.mem_append.1 hy with hy | hy
            · exact x2 y hy
            · simp at hy; rw [hy]; exact hlt
          clear hlt hx x2 HI
          go_wp2
          refine ⟨⟨i + 1, by simp, by omega, by first | rfl | trivial, HN.out⟩, ?_⟩
          simp only [intOf]
          omega
        · have q4 : Op.bytesLess x.toList s.toList = false := by rw [toList_bk, toList_bk, Go.Proofs.bytesLess_eq]; simpa using hlt
          by_cases heq : x = s
          · have q5 : (x.toList == s.toList) = true := by rw [eq_iff]; simp [heq]
            have HWB : Hid (withB s l = l) := by
              show _ = _
              rw [withB_at s l i (by rw [HL.out.1]; omega) x2 (fun y hy => by rw [HX.out] at hy; cases hy; exact hlt), HX.out, heq]
              simp
            have HTS : Hid (TS w (.slice (some ⟨g, 0, none⟩) n c) l) := .inr ⟨g, c, by rw [HL.out.1], by rw [HL.out.1]; exact HL.out.2.2.2.1, HL.out.2.2.2.2.1, HL.out.2.1, HL.out.2.2.1⟩
            clear hlt hx x2 HI heq
            go_wp2
            go_ret
            exact ⟨_, rfl, by rw [HWB.out]; exact HTS.out, Below.refl _ _⟩
          · have q5 : (x.toList == s.toList) = false := by rw [eq_iff]; simp [heq]
            have HWB : Hid (withB s l = l.take i ++ ([s] ++ l.drop i)) := by
              show _ = _
              have hne : ¬ (some x = some s) := fun e => heq (by simpa using e)
              rw [withB_at s l i (by rw [HL.out.1]; omega) x2 (fun y hy => by rw [HX.out] at hy; cases hy; exact hlt), HX.out, if_neg hne]
              simp
            have q3 : (i : Int) ≤ (c : Int) := by omega
            clear hlt hx x2 HI heq
            have HB0 : Hid (w.heap.size ≤ w.heap.size) := Nat.le_refl _
            obtain ⟨W0, hW0⟩ : ∃ W0, w.alloc (.cells #[] 9) = W0 := ⟨_, rfl⟩
            have HW0 : Hid (Below w.heap.size w W0 ∧ W0.ownsRow w.heap.size 9 1 (.slice (some ⟨w.heap.size, 0, none⟩) 0 0) 0 (strC [])) := by rw [← hW0]; exact ⟨below_al _ _, empty_row w 9 1⟩
            go_wp2_with (with_reducible change wpList _ _ _ ({ dst := some 38, op := _, type := _, pos := _, after := _, guard := _ } :: _) _ _; refine Hid.out ?_)
            show wpList _ _ _ _ _ _
            refine wpList_append_mine rfl (.tmp 34) (.tmp 37) rfl W0 w.heap.size _ 0 [] HW0.out.2 _ i _ (l.take i) rfl rfl (HSA.out.1.below HW0.out.1) HW0.out.1.size (by have := HSZ.out; omega) ?_
            intro v38 W1 ho1 hb1
            rw [List.nil_append, Nat.zero_add] at ho1
            obtain ⟨W2, hW2⟩ : ∃ W2, W1.alloc (.cells #[.string s] 9) = W2 := ⟨_, rfl⟩
            have HW2 : Hid (W2.ownsRow w.heap.size 9 1 v38 i (strC (l.take i)) ∧ Below w.heap.size w W2 ∧ Strs W2 (some ⟨W1.heap.size, 0, none⟩) 1 [s]) := by
              rw [← hW2]
              exact ⟨ownsRow_below ho1.out (below_al _ _), below_tr (HW0.out.1.trans hb1.out) (below_al _ _), strs_new _ _⟩
            clear ho1 hb1 hW0
            go_wp2_with (with_reducible change wpList _ _ _ ({ dst := some 42, op := _, type := _, pos := _, after := _, guard := _ } :: _) _ _; refine Hid.out ?_)
            show wpList _ _ _ _ _ _
            refine wpList_append_mine rfl (.tmp 39) (.tmp 41) rfl W2 w.heap.size v38 i (l.take i) HW2.out.1 _ 1 1 [s] rfl rfl HW2.out.2.2 HW2.out.2.1.size (by have := HSZ.out; omega) ?_
            intro v42 W3 ho3 hb3
            have HW3 : Hid (W3.ownsRow w.heap.size 9 1 v42 (i + 1) (strC (l.take i ++ [s])) ∧ Below w.heap.size w W3) := ⟨ho3.out, HW2.out.2.1.trans hb3.out⟩
            clear ho3 hb3 hW2
            go_wp2_with (with_reducible change wpList _ _ _ ({ dst := some 47, op := _, type := _, pos := _, after := _, guard := _ } :: _) _ _; refine Hid.out ?_)
            all_goals
              show wpList _ _ _ _ _ _
              refine wpList_append_mine rfl (.tmp 43) (.tmp 46) rfl W3 w.heap.size v42 (i + 1) (l.take i ++ [s]) HW3.out.1 _ (n - i) _ (l.drop i) rfl rfl (by first | exact HSA.out.2.below HW3.out.2 | exact ⟨by rw [List.length_drop, HL.out.1], fun hp => by have := HSZ.out; omega⟩) HW3.out.2.size (by have := HSZ.out; omega) ?_
              intro v47 W4 ho4 hb4
              have HW4 : Hid (TS W4 v47 (withB s l) ∧ Below w.heap.size w W4) := by
                refine ⟨?_, HW3.out.2.trans hb4.out⟩
                rw [HWB.out]
                exact TS.own (by have := ho4.out; rw [List.append_assoc] at this; exact this)
              clear ho4 hb4
              go_wp2
              go_ret
              exact ⟨_, rfl, HW4.out.1, HW4.out.2⟩
end Go.Proofs.Ytgdecjacbkicmaa.Oct

/- Layer 10 (patch): the reference's Paths. -/
namespace Go.Proofs.Ytgdecjacbkicmaa.Oct
open Go.RowKit
set_option maxRecDepth 100000
set_option linter.unusedSimpArgs false
set_option linter.unusedVariables false

theorem withB_len (s : BA) : ∀ l : List BA, (withB s l).length ≤ l.length + 1
  | [] => by simp [withB]
  | x :: l => by
    have ih := withB_len s l
    unfold withB
    split
    · simp only [List.length_cons]; omega
    · split <;> simp
/-- which paths operations touch -/
def pathsB (O : List OpV) : List BA := O.foldl (fun l o => withB o.path l) []
theorem pathsB_next {O : List OpV} {i : Nat} {o : OpV} (h : O[i]? = some o) : pathsB (O.take (i + 1)) = withB o.path (pathsB (O.take i)) := by
  unfold pathsB
  rw [List.take_add_one, h, List.foldl_append]
  rfl
theorem pathsB_len : ∀ (O : List OpV) (i : Nat), (pathsB (O.take i)).length ≤ i
  | O, 0 => by simp [pathsB]
  | O, i + 1 => by
    have ih := pathsB_len O i
    cases h : O[i]? with
    | none =>
      rw [List.take_add_one, h, Option.toList_none, List.append_nil]
      omega
    | some o =>
      rw [pathsB_next h]
      have := withB_len o.path (pathsB (O.take i))
      omega
theorem TS.nil (w : World) : TS w (.slice none 0 0) [] := .inl ⟨rfl, rfl⟩
set_option maxHeartbeats 4000000 in
theorem rpaths_is (w : World) (p : PV) (h : PR w p) (hz : p.on ≤ 300) : Calls Try.prog 14 #[.agg p.cells.toArray] w fun e w' => ∃ v, e = .returned v ∧ Hid (TS w' v (pathsB p.O)) ∧ Below w.heap.size w w' := by
  obtain ⟨d, hd⟩ : ∃ d, w.heap.size = d := ⟨_, rfl⟩
  obtain ⟨W, hW⟩ : ∃ W, w.alloc (.cells p.cells.toArray 25) = W := ⟨_, rfl⟩
  have hk : Blk W d 25 p.cells := by rw [← hW, ← hd]; exact Blk.new w _ _
  have hbw : Below w.heap.size w W := by rw [← hW]; exact below_al _ _
  obtain ⟨n, hn⟩ : ∃ n, p.on = n := ⟨_, rfl⟩
  have HP : Hid (PR W p ∧ Below w.heap.size w W ∧ Blk W d 25 p.cells ∧ p.on = n ∧ n ≤ 300) := ⟨h.below hbw, hbw, hk, hn, by omega⟩
  have qn : (n : Int) ≤ 300 := by omega
  have ql := h.ops.1
  have HLN : Hid (p.O.length = n) := by show _ = _; rw [ql, hn]
  clear h hz hk hbw hn ql
  go_enter Try.func14, Try.ntmps14
  go_wp2_with fail
  clear hd hW
  go_loopw [4, 3] (fun u v wr => ∃ i : Nat, u = iv (i : Int) ∧ (i : Int) ≤ (n : Int) ∧ Hid (TS wr v (pathsB (p.O.take i)) ∧ Below W.heap.size W wr)) (fun u _ _ => n - (intOf u).toNat)
  case atStart => exact ⟨0, rfl, by omega, TS.nil _, Below.refl _ _⟩
  case round =>
    obtain ⟨V, hV⟩ : ∃ V, V = wr := ⟨_, rfl⟩
    subst hV
    obtain ⟨i, rfl, qi, HI⟩ := hrel
    have kV : Blk V d 25 p.cells := HP.out.2.2.1.below HI.out.2 HP.out.2.2.1.lt
    have c4 : V.cell? ⟨d, 4, none⟩ = some (.slice p.oa n p.oc) := by rw [← HP.out.2.2.2.1]; exact kV.cell rfl
    have hPV := HP.out.1.below HI.out.2
    by_cases hi : i < n
    · have q1 : (i : Int) < (n : Int) := by omega
      have g1 : decide ((i : Int) < (n : Int)) = true := decide_eq_true q1
      obtain ⟨x, hx⟩ : ∃ x, p.O[i]? = some x := ⟨_, List.getElem?_eq_getElem (by rw [HLN.out]; exact hi)⟩
      obtain ⟨g, off, hoa, hg, hel⟩ := hPV.ops.2.2 (by rw [HP.out.2.2.2.1]; omega)
      rw [hoa] at c4
      have k1 : V.cell? ⟨g, off + i * 69 + 1, none⟩ = some (.string x.path) := hel i x hx 1 _ x.c1
      have HX : Hid (i < n ∧ p.O[i]? = some x) := ⟨hi, hx⟩
      clear kV hPV hx hoa hg hel qi hi
      go_wp2_with fail
      refine (with_is x.path (pathsB (p.O.take i)) _ V HI.out.1 (by have := pathsB_len p.O i; have := HX.out.1; have := HP.out.2.2.2.2; omega)).mono ?_
      rintro e V2 ⟨v2, rfl, hts, hb2⟩
      have HF : Hid (TS V2 v2 (pathsB (p.O.take (i + 1))) ∧ Below W.heap.size W V2) := ⟨by rw [pathsB_next HX.out.2]; exact hts, below_tr HI.out.2 hb2⟩
      clear hts hb2 c4 k1 HI g1
      go_wp2
      go_roundw
      case rel => exact ⟨i + 1, by simp, by have := HX.out.1; omega, HF.out.1, HF.out.2⟩
      case measure => have := HX.out.1; simp only [intOf]; omega
    · have g1 : decide ((i : Int) < (n : Int)) = false := decide_eq_false (by omega)
      have q5 : (n : Int) ≤ (i : Int) := by omega
      have hf := HI.out.1
      rw [List.take_of_length_le (by rw [HLN.out]; omega)] at hf
      have HF : Hid (TS V _ (pathsB p.O) ∧ Below w.heap.size w V) := ⟨hf, below_tr HP.out.2.1 HI.out.2⟩
      clear hf hi HI kV hPV qi
      go_wp2
      go_ret
      exact ⟨_, rfl, HF.out.1, HF.out.2⟩
end Go.Proofs.Ytgdecjacbkicmaa.Oct

/- A range over a function whose body may leave: what stands between two rounds is told by a place (a number); what is handed out is told by a list. Of no program. -/
namespace Go.Proofs.Ytgdecjacbkicmaa.Oct
open Go.RowKit

/-- cells of texts -/
def RowAt (A : World) (b : Nat) : Prop := ∃ cs fr, A.heap[b]? = some (.cells cs 9 fr)
/-- blocks from m₀ on, but for those of texts, lie as they lay -/
def HeldR (m₀ : Nat) (A B : World) : Prop := A.heap.size ≤ B.heap.size ∧ ∀ b, b < A.heap.size → m₀ ≤ b → ¬ RowAt A b → B.heap[b]? = A.heap[b]?
theorem HeldR.mono {m₀ m₁ : Nat} {A B : World} (h : HeldR m₀ A B) (hm : m₀ ≤ m₁) : HeldR m₁ A B := ⟨h.1, fun b h1 h2 => h.2 b h1 (by omega)⟩
theorem HeldR.of_below {m₀ : Nat} {A B : World} (h : Below A.heap.size A B) : HeldR m₀ A B := ⟨h.size, fun b h1 _ _ => h.block b h1⟩
theorem HeldR.obj {m₀ : Nat} {A B : World} (h : HeldR m₀ A B) {b : Nat} {o : Obj} (ho : A.heap[b]? = some o) (hn : ∀ cs fr, o ≠ .cells cs 9 fr) (hb : m₀ ≤ b) : B.heap[b]? = some o :=
  (h.2 b (Array.getElem?_eq_some_iff.1 ho).1 hb (by rintro ⟨cs, fr, e⟩; rw [ho] at e; exact hn cs fr (Option.some.inj e))).trans ho
theorem HeldR.box {m₀ : Nat} {A B : World} (h : HeldR m₀ A B) {b : Nat} {C : Array Value} {t : TypeId} {fr : Nat × Nat} (ho : A.heap[b]? = some (.cells C t fr)) (hn : t ≠ 9) (hb : m₀ ≤ b) : B.heap[b]? = some (.cells C t fr) :=
  h.obj ho (by rintro cs fr e; cases e; exact hn rfl) hb
theorem HeldR.trans {m₀ : Nat} {A B C : World} (h : HeldR m₀ A B) (k : HeldR m₀ B C) : HeldR m₀ A C :=
  ⟨Nat.le_trans h.1 k.1, fun b h1 h2 h3 => by
    have e := h.2 b h1 h2 h3
    exact (k.2 b (Nat.lt_of_lt_of_le h1 h.1) h2 (by rintro ⟨cs, fr, e2⟩; exact h3 ⟨cs, fr, by rw [← e]; exact e2⟩)).trans e⟩

/-- what lies below D, and all cells of texts, lie as they lay -/
structure BelowR (D : Nat) (A B : World) : Prop where
  below : Below D A B
  rows : ∀ b, b < A.heap.size → RowAt A b → B.heap[b]? = A.heap[b]?
theorem BelowR.mono {D D' : Nat} {A B : World} (h : BelowR D A B) (hD : D' ≤ D) : BelowR D' A B := ⟨h.below.mono hD, h.rows⟩
theorem BelowR.full {D : Nat} {A B : World} (h : Below A.heap.size A B) (hD : D ≤ A.heap.size) : BelowR D A B := ⟨h.mono hD, fun b hb _ => h.block b hb⟩
theorem belowR_putObj {D : Nat} {W : World} {l : Nat} {o' : Obj} (o : Obj) (h : D ≤ l) (hl : W.heap[l]? = some o') (hn : ∀ cs fr, o' ≠ .cells cs 9 fr) : BelowR D W (W.putObj l o) :=
  ⟨below_putObj D W l o h, fun b _ hr => World.putObj_heap_other (by
    rintro rfl
    obtain ⟨cs, fr, e⟩ := hr
    rw [hl] at e
    exact hn cs fr (Option.some.inj e))⟩
theorem loop_row {x : Loop} : ∀ cs fr, Obj.loop x ≠ .cells cs 9 fr := by rintro cs fr e; cases e
theorem def_row {x : Option (List Deferred)} : ∀ cs fr, Obj.deferred x ≠ .cells cs 9 fr := by rintro cs fr e; cases e

/-- how the body of a round may be left -/
def leavePostR (I : Nat → World → Prop) (Ix : Code → World → Prop) (D : Nat) (s : Nat) (W : World) : Exit → Act → World → Prop
  | .normal, _, W' => I (s + 1) W' ∧ HeldR D W W'
  | .ret, _, W' => Ix .ret W' ∧ HeldR D W W'
  | .exit id, _, W' => Ix (.exit id) W' ∧ HeldR D W W'
  | .goto t, _, W' => Ix (.goto t) W' ∧ HeldR D W W'
  | .panic _, _, _ => False
  | .outgrown, _, _ => False

theorem rangeLeaveR {P : Program} {n : Nat} {g : Operand} {ps : Array Tmp} {assign body : Code} {Q : Exit → Act → World → Prop} {a : Act} {w : World} {X : Type} {gf : Nat} {lb : Array Value}
    (hg : a.eval g = .func (.func gf) #[] lb) (eg : ∀ args w, (callFunc gf args).run P w = .ok (.enter gf args) w)
    (enc : Nat → X → Array Value) (hps : ∀ s x, (enc s x).size = ps.size) (xs : List X)
    (I : Nat → World → Prop) (Ix : Code → World → Prop) (hI : ∀ s A B, I s A → BelowR w.heap.size A B → I s B) (hIx : ∀ c A B, Ix c A → BelowR w.heap.size A B → Ix c B)
    (h0 : I 0 w) (a₁ : Nat → X → Act)
    (hassign : ∀ (s : Nat) (x : X) (W : World) (K : Act → World → Prop), K (a₁ s x) W →
      assign.wpIn (Fence.wide.inRound (w.heap.size + 1)) (n - 1 - 1) P (Exit.then K (fun _ _ _ => False)) { tmps := (ps.zip (enc s x)).foldl (fun t (p, v) => t.setIfInBounds p v) a.tmps, defers := [] } W)
    (hbody : ∀ (s : Nat) (x : X) (W : World), I s W → xs[s]? = some x → w.heap.size + 1 < W.heap.size → body.wpIn (Fence.wide.inRound (w.heap.size + 1)) (n - 1 - 1) P
      (leavePostR I Ix w.heap.size s W) (a₁ s x) W)
    (hiter : ∀ (J : Nat → World → Prop) (Jx : World → Prop) (W : World), W.heap.size = w.heap.size + 2 → Below w.heap.size w W → (∀ s A B, J s A → BelowR (w.heap.size + 2) A B → J s B) → (∀ A B, Jx A → BelowR (w.heap.size + 2) A B → Jx B) → (∀ s A, J s A → I s A ∧ w.heap.size + 2 ≤ A.heap.size) → (∀ A, Jx A → (∃ c, Ix c A) ∧ w.heap.size + 2 ≤ A.heap.size) →
      (∀ s x A, J s A → xs[s]? = some x → YieldAt Fence.wide (n - 1 - 1) P (w.heap.size + 1) (enc s x) A fun e B => HeldR (w.heap.size + 2) A B ∧ ((e = .returned (.bool true) ∧ J (s + 1) B) ∨ (e = .returned (.bool false) ∧ Jx B))) → J 0 W →
      CallsIn Fence.wide (n - 1) P gf (#[.func (.yield (w.heap.size + 1)) #[] #[]] ++ lb) W fun e B => (∃ v, e = .returned v) ∧ (J xs.length B ∨ Jx B))
    (hdone : ∀ (W : World), I xs.length W → W.heap[w.heap.size]? = some (.deferred (some [])) → Q .normal { a with defers := { target := .collected w.heap.size, args := #[] } :: a.defers } W)
    (hstop : ∀ (c : Code) (W : World), Ix c W → W.heap[w.heap.size]? = some (.deferred (some [])) → c.wpIn Fence.wide n P Q { a with defers := { target := .collected w.heap.size, args := #[] } :: a.defers } W) :
    (Code.rangeFunc g ps assign body).wpIn Fence.wide n P Q a w := by
  refine wpIn_rangeFunc fun fn hfn => ?_
  obtain ⟨rec, hrec⟩ : ∃ rec : LoopState → Option Code → Loop, rec = fun st pe => { state := st, pending := pe, fn, tmps := a.tmps, params := ps, assign, body, defers := w.heap.size } := ⟨_, rfl⟩
  obtain ⟨W1, hW1⟩ : ∃ W1, (w.alloc (.deferred (some []))).alloc (.loop (rec .ready none)) = W1 := ⟨_, rfl⟩
  have hS1 : W1.heap.size = w.heap.size + 2 := by rw [← hW1]; simp
  have hB1 : Below w.heap.size w W1 := by rw [← hW1]; exact ((Below.refl _ w).alloc (Nat.le_refl _) _).alloc (by simp) _
  have hL1 : W1.heap[w.heap.size + 1]? = some (.loop (rec .ready none)) := by
    have e := World.alloc_heap_new (w.alloc (.deferred (some []))) (.loop (rec .ready none))
    rw [World.size_alloc, hW1] at e
    exact e
  have hD1 : W1.heap[w.heap.size]? = some (.deferred (some [])) := by
    rw [← hW1]
    exact (Below.heap_alloc _ _ _ (by simp)).trans (World.alloc_heap_new w _)
  have hcall := hiter (fun s W => I s W ∧ W.heap[w.heap.size + 1]? = some (.loop (rec .ready none)) ∧ W.heap[w.heap.size]? = some (.deferred (some [])))
    (fun W => ∃ c, Ix c W ∧ W.heap[w.heap.size + 1]? = some (.loop (rec .done (some c))) ∧ W.heap[w.heap.size]? = some (.deferred (some []))) W1 hS1 hB1
    (fun s A B hs hb => ⟨hI s A B hs.1 (hb.mono (by omega)), (hb.below.block _ (by omega)).trans hs.2.1, (hb.below.block _ (by omega)).trans hs.2.2⟩)
    (fun A B hs hb => by obtain ⟨c, h1, h2, h3⟩ := hs; exact ⟨c, hIx c A B h1 (hb.mono (by omega)), (hb.below.block _ (by omega)).trans h2, (hb.below.block _ (by omega)).trans h3⟩)
    (fun s A hs => ⟨hs.1, (Array.getElem?_eq_some_iff.1 hs.2.1).1⟩) (fun A hs => by obtain ⟨c, h1, h2, _⟩ := hs; exact ⟨⟨c, h1⟩, (Array.getElem?_eq_some_iff.1 h2).1⟩) ?rounds ⟨hI 0 w W1 h0 (BelowR.full hB1 (Nat.le_refl _)), hL1, hD1⟩
  case rounds =>
    rintro s x A ⟨hi, hl, hd⟩ hp
    have hlt : w.heap.size + 1 < A.heap.size := (Array.getElem?_eq_some_iff.1 hl).1
    have hy := run_yield (P := P) (args := enc s x) hl (by rw [hrec]; exact hps s x)
    rw [hrec] at hy
    refine ⟨fn, _, assign, body, hy, roundIn_of_wpIn hfn (hassign s x A _ ⟨_, run_beginRound hl (by rw [hrec]), ?_⟩)⟩
    have hb : (A.putObj (w.heap.size + 1) (.loop { rec .ready none with state := .busy })).heap[w.heap.size + 1]? = some (.loop { rec .ready none with state := .busy }) := World.putObj_heap_same hlt
    have hd2 : (A.putObj (w.heap.size + 1) (.loop { rec .ready none with state := .busy })).heap[w.heap.size]? = some (.deferred (some [])) := (World.putObj_heap_other (by omega)).trans hd
    have hi2 := hI s A _ hi (belowR_putObj (.loop { rec .ready none with state := .busy }) (by omega) hl loop_row)
    refine wpIn_mono (hbody s x _ hi2 hp (by simpa using hlt)) ?_
    have fin : ∀ (jump : Option Code) (B : World), HeldR w.heap.size (A.putObj (w.heap.size + 1) (.loop { rec .ready none with state := .busy })) B →
        (Instr.endRound (w.heap.size + 1) jump).run P B = .ok (.bool jump.isNone) (B.putObj (w.heap.size + 1) (.loop (rec (if jump.isNone then .ready else .done) jump))) ∧
        (B.putObj (w.heap.size + 1) (.loop (rec (if jump.isNone then .ready else .done) jump))).heap[w.heap.size + 1]? = some (.loop (rec (if jump.isNone then .ready else .done) jump)) ∧
        (B.putObj (w.heap.size + 1) (.loop (rec (if jump.isNone then .ready else .done) jump))).heap[w.heap.size]? = some (.deferred (some [])) ∧
        HeldR (w.heap.size + 2) A (B.putObj (w.heap.size + 1) (.loop (rec (if jump.isNone then .ready else .done) jump))) ∧ BelowR w.heap.size B (B.putObj (w.heap.size + 1) (.loop (rec (if jump.isNone then .ready else .done) jump))) := by
      intro jump B hh
      have hl3 := hh.obj hb (by rintro cs fr e; cases e) (by omega)
      have hd3 := hh.obj hd2 (by rintro cs fr e; cases e) (Nat.le_refl _)
      have hr := run_endRound (P := P) jump hl3
      rw [hrec] at hr hl3 ⊢
      refine ⟨hr, World.putObj_heap_same (Array.getElem?_eq_some_iff.1 hl3).1, (World.putObj_heap_other (by omega)).trans hd3, ⟨?_, ?_⟩, belowR_putObj _ (by omega) hl3 loop_row⟩
      · have := hh.1; simp at this ⊢; exact this
      · intro b h1 h2 h3
        rw [World.putObj_heap_other (by omega), hh.2 b (by simpa using h1) (by omega) (by rintro ⟨cs, fr, e⟩; rw [World.putObj_heap_other (by omega)] at e; exact h3 ⟨cs, fr, e⟩), World.putObj_heap_other (by omega)]
    rintro e a3 B hp
    cases e with
    | normal =>
      obtain ⟨hi3, hh⟩ := hp
      obtain ⟨hr, hl4, hk4, hh4, hr4⟩ := fin none B hh
      exact ⟨_, _, hr, hh4, .inl ⟨rfl, hI _ B _ hi3 hr4, hl4, hk4⟩⟩
    | ret =>
      obtain ⟨hi3, hh⟩ := hp
      obtain ⟨hr, hl4, hk4, hh4, hr4⟩ := fin (some .ret) B hh
      exact ⟨_, _, hr, hh4, .inr ⟨rfl, .ret, hIx _ B _ hi3 hr4, hl4, hk4⟩⟩
    | exit id =>
      obtain ⟨hi3, hh⟩ := hp
      obtain ⟨hr, hl4, hk4, hh4, hr4⟩ := fin (some (.exit id)) B hh
      exact ⟨_, _, hr, hh4, .inr ⟨rfl, .exit id, hIx _ B _ hi3 hr4, hl4, hk4⟩⟩
    | goto t =>
      obtain ⟨hi3, hh⟩ := hp
      obtain ⟨hr, hl4, hk4, hh4, hr4⟩ := fin (some (.goto t)) B hh
      exact ⟨_, _, hr, hh4, .inr ⟨rfl, .goto t, hIx _ B _ hi3 hr4, hl4, hk4⟩⟩
    | panic ch => exact hp.elim
    | outgrown => exact hp.elim
  refine ⟨w.heap.size + 1, [{ target := .collected w.heap.size, args := #[] }], W1, { target := .fn (.func gf) lb, args := #[.func (.yield (w.heap.size + 1)) #[] #[]] }, W1, gf, #[.func (.yield (w.heap.size + 1)) #[] #[]] ++ lb, W1, ?_, ?_, ?_, ?_, ?_, ?_⟩
  · rw [← hW1, hrec]; exact run_enterLoop_outer _ _ _ _ _
  · simp only [resolve, hg]
    simp [go_sem]
  · intro f' _; trivial
  · simp [invoke, go_sem, eg]
  · intro h; cases h
  · refine hcall.mono ?_
    rintro e B ⟨⟨v, rfl⟩, ⟨hi, hl, hd⟩ | ⟨c, hi, hl, hd⟩⟩
    · have he := run_endLoop (P := P) hl (by rw [hrec]; simp)
      refine ⟨none, _, by rw [hrec] at he; exact he, ?_⟩
      exact hdone _ (hI _ B _ hi (belowR_putObj _ (by omega) hl loop_row)) ((World.putObj_heap_other (by omega)).trans hd)
    · have he := run_endLoop (P := P) hl (by rw [hrec]; simp)
      refine ⟨some c, _, by rw [hrec] at he; exact he, ?_⟩
      exact hstop c _ (hIx c B _ hi (belowR_putObj _ (by omega) hl loop_row)) ((World.putObj_heap_other (by omega)).trans hd)
end Go.Proofs.Ytgdecjacbkicmaa.Oct

/- Layer 10 (patch): slices.Values of texts. -/
namespace Go.Proofs.Ytgdecjacbkicmaa.Oct
open Go.RowKit
set_option maxRecDepth 100000
set_option linter.unusedSimpArgs false
set_option linter.unusedVariables false

attribute [local go_sem] Oper.semAt_some
set_option maxHeartbeats 2000000 in
theorem values1_in (d l Bs : Nat) (a : Option Addr) (n c : Nat) (ls : List BA) (hn : n ≤ 1000000) (J : Nat → World → Prop) (Jx : World → Prop)
    (hJS : ∀ t A, J t A → Strs A a n ls)
    (hY : ∀ t x A, J t A → ls[t]? = some x → YieldAt Fence.wide (d - 1) Try.prog l #[.string x] A fun e B => (e = .returned (.bool true) ∧ J (t + 1) B) ∨ (e = .returned (.bool false) ∧ Jx B))
    (W : World) (hc : W.cell? ⟨Bs, 0, none⟩ = some (.slice a n c)) (h0 : J 0 W) :
    CallsIn Fence.wide d Try.prog 77 #[.func (.yield l) #[] #[], .pointer (some ⟨Bs, 0, none⟩)] W fun e B => (∃ v, e = .returned v) ∧ (J ls.length B ∨ Jx B) := by
  refine callsIn_of_wp Try.func77 rfl trivial ?_ rfl
  simp only [Try.ntmps77, List.size_toArray, List.length_cons, List.length_nil, Nat.reduceAdd, Nat.reduceSub, Array.replicate_succ, Array.replicate_zero, List.push_toArray, List.append_toArray, List.nil_append, List.cons_append]
  have qn : (n : Int) ≤ 1000000 := by omega
  have HL : Hid (ls.length = n) := (hJS 0 W h0).1
  clear hn
  gi_wp2
  clear hc
  gi_loopw [7] (fun u wr => ∃ t : Nat, u = iv (t : Int) ∧ (t : Int) ≤ (n : Int) ∧ Hid (J t wr)) (fun u _ => n - (intOf u).toNat)
  case atStart => exact ⟨0, rfl, by omega, h0⟩
  case round =>
    obtain ⟨t, rfl, qt, HJ⟩ := hrel
    by_cases ht : t < n
    · have q1 : (t : Int) < (n : Int) := by omega
      have g1 : decide ((t : Int) < (n : Int)) = true := decide_eq_true q1
      obtain ⟨x, hx⟩ : ∃ x, ls[t]? = some x := ⟨_, List.getElem?_eq_getElem (by rw [HL.out]; exact ht)⟩
      obtain ⟨b, off, ea, hb, hse⟩ := (hJS t wr HJ.out).2 (by omega)
      subst ea
      have kt : wr.cell? ⟨b, off + t, none⟩ = some (.string x) := hse t x hx
      obtain ⟨fn, tmps, assign, body, hy, hR⟩ := hY t x wr HJ.out hx
      have HT : Hid (t < n) := ht
      clear hse hx hb ht qt
      gi_wp2
      refine ⟨(fun h => by cases h), hR.mono ?_⟩
      rintro e W3 (⟨rfl, hJ3⟩ | ⟨rfl, hJ3⟩)
      · have HJ3 : Hid (J (t + 1) W3) := hJ3
        clear hy hR hJ3 kt g1
        gi_wp2
        go_roundw
        case rel => exact ⟨t + 1, by simp, by have := HT.out; omega, HJ3.out⟩
        case measure => have := HT.out; simp only [intOf]; omega
      · gi_wp2
        refine bodyPost_ret (results_none rfl _ _ _) rfl ?_
        exact ⟨⟨_, rfl⟩, .inr hJ3⟩
    · have g1 : decide ((t : Int) < (n : Int)) = false := decide_eq_false (by omega)
      have q5 : (n : Int) ≤ (t : Int) := by omega
      have e : t = ls.length := by rw [HL.out]; omega
      have HF : Hid (J ls.length wr) := by rw [← e]; exact HJ.out
      clear e ht qt
      gi_wp2
      go_end0
      exact ⟨⟨_, rfl⟩, .inl HF.out⟩
theorem values_is (a : Option Addr) (n c : Nat) (w : World) : Calls Try.prog 47 #[.slice a n c] w fun e w' => e = .returned (.func (.func 77) #[] #[.pointer (some ⟨w.heap.size, 0, none⟩)]) ∧ w' = w.alloc (.cells #[.slice a n c] 31) := by
  go_enter Try.func47, Try.ntmps47
  go_wp2
  go_ret
  exact ⟨rfl, rfl⟩
end Go.Proofs.Ytgdecjacbkicmaa.Oct

/- Layer 10 (patch): slices.AppendSeq and Collect of texts. -/
namespace Go.Proofs.Ytgdecjacbkicmaa.Oct
open Go.RowKit
set_option maxRecDepth 100000
set_option linter.unusedSimpArgs false
set_option linter.unusedVariables false

attribute [local go_sem] Oper.semAt_some
def pc (x : BA) : List Value := [.string x]
theorem strC_pc (l : List BA) : l.flatMap pc = strC l := by
  induction l with
  | nil => rfl
  | cons x l ih => rw [List.flatMap_cons, ih]; rfl
theorem info9p : (Try.prog.info? 9).map (fun i => (i.zero, i.size, i.bytes)) = some (some (.string ⟨#[]⟩), 1, 16) := by kernel_rfl
theorem pcell_one {A : World} {b : Nat} {v : Value} {t : TypeId} (h : A.heap[b]? = some (.cells #[v] t)) : A.cell? ⟨b, 0, none⟩ = some v := cell_one h
/-- between two rounds of AppendSeq -/
structure AInv (w : World) (ys : List BA) (s : Nat) (A : World) : Prop where
  be : Below w.heap.size w A
  out : ∃ v, A.heap[w.heap.size]? = some (.cells #[v] 31) ∧ A.ownsRow (w.heap.size + 1) 9 1 v s ((ys.take s).flatMap pc)
  le : w.heap.size + 1 ≤ A.heap.size
theorem town_below {w w' : World} {B C : Nat} {v : Value} {n : Nat} {xs : List Value} (h : w.ownsRow B 9 1 v n xs) (hb : Below C w w') (hC : w.heap.size ≤ C) : w'.ownsRow B 9 1 v n xs := by
  refine ⟨h.1, ?_⟩
  rcases h.2 with h2 | ⟨g, cap, cur, e, h3, h4, h5⟩
  · exact .inl h2
  · exact .inr ⟨g, cap, cur, e, h3, (hb.block g (Nat.lt_of_lt_of_le (lt_of_block h4) hC)).trans h4, h5⟩
theorem town_set {w : World} {B b : Nat} {v u : Value} {n : Nat} {xs : List Value} (h : w.ownsRow B 9 1 v n xs) (hb : b < B) : (w.setCell ⟨b, 0, none⟩ u).ownsRow B 9 1 v n xs := by
  refine ⟨h.1, ?_⟩
  rcases h.2 with h2 | ⟨g, cap, cur, e, h3, h4, h5⟩
  · exact .inl h2
  · exact .inr ⟨g, cap, cur, e, h3, by rw [heap_setCell_other w ⟨b, 0, none⟩ g u (by simp; omega)]; exact h4, h5⟩

theorem town_rows {w w' : World} {B C : Nat} {v : Value} {n : Nat} {xs : List Value} (h : w.ownsRow B 9 1 v n xs) (hb : BelowR C w w') : w'.ownsRow B 9 1 v n xs := by
  refine ⟨h.1, ?_⟩
  rcases h.2 with h2 | ⟨g, cap, cur, e, h3, h4, h5⟩
  · exact .inl h2
  · exact .inr ⟨g, cap, cur, e, h3, (hb.rows g (lt_of_block h4) ⟨cur, _, h4⟩).trans h4, h5⟩
theorem town_mono {w : World} {B B' : Nat} {v : Value} {n : Nat} {xs : List Value} (h : w.ownsRow B 9 1 v n xs) (hb : B' ≤ B) : w.ownsRow B' 9 1 v n xs := by
  refine ⟨h.1, ?_⟩
  rcases h.2 with h2 | ⟨g, cap, cur, e, h3, h4⟩
  · exact .inl h2
  · exact .inr ⟨g, cap, cur, e, Nat.le_trans hb h3, h4⟩
theorem town_shape {w : World} {B : Nat} {v : Value} {n : Nat} {xs : List Value} (h : w.ownsRow B 9 1 v (n + 1) xs) : ∃ g cap, v = .slice (some ⟨g, 0, none⟩) (n + 1) cap := by
  rcases h.2 with ⟨_, e⟩ | ⟨g, cap, cur, e, _⟩
  · omega
  · exact ⟨g, cap, e⟩
theorem ttold_box {A w' : World} {b n : Nat} {v : Value} {o : Obj} {B : Nat} {xs : List Value} (hv : A.heap[b]? = some (.cells #[v] 31)) (ho : A.ownsRow B 9 1 v n xs) (hg : (A.alloc o).grownBy w' v.ownBlock) (hb : b < B) : w'.heap[b]? = some (.cells #[v] 31) := by
  have hlt := lt_of_block hv
  refine (hg.block b (by simp; omega) fun e => ?_).trans ((Below.heap_alloc A o b hlt).trans hv)
  have := (ho.lt b e.symm).1
  omega
theorem AInv.step {w A w' : World} {s : Nat} {ys : List BA} {x : BA} {v v' : Value} (h : AInv w ys s A) (hv : A.heap[w.heap.size]? = some (.cells #[v] 31)) (ho : A.ownsRow (w.heap.size + 1) 9 1 v s ((ys.take s).flatMap pc)) (hx : ys[s]? = some x)
    (hg : (A.alloc (.cells #[.string x] 9)).grownBy w' v.ownBlock) (ho' : w'.ownsRow (w.heap.size + 1) 9 1 v' (s + 1) ((ys.take s).flatMap pc ++ pc x)) :
    AInv w ys (s + 1) (w'.setCell ⟨w.heap.size, 0, none⟩ v') ∧ HeldR (w.heap.size + 1) A (w'.setCell ⟨w.heap.size, 0, none⟩ v') := by
  have hrow : ∀ b, v.ownBlock = some b → w.heap.size + 1 ≤ b ∧ RowAt A b := by
    intro b hb
    rcases ho.2 with ⟨rfl, _⟩ | ⟨g, cap, cur, rfl, h3, h4, _⟩
    · cases hb
    · have : g = b := by simpa [Value.ownBlock] using hb
      subst this
      exact ⟨h3, cur, (0, 0), h4⟩
  have old : ∀ b, b < A.heap.size → some b ≠ v.ownBlock → w'.heap[b]? = A.heap[b]? := fun b hb hne =>
    (hg.block b (by simp; omega) hne).trans (Below.heap_alloc A _ b hb)
  have low : ∀ b, b < w.heap.size + 1 → w'.heap[b]? = A.heap[b]? := fun b hb => old b (by have := h.le; omega) (fun e => by have := (hrow b e.symm).1; omega)
  have low' : ∀ b, b < w.heap.size + 1 → b ≠ w.heap.size → (w'.setCell ⟨w.heap.size, 0, none⟩ v').heap[b]? = A.heap[b]? := fun b hb hne => by
    rw [heap_setCell_other w' ⟨w.heap.size, 0, none⟩ b v' hne]; exact low b hb
  have hsz : A.heap.size ≤ w'.heap.size := Nat.le_trans (by simp) hg.size
  refine ⟨⟨?_, ⟨v', ?_, ?_⟩, ?_⟩, ?_, ?_⟩
  · refine ⟨hg.os.trans h.be.os, hg.tape.trans h.be.tape, hg.output.trans h.be.output, by simp; have := h.be.size; omega, fun b hb => ?_⟩
    rw [low' b (by omega) (by omega)]; exact h.be.block b hb
  · have e := low w.heap.size (by omega)
    rw [hv] at e
    have := heap_setCell_same w' w.heap.size 0 _ 31 v' e
    simpa using this
  · have e : ys.take (s + 1) = ys.take s ++ [x] := by rw [List.take_add_one, hx]; rfl
    rw [e, List.flatMap_append]
    exact town_set (by simpa using ho') (by omega)
  · simp; have := h.le; omega
  · simp; exact hsz
  · intro b h1 h2 h3
    rw [heap_setCell_other w' ⟨w.heap.size, 0, none⟩ b v' (by show b ≠ w.heap.size; omega)]
    exact old b h1 (fun e => h3 (hrow b e.symm).2)
set_option maxHeartbeats 2000000 in
theorem append_seq_is (w : World) (Bs : Nat) (a : Option Addr) (n c : Nat) (ys : List BA) (hc : w.cell? ⟨Bs, 0, none⟩ = some (.slice a n c)) (hs : Strs w a n ys) (hn : n ≤ 1000000) :
    Calls Try.prog 97 #[.slice none 0 0, .func (.func 77) #[] #[.pointer (some ⟨Bs, 0, none⟩)]] w fun e w' => ∃ v, e = .returned v ∧ Hid (w'.ownsRow w.heap.size 9 1 v ys.length (strC ys)) ∧ Hid (Below w.heap.size w w') := by
  have HN : Hid (Strs w a n ys ∧ n ≤ 1000000 ∧ w.cell? ⟨Bs, 0, none⟩ = some (.slice a n c) ∧ Bs < w.heap.size) := ⟨hs, hn, hc, lt_of_cell hc⟩
  have HLY : Hid (ys.length ≤ 1000000) := by show _ ≤ _; rw [hs.1]; exact hn
  clear hs hn hc
  refine (callsIn_wide (n := 3)).1 ?_
  refine callsIn_of_wp_marks Try.func97 rfl trivial ?_ rfl
  simp only [Try.ntmps97, List.size_toArray, List.length_cons, List.length_nil, Nat.reduceAdd, Nat.reduceSub, Array.replicate_succ, Array.replicate_zero, List.push_toArray, List.append_toArray, List.nil_append, List.cons_append]
  obtain ⟨w1, hw1⟩ : ∃ w1, w.alloc (.cells #[.slice none 0 0] 31) = w1 := ⟨_, rfl⟩
  gi_wp2
  have HS1 : Hid (w1.heap.size = w.heap.size + 1) := by show _ = _; rw [← hw1]; simp
  have HI0 : Hid (AInv w ys 0 w1) := by
    have b0 : w1.heap[w.heap.size]? = some (.cells #[.slice none 0 0] 31) := by
      rw [← hw1]
      exact World.alloc_heap_new w _
    refine ⟨?_, ⟨_, b0, World.ownsRow_nil _ _ _ _⟩, Nat.le_of_eq HS1.out.symm⟩
    rw [← hw1]
    exact (Below.refl _ w).alloc (Nat.le_refl _) _
  clear hw1
  obtain ⟨i0, hi0, hii⟩ := Option.map_eq_some_iff.1 info9p
  simp only [Prod.mk.injEq] at hii
  refine rangeLeaveR (gf := 77) (lb := #[.pointer (some ⟨Bs, 0, none⟩)]) rfl (enters_of Try.func77 (by kernel_rfl) rfl) (fun _ x => #[.string x]) (fun _ _ => rfl) ys
    (AInv w ys) (fun _ _ => False) ?hI (fun _ _ _ h _ => h) HI0.out
    (fun _ x => { tmps := #[.slice none 0 0, .func (.func 77) #[] #[.pointer (some ⟨Bs, 0, none⟩)], .pointer (some ⟨w.heap.size, 0, none⟩), undef, .slice none 0 0, .string x, .func (.func 77) #[] #[.pointer (some ⟨Bs, 0, none⟩)], .string x, undef, undef, undef, undef, undef], defers := [] }) ?assign ?body ?iter ?done ?stop
  case hI =>
    rintro t A B h hb
    rw [HS1.out] at hb
    obtain ⟨v, h1, h2⟩ := h.out
    exact ⟨h.be.trans (hb.below.mono (by omega)), ⟨v, (hb.below.block _ (by omega)).trans h1, town_rows h2 hb⟩, Nat.le_trans h.le hb.below.size⟩
  case assign =>
    intro t x A K hK
    gi_wp2
    exact hK
  case body =>
    rintro t x A h hx hlt
    obtain ⟨v, h1, h2⟩ := h.out
    have HI : Hid (AInv w ys t A) := h
    have HX : Hid (ys[t]? = some x) := hx
    have HV : Hid (A.heap[w.heap.size]? = some (.cells #[v] 31)) := h1
    have HO : Hid (A.ownsRow (w.heap.size + 1) 9 1 v t ((ys.take t).flatMap pc)) := h2
    have cv := pcell_one h1
    have HL : Hid (t < ys.length) := (List.getElem?_eq_some_iff.1 hx).1
    have hlw : w.heap.size < A.heap.size := by have := h.le; omega
    have HC : Hid (∀ j u, (pc x)[j]? = some u → (A.alloc (.cells #[.string x] 9)).cell? ((⟨A.heap.size, 0, none⟩ : Addr).add j) = some u) := by
      intro j u hu
      rw [Addr.add_lit, Nat.zero_add]
      exact (Blk.new A #[.string x] 9).cell hu
    have HOA : Hid ((A.alloc (.cells #[.string x] 9)).ownsRow (w.heap.size + 1) 9 1 v t ((ys.take t).flatMap pc)) := town_below h2 ((Below.refl A.heap.size A).alloc (Nat.le_refl _) _) (Nat.le_refl _)
    have hbs := run_bs31 x
    clear h hx h1 h2 hlt
    gi_wp2_with (
      with_reducible change wpListIn _ _ _ _ _ ({ dst := some 11, op := _, type := _, pos := _, after := _, guard := _ } :: _) _ _
      refine wpListIn_append_own (A.alloc (.cells #[.string x] 9)) rfl (.tmp 8) (.tmp 10) 31 rfl (w.heap.size + 1) 9 i0 _ 1 16 Try.underlying31 hi0 hii.1 hii.2.1 hii.2.2 rfl (by omega) v t _ rfl HOA.out ⟨A.heap.size, 0, none⟩ 1 1 (pc x) rfl rfl HC.out (by intro u hu; simp only [pc, List.mem_cons, List.not_mem_nil, or_false] at hu; rcases hu with rfl; rfl) (by have := HL.out; have := HLY.out; unfold maxLen; omega) (by have := HL.out; have := HLY.out; omega) (by have := HI.out.le; simp; omega) ?_
      intro v' w' ho' hg' hn'
      obtain ⟨g', cap', rfl⟩ := town_shape ho'
      have HO' : Hid (w'.ownsRow (w.heap.size + 1) 9 1 (.slice (some ⟨g', 0, none⟩) (t + 1) cap') (t + 1) ((ys.take t).flatMap pc ++ pc x)) := ho'
      have HG' : Hid ((A.alloc (.cells #[.string x] 9)).grownBy w' v.ownBlock) := hg'
      have hv' := ttold_box HV.out HO.out hg' (by omega)
      have cw := pcell_one hv'
      have fw : w'.frozen? ⟨w.heap.size, 0, none⟩ = false := frozen_of_row w' w.heap.size 0 _ 31 hv'
      clear ho' hg' hn' hv')
    have hE := AInv.step HI.out HV.out HO.out HX.out HG'.out HO'.out
    exact ⟨hE.1, by rw [HS1.out]; exact hE.2⟩
  case iter =>
    intro J' Jx' A hS hB hJ'b hJx'b hJ'I hJ'X hY' h0'
    refine values1_in 2 (w1.heap.size + 1) Bs a n c ys HN.out.2.1 J' Jx' (fun t A hA => HN.out.1.below (hJ'I t A hA).1.be) (fun t x A hj hx => ?_) A ?_ h0'
    · have := hY' t x A hj hx
      exact this.mono (fun e B hh => hh.2)
    · have hb := HI0.out.be.trans (hB.mono (by rw [HS1.out]; omega))
      exact (hb.cell (p := ⟨Bs, 0, none⟩) HN.out.2.2.2).trans HN.out.2.2.1
  case done =>
    rintro A h hK
    obtain ⟨v, h1, h2⟩ := h.out
    have HI : Hid (AInv w ys ys.length A) := h
    have HO : Hid (A.ownsRow (w.heap.size + 1) 9 1 v ys.length ((ys.take ys.length).flatMap pc)) := h2
    have cv := pcell_one h1
    have HK : Hid (A.heap[w1.heap.size]? = some (.deferred (some []))) := hK
    clear h h1 h2 hK
    gi_wp2
    refine ⟨by simp, .inl ⟨_, _, rfl, run_takeDeferred HK.out, ?_⟩⟩
    refine ⟨_, results_tmp rfl _ _ _, v, rfl, ?_, HI.out.be.trans (below_putObj _ A _ _ (by have := HS1.out; omega))⟩
    have e := HO.out
    rw [List.take_length, strC_pc] at e
    exact town_mono (town_rows e (belowR_putObj (D := w.heap.size) _ (by have := HS1.out; omega) HK.out def_row)) (by omega)
  case stop => rintro c A h; exact h.elim
set_option maxHeartbeats 1000000 in
theorem collect_is (w : World) (Bs : Nat) (a : Option Addr) (n c : Nat) (ys : List BA) (hc : w.cell? ⟨Bs, 0, none⟩ = some (.slice a n c)) (hs : Strs w a n ys) (hn : n ≤ 1000000) :
    Calls Try.prog 75 #[.func (.func 77) #[] #[.pointer (some ⟨Bs, 0, none⟩)]] w fun e w' => ∃ v, e = .returned v ∧ Hid (w'.ownsRow w.heap.size 9 1 v ys.length (strC ys)) ∧ Hid (Below w.heap.size w w') := by
  have HC := append_seq_is w Bs a n c ys hc hs hn
  clear hc hs hn
  go_enter Try.func75, Try.ntmps75
  go_wp2_with fail
  refine HC.mono ?_
  rintro e w1 ⟨v, rfl, h1, h2⟩
  clear HC
  go_wp2
  go_ret
  exact ⟨_, rfl, h1, h2⟩
end Go.Proofs.Ytgdecjacbkicmaa.Oct

/- Layer 10 (patch): slices.Sort and slices.Compact of texts as this program bears them: the bodies of which the library's contracts were proved. -/
namespace Go.Proofs.Ytgdecjacbkicmaa.Oct
open Go.Shelf
def laysSort_ren : Go.Shelf.Ren := ⟨fun | 6 => 76 | 8 => 99 | 9 => 98 | 19 => 121 | 20 => 122 | 21 => 112 | 22 => 113 | 23 => 114 | 24 => 115 | 25 => 116 | 26 => 117 | 27 => 118 | 28 => 119 | 29 => 120 | 36 => 127 | 31 => 128 | 32 => 129 | 37 => 130 | 38 => 131 | 39 => 132 | 41 => 138 | n => n, fun | 27 => 31 | 29 => 9 | 3 => 3 | 32 => 44 | 26 => 31 | 0 => 0 | 44 => 153 | 46 => 92 | 4 => 4 | 36 => 146 | 35 => 145 | 41 => 150 | 5 => 5 | 9 => 9 | 53 => 157 | 57 => 161 | 63 => 165 | 64 => 166 | n => n, fun | n => n⟩
theorem laysSort : Go.Proofs.SlLaysM.n6 Try.prog laysSort_ren := {
  mixed := by kernel_rfl
  f6 := ⟨Try.f76.name, by decide, Try.func76.trans (congrArg some (by kernel_rfl))⟩
  f8 := Try.func99.trans (congrArg some (by kernel_rfl))
  f9 := ⟨Try.f98.name, by decide, Try.func98.trans (congrArg some (by kernel_rfl))⟩
  f19 := Try.func121.trans (congrArg some (by kernel_rfl))
  f20 := Try.func122.trans (congrArg some (by kernel_rfl))
  f21 := ⟨Try.f112.name, by decide, Try.func112.trans (congrArg some (by kernel_rfl))⟩
  f22 := ⟨Try.f113.name, by decide, Try.func113.trans (congrArg some (by kernel_rfl))⟩
  f23 := ⟨Try.f114.name, by decide, Try.func114.trans (congrArg some (by kernel_rfl))⟩
  f24 := ⟨Try.f115.name, by decide, Try.func115.trans (congrArg some (by kernel_rfl))⟩
  f25 := ⟨Try.f116.name, by decide, Try.func116.trans (congrArg some (by kernel_rfl))⟩
  f26 := ⟨Try.f117.name, by decide, Try.func117.trans (congrArg some (by kernel_rfl))⟩
  f27 := ⟨Try.f118.name, by decide, Try.func118.trans (congrArg some (by kernel_rfl))⟩
  f28 := ⟨Try.f119.name, by decide, Try.func119.trans (congrArg some (by kernel_rfl))⟩
  f29 := ⟨Try.f120.name, by decide, Try.func120.trans (congrArg some (by kernel_rfl))⟩
  f31 := Try.func128.trans (congrArg some (by kernel_rfl))
  f32 := Try.func129.trans (congrArg some (by kernel_rfl))
  f36 := ⟨Try.f127.name, by decide, Try.func127.trans (congrArg some (by kernel_rfl))⟩
  f37 := ⟨Try.f130.name, by decide, Try.func130.trans (congrArg some (by kernel_rfl))⟩
  f38 := ⟨Try.f131.name, by decide, Try.func131.trans (congrArg some (by kernel_rfl))⟩
  f39 := ⟨Try.f132.name, by decide, Try.func132.trans (congrArg some (by kernel_rfl))⟩
  f41 := ⟨Try.f138.name, by decide, Try.func138.trans (congrArg some (by kernel_rfl))⟩
  t0 := Try.underlying0
  a0 := Try.isAgg0
  z0 := Try.sizeOf0
  v0 := Try.zeroValue0
  t3 := Try.underlying3
  a3 := Try.isAgg3
  z3 := Try.sizeOf3
  v3 := Try.zeroValue3
  t4 := Try.underlying4
  a4 := Try.isAgg4
  z4 := Try.sizeOf4
  v4 := Try.zeroValue4
  t5 := Try.underlying5
  a5 := Try.isAgg5
  z5 := Try.sizeOf5
  v5 := Try.zeroValue5
  t9 := Try.underlying9
  a9 := Try.isAgg9
  z9 := Try.sizeOf9
  v9 := Try.zeroValue9
  t26 := Try.underlying31
  a26 := Try.isAgg31
  z26 := Try.sizeOf31
  v26 := Try.zeroValue31
  t27 := Try.underlying31
  a27 := Try.isAgg31
  z27 := Try.sizeOf31
  v27 := Try.zeroValue31
  t29 := Try.underlying9
  a29 := Try.isAgg9
  z29 := Try.sizeOf9
  v29 := Try.zeroValue9
  t32 := Try.underlying44
  a32 := Try.isAgg44
  z32 := Try.sizeOf44
  v32 := Try.zeroValue44
  t35 := Try.underlying145
  a35 := Try.isAgg145
  z35 := Try.sizeOf145
  v35 := Try.zeroValue145
  t36 := Try.underlying146
  a36 := Try.isAgg146
  z36 := Try.sizeOf146
  v36 := Try.zeroValue146
  t41 := Try.underlying150
  a41 := Try.isAgg150
  z41 := Try.sizeOf150
  v41 := Try.zeroValue150
  t44 := Try.underlying153
  a44 := Try.isAgg153
  z44 := Try.sizeOf153
  v44 := Try.zeroValue153
  t46 := Try.underlying92
  a46 := Try.isAgg92
  z46 := Try.sizeOf92
  v46 := Try.zeroValue92
  t53 := Try.underlying157
  a53 := Try.isAgg157
  z53 := Try.sizeOf157
  v53 := Try.zeroValue157
  t57 := Try.underlying161
  a57 := Try.isAgg161
  z57 := Try.sizeOf161
  v57 := Try.zeroValue161
  t63 := Try.underlying165
  a63 := Try.isAgg165
  z63 := Try.sizeOf165
  v63 := Try.zeroValue165
  t64 := Try.underlying166
  a64 := Try.isAgg166
  z64 := Try.sizeOf166
  v64 := Try.zeroValue166 }
def laysCompact_ren : Go.Shelf.Ren := ⟨fun | 194 => 45 | n => n, fun | 31 => 31 | 9 => 9 | 3 => 3 | 4 => 4 | 0 => 0 | n => n, fun | n => n⟩
theorem laysCompact : Go.Proofs.Lays.n194 Try.prog laysCompact_ren := {
  mixed := by kernel_rfl
  f194 := Try.func45.trans (congrArg some (by kernel_rfl))
  t0 := Try.underlying0
  a0 := Try.isAgg0
  z0 := Try.sizeOf0
  v0 := Try.zeroValue0
  t3 := Try.underlying3
  a3 := Try.isAgg3
  z3 := Try.sizeOf3
  v3 := Try.zeroValue3
  t4 := Try.underlying4
  a4 := Try.isAgg4
  z4 := Try.sizeOf4
  v4 := Try.zeroValue4
  t9 := Try.underlying9
  a9 := Try.isAgg9
  z9 := Try.sizeOf9
  v9 := Try.zeroValue9
  t31 := Try.underlying31
  a31 := Try.isAgg31
  z31 := Try.sizeOf31
  v31 := Try.zeroValue31 }
end Go.Proofs.Ytgdecjacbkicmaa.Oct
