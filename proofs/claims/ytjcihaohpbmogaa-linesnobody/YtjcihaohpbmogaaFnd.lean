/-
  Layer 11 (lines): find, areLines; graphs that no call made.
-/
import Derived.Test.YtjcihaohpbmogaaSet
namespace Go.Proofs.Ytjcihaohpbmogaa.Oct
open Go.RowKit
set_option maxRecDepth 100000
set_option linter.unusedSimpArgs false
set_option linter.unusedVariables false
set_option linter.unusedSectionVars false

/-- a graph that no call made -/
def Un (w : World) (v : Value) : Prop := v = .pointer none ∨ ∃ p, v = .pointer (some ⟨p, 0, none⟩) ∧ Blk w p 67 [.map none]
theorem Un.below {w w' : World} {v : Value} (h : Un w v) (hb : Below w.heap.size w w') : Un w' v := by
  rcases h with h | ⟨p, h1, h2⟩
  · exact .inl h
  · exact .inr ⟨p, h1, h2.below hb h2.lt⟩
theorem un_made {w : World} {v : Value} (h : Un w v) : Calls Try.prog 30 #[v] w fun e w' => e = .returned (.bool false) ∧ w = w' := by
  rcases h with rfl | ⟨p, rfl, h2⟩
  · exact made_nil w
  · exact made_zero h2
def Gm.fnd (G : Gm) (v : Vx) : Int := if isE v then 2 else if v ∈ G.keys then 0 else 111
set_option maxRecDepth 100000 in
set_option maxHeartbeats 4000000 in
theorem fd7 {Q : Exit → Act → World → Prop} {x1 x2 x4 x5 x6 x7 x8 x9 x10 x11 x12 x13 x14 x15 x16 x17 x18 x19 x20 x21 x22 x23 : Value} {ds : List Deferred} {A : World} {d p m : Nat} {y : Vx} {q : Value}
    (HL : Hid (d < A.heap.size)) (HP : Hid (p < A.heap.size)) (HR : Hid (A.rangeAt d 0 y.cells)) (HV : Hid y.ok) (c0 : A.cell? ⟨p, 0, none⟩ = some (.map (some m))) (HK : Hid (∀ V, Below A.heap.size A V → (Instr.lookup 65 (.map (some m)) (.agg y.cells.toArray) false).run Try.prog V = .ok q V))
    (hQ : ∀ V1, Below A.heap.size A V1 → Q .normal { tmps := #[.pointer (some ⟨p, 0, none⟩), x1, x2, .pointer (some ⟨d, 0, none⟩), q, iv 0, x6, x7, x8, x9, x10, x11, x12, x13, x14, x15, x16, x17, .pointer (some ⟨p, 0, none⟩), .pointer (some ⟨p, 0, none⟩), .pointer (some ⟨p, 0, none⟩), .map (some m), .agg y.cells.toArray, q], defers := ds } V1) :
    (Code.region 7 #[{ dst := some 18, op := Op.move (Operand.tmp 0), type := 25, pos := "change.go:147", after := #[], guard := none }, { dst := some 19, op := Op.nilCheck (Operand.tmp 18), type := 0, pos := "change.go:147", after := #[{ on := 0, ground := Ground.data }], guard := none }, { dst := some 20, op := Op.fieldAddr 67 (Operand.tmp 19) 0, type := 0, pos := "change.go:147", after := #[{ on := 1, ground := Ground.data }], guard := none }, { dst := some 21, op := Op.load 65 (Operand.tmp 20), type := 65, pos := "change.go:147", after := #[{ on := 2, ground := Ground.data }], guard := none }, { dst := some 22, op := Op.load 34 (Operand.tmp 3), type := 34, pos := "change.go:147", after := #[], guard := none }, { dst := some 23, op := Op.lookup 65 (Operand.tmp 21) (Operand.tmp 22) false, type := 71, pos := "change.go:147", after := #[{ on := 3, ground := Ground.data }, { on := 4, ground := Ground.data }], guard := none }, { dst := some 4, op := Op.assign (Operand.tmp 23), type := 71, pos := "change.go:147", after := #[{ on := 5, ground := Ground.data }, { on := 0, ground := Ground.phase }, { on := 1, ground := Ground.phase }, { on := 2, ground := Ground.phase }, { on := 3, ground := Ground.phase }, { on := 4, ground := Ground.phase }, { on := 5, ground := Ground.phase }], guard := none }, { dst := some 5, op := Op.assign (Operand.const (Value.int IntKind.i64 0)), type := 40, pos := "change.go:147", after := #[{ on := 6, ground := Ground.chain }, { on := 0, ground := Ground.phase }, { on := 1, ground := Ground.phase }, { on := 2, ground := Ground.phase }, { on := 3, ground := Ground.phase }, { on := 4, ground := Ground.phase }, { on := 5, ground := Ground.phase }, { on := 6, ground := Ground.phase }], guard := none }] true).wp Try.prog Q { tmps := #[.pointer (some ⟨p, 0, none⟩), x1, x2, .pointer (some ⟨d, 0, none⟩), x4, x5, x6, x7, x8, x9, x10, x11, x12, x13, x14, x15, x16, x17, x18, x19, x20, x21, x22, x23], defers := ds } A := by
  refine Code.wp_mono (Q := fun x a' w' => match x with | .normal => Q .normal a' w' | _ => False) (by intro x a' w' h; cases x <;> first | exact h | exact h.elim) ?_
  refine wp_region_held (S := fun V => Below A.heap.size A V) (by kernel_rfl) ?_
  have hS0 : Hid (Below A.heap.size A A.drew) := below_drew0 A
  change wpAnyH Try.prog .any _ _ (fun V => Below A.heap.size A V) 8 (Array.replicate 8 false) _ A.drew
  obtain ⟨V0, hV0⟩ : ∃ V0, A.drew = V0 := ⟨_, rfl⟩
  rw [hV0]
  rw [hV0] at hS0
  clear hV0
  refine wpAnyH_take (i := 0) (oi := { dst := some 18, op := Op.move (Operand.tmp 0), type := 25, pos := "change.go:147", after := #[], guard := none }) (v := .pointer (some ⟨p, 0, none⟩)) rfl (by kernel_rfl) (by kernel_rfl) (by kernel_rfl) (fun _ _ _ h => h.elim) (Or.inl ⟨by rfl, ?y1⟩) hS0.out ?_
  case y1 =>
    intro V hV
    go_simp
  simp only [Act.put, List.setIfInBounds_toArray, List.set_cons_zero, List.set_cons_succ]
  refine wpAnyH_take (i := 1) (oi := { dst := some 19, op := Op.nilCheck (Operand.tmp 18), type := 0, pos := "change.go:147", after := #[{ on := 0, ground := Ground.data }], guard := none }) (v := .pointer (some ⟨p, 0, none⟩)) rfl (by kernel_rfl) (by kernel_rfl) (by kernel_rfl) (fun _ _ _ h => h.elim) (Or.inl ⟨by rfl, ?y2⟩) hS0.out ?_
  case y2 =>
    intro V hV
    go_simp
  simp only [Act.put, List.setIfInBounds_toArray, List.set_cons_zero, List.set_cons_succ]
  refine wpAnyH_take (i := 2) (oi := { dst := some 20, op := Op.fieldAddr 67 (Operand.tmp 19) 0, type := 0, pos := "change.go:147", after := #[{ on := 1, ground := Ground.data }], guard := none }) (v := .pointer (some ⟨p, 0, none⟩)) rfl (by kernel_rfl) (by kernel_rfl) (by kernel_rfl) (fun _ _ _ h => h.elim) (Or.inl ⟨by rfl, ?y3⟩) hS0.out ?_
  case y3 =>
    intro V hV
    go_simp
  simp only [Act.put, List.setIfInBounds_toArray, List.set_cons_zero, List.set_cons_succ]
  refine wpAnyH_take (i := 3) (oi := { dst := some 21, op := Op.load 65 (Operand.tmp 20), type := 65, pos := "change.go:147", after := #[{ on := 2, ground := Ground.data }], guard := none }) (v := .map (some m)) rfl (by kernel_rfl) (by kernel_rfl) (by kernel_rfl) (fun _ _ _ h => h.elim) (Or.inl ⟨by rfl, ?y4⟩) hS0.out ?_
  case y4 =>
    intro V hV
    have hc : V.cell? ⟨p, 0, none⟩ = some (.map (some m)) := (hV.cell (p := ⟨p, 0, none⟩) HP.out).trans c0
    go_simp
  simp only [Act.put, List.setIfInBounds_toArray, List.set_cons_zero, List.set_cons_succ]
  refine wpAnyH_take (i := 4) (oi := { dst := some 22, op := Op.load 34 (Operand.tmp 3), type := 34, pos := "change.go:147", after := #[], guard := none }) (v := .agg y.cells.toArray) rfl (by kernel_rfl) (by kernel_rfl) (by kernel_rfl) (fun _ _ _ h => h.elim) (yieldsIf_load_mid (by rfl) _ _ rfl _ _ rfl (y.cells) _ (fun V hV => rangeAt_same (HR.out) ((show Below A.heap.size A V from hV).block _ (HL.out))) Try.underlying34 rfl (info34 HV.out)) hS0.out ?_
  simp only [Act.put, List.setIfInBounds_toArray, List.set_cons_zero, List.set_cons_succ]
  refine wpAnyH_take (i := 5) (oi := { dst := some 23, op := Op.lookup 65 (Operand.tmp 21) (Operand.tmp 22) false, type := 71, pos := "change.go:147", after := #[{ on := 3, ground := Ground.data }, { on := 4, ground := Ground.data }], guard := none }) (v := q) rfl (by kernel_rfl) (by kernel_rfl) (by kernel_rfl) (fun _ _ _ h => h.elim) (Or.inl ⟨by rfl, ?y5⟩) hS0.out ?_
  case y5 =>
    intro V hV
    exact yl_lookup V 65 _ _ false _ _ _ rfl rfl rfl (HK.out V hV)
  simp only [Act.put, List.setIfInBounds_toArray, List.set_cons_zero, List.set_cons_succ]
  refine wpAnyH_take (i := 6) (oi := { dst := some 4, op := Op.assign (Operand.tmp 23), type := 71, pos := "change.go:147", after := #[{ on := 5, ground := Ground.data }, { on := 0, ground := Ground.phase }, { on := 1, ground := Ground.phase }, { on := 2, ground := Ground.phase }, { on := 3, ground := Ground.phase }, { on := 4, ground := Ground.phase }, { on := 5, ground := Ground.phase }], guard := none }) (v := q) rfl (by kernel_rfl) (by kernel_rfl) (by kernel_rfl) (fun _ _ _ h => h.elim) (Or.inl ⟨by rfl, ?y6⟩) hS0.out ?_
  case y6 =>
    intro V hV
    go_simp
  simp only [Act.put, List.setIfInBounds_toArray, List.set_cons_zero, List.set_cons_succ]
  refine wpAnyH_take (i := 7) (oi := { dst := some 5, op := Op.assign (Operand.const (Value.int IntKind.i64 0)), type := 40, pos := "change.go:147", after := #[{ on := 6, ground := Ground.chain }, { on := 0, ground := Ground.phase }, { on := 1, ground := Ground.phase }, { on := 2, ground := Ground.phase }, { on := 3, ground := Ground.phase }, { on := 4, ground := Ground.phase }, { on := 5, ground := Ground.phase }, { on := 6, ground := Ground.phase }], guard := none }) (v := iv 0) rfl (by kernel_rfl) (by kernel_rfl) (by kernel_rfl) (fun _ _ _ h => h.elim) (Or.inl ⟨by rfl, ?y7⟩) hS0.out ?_
  case y7 =>
    intro V hV
    go_simp
  simp only [Act.put, List.setIfInBounds_toArray, List.set_cons_zero, List.set_cons_succ]
  refine wpAnyH_done (by kernel_rfl) ?_ _
  exact hQ V0 hS0.out
#print axioms fd7
set_option maxHeartbeats 2000000 in
theorem find_is {w : World} {p : Nat} {G : Gm} (h : GAt w p G) (v : Vx) (hv : Vk v) (X : List Value) (hX : v.cells = X) (E : Int) (hE : G.fnd v = E) (q : Value) (hq : (if E = 0 then ptrOf (G.get v) else .pointer none) = q) : Calls Try.prog 48 #[.pointer (some ⟨p, 0, none⟩), .agg X.toArray] w fun e w' => e = .returned (.tuple #[q, iv E]) ∧ Below w.heap.size w w' := by
  subst hX
  obtain ⟨d, hdd⟩ : ∃ d, w.heap.size = d := ⟨_, rfl⟩
  obtain ⟨W, hWd⟩ : ∃ W, w.alloc (.cells v.cells.toArray 34) = W := ⟨_, rfl⟩
  have bd : Below w.heap.size w W := by rw [← hWd]; exact below_al _ _
  have kd : Blk W d 34 v.cells := by rw [← hWd, ← hdd]; exact Blk.new w _ _
  have S0 : Hid (Below w.heap.size w W ∧ Blk W d 34 v.cells ∧ GAt W p G) := ⟨bd, kd, h.below bd⟩
  have HV : Hid (Vk v) := hv
  have h1 := Vx.one v
  have h2 := Try.underlying34
  have h3 := info34 hv.1
  have h4 := Vx.len hv.1
  clear bd kd hv h
  unfold Gm.fnd at hE
  cases hI : isE v with
  | true =>
    rw [if_pos hI] at hE
    subst hE
    rw [if_neg (by decide)] at hq
    subst hq
    go_enter Try.func48, Try.ntmps48
    go_wp2_with fail
    refine (made_is S0.out.2.2).mono ?_
    rintro e w2 ⟨rfl, rfl⟩
    clear hWd hdd
    go_wp2_with (first
      | (with_reducible change wpList _ _ _ ({ dst := some 11, op := _, type := _, pos := _, after := _, guard := _ } :: _) _ _
         refine wpList_load_want rfl 34 (.tmp 3) rfl d 0 rfl v.cells _ S0.out.2.1.range0 Try.underlying34 rfl (info34 HV.out.1) ?_)
      | fail)
    refine (isEnd_is W v HV.out.1 v.cells rfl true hI).mono ?_
    rintro e V ⟨rfl, hb⟩
    have S1 : Hid (Below w.heap.size w V ∧ Blk V d 34 v.cells ∧ GAt V p G) := ⟨below_tr S0.out.1 hb, S0.out.2.1.below hb S0.out.2.1.lt, S0.out.2.2.below hb⟩
    clear hb
    go_wp2
    go_ret2
    exact ⟨rfl, S1.out.1⟩
  | false =>
    rw [if_neg (by rw [hI]; decide)] at hE
    obtain ⟨B, hB⟩ : ∃ B, decide (v ∈ G.keys) = B := ⟨_, rfl⟩
    have HI : Hid (isE v = false ∧ decide (v ∈ G.keys) = B) := ⟨hI, hB⟩
    clear hI
    go_enter Try.func48, Try.ntmps48
    go_wp2_with fail
    refine (made_is S0.out.2.2).mono ?_
    rintro e w2 ⟨rfl, rfl⟩
    clear hWd hdd
    go_wp2_with (first
      | (with_reducible change wpList _ _ _ ({ dst := some 11, op := _, type := _, pos := _, after := _, guard := _ } :: _) _ _
         refine wpList_load_want rfl 34 (.tmp 3) rfl d 0 rfl v.cells _ S0.out.2.1.range0 Try.underlying34 rfl (info34 HV.out.1) ?_)
      | fail)
    refine (isEnd_is W v HV.out.1 v.cells rfl false HI.out.1).mono ?_
    rintro e V ⟨rfl, hb⟩
    have S1 : Hid (Below w.heap.size w V ∧ Blk V d 34 v.cells ∧ GAt V p G) := ⟨below_tr S0.out.1 hb, S0.out.2.1.below hb S0.out.2.1.lt, S0.out.2.2.below hb⟩
    clear hb
    go_wp2_with (first
      | (with_reducible change wpList _ _ _ ({ dst := some 15, op := _, type := _, pos := _, after := _, guard := _ } :: _) _ _
         refine wpList_load_want rfl 34 (.tmp 3) rfl d 0 rfl v.cells _ S1.out.2.1.range0 Try.underlying34 rfl (info34 HV.out.1) ?_)
      | fail)
    refine (isLine_is S1.out.2.2 v HV.out v.cells rfl B HI.out.2).mono ?_
    rintro e V2 ⟨rfl, hb⟩
    have S2 : Hid (Below w.heap.size w V2 ∧ Blk V2 d 34 v.cells ∧ GAt V2 p G) := ⟨below_tr S1.out.1 hb, S1.out.2.1.below hb S1.out.2.1.lt, S1.out.2.2.below hb⟩
    clear hb
    cases B with
    | false =>
      rw [if_neg (by simpa using hB)] at hE
      subst hE
      rw [if_neg (by decide)] at hq
      subst hq
      clear hB
      go_wp2
      go_ret2
      exact ⟨rfl, S2.out.1⟩
    | true =>
      rw [if_pos (by simpa using hB)] at hE
      subst hE
      clear hB
      rw [if_pos rfl] at hq
      have H := S2.out.2.2
      have c0 : V2.cell? ⟨p, 0, none⟩ = some (.map (some G.mb)) := H.blk.cell rfl
      have HK : Hid (∀ V3, Below V2.heap.size V2 V3 → (Instr.lookup 65 (.map (some G.mb)) (.agg v.cells.toArray) false).run Try.prog V3 = .ok q V3) := fun V3 hV => by rw [← hq]; exact H.look2 HV.out V3 (hV.block _ H.mp.lt)
      have HP : Hid (p < V2.heap.size) := H.blk.lt
      clear H hq
      generalize G.mb = m at HK c0
      go_wp2_with fail
      refine fd7 S2.out.2.1.lt HP S2.out.2.1.range0 HV.out.1 c0 HK ?_
      intro V4 hb
      have HF : Hid (Below w.heap.size w V4) := below_tr S2.out.1 hb
      clear hb c0 HK
      go_wp2
      go_ret2
      exact ⟨rfl, HF.out⟩
#print axioms find_is
set_option maxHeartbeats 1000000 in
theorem find_un {w : World} {g : Value} (h : Un w g) (v : Vx) (hv : Vk v) (X : List Value) (hX : v.cells = X) : Calls Try.prog 48 #[g, .agg X.toArray] w fun e w' => e = .returned (.tuple #[.pointer none, iv 1]) ∧ Below w.heap.size w w' := by
  subst hX
  obtain ⟨d, hdd⟩ : ∃ d, w.heap.size = d := ⟨_, rfl⟩
  obtain ⟨W, hWd⟩ : ∃ W, w.alloc (.cells v.cells.toArray 34) = W := ⟨_, rfl⟩
  have bd : Below w.heap.size w W := by rw [← hWd]; exact below_al _ _
  have kd : Blk W d 34 v.cells := by rw [← hWd, ← hdd]; exact Blk.new w _ _
  have HM : Hid (Calls Try.prog 30 #[g] W fun e w' => e = .returned (.bool false) ∧ W = w') := un_made (h.below bd)
  have HB : Hid (Below w.heap.size w W) := bd
  have h1 := Vx.one v
  have h2 := Try.underlying34
  have h3 := info34 hv.1
  have h4 := Vx.len hv.1
  clear bd kd hv h
  go_enter Try.func48, Try.ntmps48
  go_wp2_with fail
  refine HM.out.mono ?_
  rintro e w2 ⟨rfl, rfl⟩
  clear hWd hdd
  go_wp2
  go_ret2
  exact ⟨rfl, HB.out⟩
#print axioms find_un
set_option maxHeartbeats 2000000 in
theorem areLines_is {w : World} {p : Nat} {G : Gm} (h : GAt w p G) (a : Option Addr) (n c : Nat) (ids : List Vx) (hr : VsR w a n ids) (hn : n ≤ 140737488355328) (B : Bool) (hB : (ids.all fun v => decide (v ∈ G.keys)) = B) :
    Calls Try.prog 55 #[.pointer (some ⟨p, 0, none⟩), .slice a n c] w fun e w' => e = .returned (.bool B) ∧ Below w.heap.size w w' := by
  have HS : Hid (VsR w a n ids ∧ GAt w p G ∧ (ids.all fun v => decide (v ∈ G.keys)) = B) := ⟨hr, h, hB⟩
  have q0 : (n : Int) ≤ 140737488355328 := by omega
  clear hr hn hB h
  go_enter Try.func55, Try.ntmps55
  go_wp2
  go_loopw [9] (fun u wr => ∃ i : Nat, u = iv (i : Int) ∧ Hid (i ≤ n ∧ Below w.heap.size w wr ∧ ∀ j y, j < i → ids[j]? = some y → y ∈ G.keys)) (fun u _ => n - (intOf u).toNat)
  case atStart => exact ⟨0, rfl, Nat.zero_le _, Below.refl _ _, fun j y hj => absurd hj (Nat.not_lt_zero _)⟩
  case round =>
    obtain ⟨V, hV⟩ : ∃ V, V = wr := ⟨_, rfl⟩
    subst hV
    obtain ⟨i, rfl, HI⟩ := hrel
    by_cases hi : i < n
    · obtain ⟨y, hy⟩ : ∃ y, ids[i]? = some y := ⟨_, List.getElem?_eq_getElem (by rw [HS.out.1.1]; exact hi)⟩
      have HY : Hid (i < n ∧ ids[i]? = some y ∧ y.ok ∧ Vk y) := ⟨hi, hy, (HS.out.1.2.1 y (List.mem_of_getElem? hy)).1, HS.out.1.2.1 y (List.mem_of_getElem? hy)⟩
      obtain ⟨gb, off, rfl, hg, hel⟩ := HS.out.1.2.2 (by omega)
      have HR : Hid (V.rangeAt gb (off + i * 33) y.cells) := rangeAt_same (hel i y hy) (HI.out.2.1.block gb hg)
      have q1 : (i : Int) < (n : Int) := by omega
      clear hel hy hi hg
      obtain ⟨Z, hZ, HZ⟩ := zval34
      go_wp2_with (first
        | (with_reducible change wpList _ _ _ ({ dst := some 12, op := _, type := _, pos := _, after := _, guard := _ } :: _) _ _
           refine wpList_load_want rfl 34 (.tmp 11) rfl gb (off + i * 33) rfl y.cells _ HR.out Try.underlying34 rfl (info34 HY.out.2.2.1) ?_)
        | (with_reducible change wpList _ _ _ ({ dst := none, op := Op.store 34 _ _, type := _, pos := _, after := _, guard := _ } :: _) _ _
           refine Hid.out ?_)
        | fail)
      show wpList _ _ _ _ _ _
      refine wpList_store_fresh rfl 34 (.tmp 6) (.tmp 12) rfl Z y.cells 34 rfl rfl (by rw [Vx.len HY.out.2.2.1, HZ.out]) (info34 HY.out.2.2.1) (Vx.one y) ?_
      obtain ⟨V3, hV3⟩ : ∃ W, V.alloc (.cells y.cells.toArray 34) = W := ⟨_, rfl⟩
      obtain ⟨dy, hdy⟩ : ∃ g, V.heap.size = g := ⟨_, rfl⟩
      have H3 : Hid (Below w.heap.size w V3 ∧ Blk V3 dy 34 y.cells) := by
        have hbl : Below V.heap.size V V3 := by rw [← hV3]; exact below_al _ _
        exact ⟨below_tr HI.out.2.1 hbl, by rw [← hV3, ← hdy]; exact Blk.new V _ _⟩
      rw [hV3, hdy]
      clear hV3 hdy hZ HZ HR
      obtain ⟨M, hM⟩ : ∃ M, decide (y ∈ G.keys) = M := ⟨_, rfl⟩
      have HM : Hid (decide (y ∈ G.keys) = M) := hM
      clear hM
      go_wp2_with (first
        | (with_reducible change wpList _ _ _ ({ dst := some 14, op := _, type := _, pos := _, after := _, guard := _ } :: _) _ _
           refine wpList_load_want rfl 34 (.tmp 6) rfl dy 0 rfl y.cells _ H3.out.2.range0 Try.underlying34 rfl (info34 HY.out.2.2.1) ?_)
        | fail)
      refine (isLine_is (HS.out.2.1.below H3.out.1) y HY.out.2.2.2 y.cells rfl M HM.out).mono ?_
      rintro e V4 ⟨rfl, hb⟩
      have HF : Hid (Below w.heap.size w V4) := below_tr H3.out.1 hb
      clear hb
      cases M with
      | false =>
        have hBf : B = false := by
          rw [← HS.out.2.2, List.all_eq_false]
          exact ⟨y, List.mem_of_getElem? HY.out.2.1, by rw [HM.out]; decide⟩
        subst hBf
        go_wp2
        go_ret
        exact ⟨rfl, HF.out⟩
      | true =>
        go_wp2
        refine ⟨⟨i + 1, by simp, ⟨HY.out.1, HF.out, fun j z hj hz => ?_⟩⟩, ?_⟩
        · by_cases hji : j = i
          · subst hji
            rw [HY.out.2.1] at hz
            cases hz
            simpa using HM.out
          · exact HI.out.2.2 j z (by omega) hz
        · have := HY.out.1; simp [intOf]; omega
    · have q1 : ¬ (i : Int) < (n : Int) := by omega
      have hBt : B = true := by
        rw [← HS.out.2.2, List.all_eq_true]
        intro x hx
        obtain ⟨j, hj⟩ := List.getElem?_of_mem hx
        have h1 := (List.getElem?_eq_some_iff.1 hj).1
        rw [HS.out.1.1] at h1
        exact decide_eq_true (HI.out.2.2 j x (by omega) hj)
      subst hBt
      go_wp2
      go_ret
      exact ⟨rfl, HI.out.2.1⟩
#print axioms areLines_is
end Go.Proofs.Ytjcihaohpbmogaa.Oct
