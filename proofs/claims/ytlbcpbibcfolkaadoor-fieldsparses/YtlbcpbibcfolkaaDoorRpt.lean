/-
  Layer 22 (fields): light, the reference's Print, FieldsPrints.
-/
import Derived.Test.YtlbcpbibcfolkaaDoorEsl
namespace Go.Proofs.YtlbcpbibcfolkaaDoor.Oct
open Go.RowKit
set_option linter.unusedSimpArgs false
set_option linter.unusedVariables false

def LightP (l : List Pr) (B : Bool) : Prop := B = true → l.length ≤ 1000 ∧ ∀ p ∈ l, p.k.size + p.v.size ≤ 20000
set_option maxRecDepth 100000 in
set_option maxHeartbeats 1000000 in
theorem light_is {w : World} {a : Option Addr} {n cap : Nat} {l : List Pr} (h : PsR w (.slice a l.length cap) l) (hn : l.length = n) : Calls Tryd.prog 15 #[.slice a n cap] w fun e w' => ∃ B, e = .returned (.bool B) ∧ LightP l B ∧ Below w.heap.size w w' := by
  obtain ⟨hok, a', cap', heq, hle, hcap, hr⟩ := h
  have HE : Hid (n ≤ cap' ∧ l.length = n) := ⟨by omega, hn⟩
  cases heq
  have qn : (n : Int) ≤ 9223372036854775807 := by unfold maxLen at hcap; omega
  rw [hn] at hr
  have HRA : Hid (0 < n → ∃ b off, a = some ⟨b, off, none⟩ ∧ b < w.heap.size ∧ ∀ i e, l[i]? = some e → w.rangeAt b (off + i * 2) e.cells) := hr
  have HOK : Hid (∀ e ∈ l, e.ok) := hok
  have hz := zero49
  clear hok hle hcap hr hn
  go_enter Tryd.func15, Tryd.ntmps15
  go_wp2
  go_loopw [8, 3] (fun u t wr => ∃ (i m : Nat), u = iv (i : Int) ∧ t = iv (m : Int) ∧ (m : Int) ≤ 20000 ∧ Hid (i ≤ l.length ∧ 20 * i ≤ m ∧ (∀ p ∈ l.take i, p.k.size + p.v.size ≤ 20000) ∧ Below w.heap.size w wr)) (fun u _ _ => n - (intOf u).toNat)
  case atStart => exact ⟨0, 0, rfl, rfl, by omega, by omega, by omega, by simp, Below.refl _ _⟩
  case round =>
    obtain ⟨i, m, rfl, rfl, qm, HI⟩ := hrel
    by_cases hi : i = n
    · subst hi
      have HF : Hid (LightP l true ∧ Below w.heap.size w wr) := ⟨fun _ => ⟨by have := HI.out.2.1; have := HE.out.2; omega, fun p hp => HI.out.2.2.1 p (by rw [List.take_of_length_le (by have := HE.out.2; omega)]; exact hp)⟩, HI.out.2.2.2⟩
      go_wp2
      go_ret
      exact ⟨_, rfl, HF.out.1, HF.out.2⟩
    · have hlt : i < n := by have := HI.out.1; have := HE.out.2; omega
      have q1 : (i : Int) < (n : Int) := by omega
      obtain ⟨x, hx⟩ : ∃ x, l[i]? = some x := ⟨_, List.getElem?_eq_getElem (by have := HE.out.2; omega)⟩
      obtain ⟨b, off, rfl, hb, hel⟩ := HRA.out (by omega)
      have hxo := HOK.out x (List.mem_of_getElem? hx)
      obtain ⟨k, v⟩ := x
      have htk : l.take (i + 1) = l.take i ++ [⟨k, v⟩] := by rw [List.take_add_one, hx]; rfl
      have HX : Hid (wr.rangeAt b (off + i * 2) (Pr.mk k v).cells ∧ i < n ∧ l.take (i + 1) = l.take i ++ [⟨k, v⟩]) := ⟨rangeAt_same (hel i _ hx) (HI.out.2.2.2.block b hb), hlt, htk⟩
      have qk : (k.size : Int) ≤ 140737488355328 := by have := hxo.1; show _ ≤ _; simp only at this; omega
      have qv : (v.size : Int) ≤ 140737488355328 := by have := hxo.2; show _ ≤ _; simp only at this; omega
      obtain ⟨g, hg⟩ : ∃ g, wr.heap.size = g := ⟨_, rfl⟩
      have HG : Hid (wr.heap.size = g ∧ w.heap.size ≤ g) := ⟨hg, by have := HI.out.2.2.2.size; omega⟩
      clear hi hlt hx hel hb hxo htk
      go_wp2_with (with_reducible change wpList _ _ _ ({ dst := some 11, op := _, type := _, pos := _, after := _, guard := _ } :: _) _ _; refine Hid.out ?_)
      show wpList _ _ _ _ _ _
      refine wpList_load_mid rfl 49 (.tmp 10) rfl b (off + i * 2) rfl (Pr.mk k v).cells _ HX.out.1 Tryd.underlying49 rfl (size49 _) ?_
      go_wp2_with (with_reducible change wpList _ _ _ ({ dst := none, op := Op.store 49 _ _, type := _, pos := _, after := _, guard := _ } :: _) _ _; refine Hid.out ?_)
      show wpList _ _ _ _ _ _
      refine wpList_store_blk rfl 49 (.tmp 5) (.tmp 11) rfl g 0 49 [.string e0, .string e0] (Pr.mk k v).cells rfl rfl (by rw [← HG.out.1]; exact Blk.new wr _ _) (by show 0 + 2 ≤ 2; omega) (size49 _) (Pr.one _) ?_
      intro W1 hx1 hg1
      have H1 : Hid (Below w.heap.size w W1 ∧ Blk W1 g 49 (Pr.mk k v).cells) := ⟨below_gr (below_tr HI.out.2.2.2 (below_al _ _)) hg1.out HG.out.2, blk_all hx1.out rfl⟩
      have c0 : W1.cell? ⟨g, 0, none⟩ = some (.string k) := H1.out.2.cell rfl
      have c1 : W1.cell? ⟨g, 1, none⟩ = some (.string v) := H1.out.2.cell rfl
      clear hx1 hg1 hg
      by_cases hbig : 20000 < m + (20 + k.size + v.size)
      · have q5 : (20000 : Int) < (m : Int) + (20 + (k.size : Int) + (v.size : Int)) := by omega
        clear hbig
        go_wp2
        go_ret
        exact ⟨_, rfl, (fun h => by cases h), H1.out.1⟩
      · have q5 : (m : Int) + (20 + (k.size : Int) + (v.size : Int)) ≤ 20000 := by omega
        have HF : Hid (i + 1 ≤ l.length ∧ 20 * (i + 1) ≤ m + (20 + k.size + v.size) ∧ (∀ p ∈ l.take (i + 1), p.k.size + p.v.size ≤ 20000) ∧ Below w.heap.size w W1) := ⟨by have := HX.out.2.1; have := HE.out.2; omega, by have := HI.out.2.1; omega, fun p hp => by
          rw [HX.out.2.2] at hp
          rcases List.mem_append.1 hp with hp | hp
          · exact HI.out.2.2.1 p hp
          · obtain rfl := List.mem_singleton.1 hp
            show k.size + v.size ≤ 20000
            omega, H1.out.1⟩
        clear hbig
        go_wp2
        go_roundw
        case rel => exact ⟨i + 1, m + (20 + k.size + v.size), by simp, by simp, by omega, HF.out⟩
        case measure => have := HX.out.2.1; simp only [intOf]; omega
#print axioms light_is
set_option maxRecDepth 100000 in
set_option maxHeartbeats 4000000 in
theorem rp9 {Q : Exit → Act → World → Prop} {x1 x2 x3 x4 x7 x8 x9 x10 x11 x12 x13 x14 x15 x16 x17 x18 x19 x20 x21 x22 x23 x24 x25 x26 x27 x28 x29 x30 x31 x32 x33 x34 x35 x36 x37 x38 x39 x40 : Value} {ds : List Deferred} {A : World} {b off i n cap : Nat} {k v ek ev T : BA}
    (HL : Hid (b < A.heap.size)) (HK : Hid ((0 : Int) ≤ (i : Int) ∧ (i : Int) < (n : Int))) (c0 : A.cell? ⟨b, off + i * 2, none⟩ = some (.string k)) (c1 : A.cell? ⟨b, off + i * 2 + 1, none⟩ = some (.string v)) (H1 : Hid (∀ V, Below A.heap.size A V → Calls Tryd.prog 13 #[.string k] V fun e V2 => e = .returned (.string ek) ∧ Below V.heap.size V V2)) (H2 : Hid (∀ V, Below A.heap.size A V → Calls Tryd.prog 13 #[.string v] V fun e V2 => e = .returned (.string ev) ∧ Below V.heap.size V V2)) (HZ : Hid (T.size ≤ 100000 ∧ ek.size ≤ 100000 ∧ (T ++ ek).size ≤ 100000 ∧ (T ++ ek ++ eqs).size ≤ 100000 ∧ ev.size ≤ 100000))
    (hQ : ∀ V1, Below A.heap.size A V1 → Q .normal { tmps := #[.slice (some ⟨b, off, none⟩) n cap, x1, x2, x3, x4, .string (T ++ ek ++ eqs ++ ev), iv (i : Int), x7, x8, x9, x10, x11, x12, x13, x14, x15, x16, x17, x18, x19, .string T, .slice (some ⟨b, off, none⟩) n cap, iv (i : Int), .pointer (some ⟨b, off + i * 2, none⟩), .pointer (some ⟨b, off + i * 2, none⟩), .string k, .string ek, .string (T ++ ek), .string (T ++ ek ++ eqs), .slice (some ⟨b, off, none⟩) n cap, iv (i : Int), .pointer (some ⟨b, off + i * 2, none⟩), .pointer (some ⟨b, off + i * 2 + 1, none⟩), .string v, .string ev, .string (T ++ ek ++ eqs ++ ev), x36, x37, x38, x39, x40], defers := ds } V1) :
    (Code.region 9 #[{ dst := some 20, op := Op.move (Operand.tmp 5), type := 9, pos := "ref.go:83", after := #[], guard := none }, { dst := some 21, op := Op.move (Operand.tmp 0), type := 32, pos := "ref.go:83", after := #[], guard := none }, { dst := some 22, op := Op.move (Operand.tmp 6), type := 3, pos := "ref.go:83", after := #[], guard := none }, { dst := some 23, op := Op.indexAddr 32 (Operand.tmp 21) (Operand.tmp 22), type := 0, pos := "ref.go:83", after := #[{ on := 1, ground := Ground.data }, { on := 2, ground := Ground.data }], guard := none }, { dst := some 24, op := Op.fieldAddr 49 (Operand.tmp 23) 0, type := 0, pos := "ref.go:83", after := #[{ on := 3, ground := Ground.data }], guard := none }, { dst := some 25, op := Op.load 9 (Operand.tmp 24), type := 9, pos := "ref.go:83", after := #[{ on := 4, ground := Ground.data }], guard := none }, { dst := some 26, op := Op.call { callee := Callee.value (Operand.func 13), args := #[Operand.tmp 25], argTypes := #[9] }, type := 9, pos := "ref.go:83", after := #[{ on := 5, ground := Ground.data }], guard := none }, { dst := some 27, op := Op.binOp BinOp.add 9 (Operand.tmp 20) (Operand.tmp 26) 9, type := 9, pos := "ref.go:83", after := #[{ on := 0, ground := Ground.data }, { on := 6, ground := Ground.data }], guard := none }, { dst := some 28, op := Op.binOp BinOp.add 9 (Operand.tmp 27) (Operand.const (Value.string { data := #[61] })) 9, type := 9, pos := "ref.go:83", after := #[{ on := 7, ground := Ground.data }], guard := none }, { dst := some 29, op := Op.move (Operand.tmp 0), type := 32, pos := "ref.go:83", after := #[], guard := none }, { dst := some 30, op := Op.move (Operand.tmp 6), type := 3, pos := "ref.go:83", after := #[], guard := none }, { dst := some 31, op := Op.indexAddr 32 (Operand.tmp 29) (Operand.tmp 30), type := 0, pos := "ref.go:83", after := #[{ on := 9, ground := Ground.data }, { on := 10, ground := Ground.data }], guard := none }, { dst := some 32, op := Op.fieldAddr 49 (Operand.tmp 31) 1, type := 0, pos := "ref.go:83", after := #[{ on := 11, ground := Ground.data }], guard := none }, { dst := some 33, op := Op.load 9 (Operand.tmp 32), type := 9, pos := "ref.go:83", after := #[{ on := 12, ground := Ground.data }], guard := none }, { dst := some 34, op := Op.call { callee := Callee.value (Operand.func 13), args := #[Operand.tmp 33], argTypes := #[9] }, type := 9, pos := "ref.go:83", after := #[{ on := 13, ground := Ground.data }, { on := 6, ground := Ground.chain }], guard := none }, { dst := some 35, op := Op.binOp BinOp.add 9 (Operand.tmp 28) (Operand.tmp 34) 9, type := 9, pos := "ref.go:83", after := #[{ on := 8, ground := Ground.data }, { on := 14, ground := Ground.data }], guard := none }, { dst := some 5, op := Op.assign (Operand.tmp 35), type := 9, pos := "ref.go:83", after := #[{ on := 15, ground := Ground.data }, { on := 14, ground := Ground.chain }, { on := 0, ground := Ground.phase }, { on := 1, ground := Ground.phase }, { on := 2, ground := Ground.phase }, { on := 3, ground := Ground.phase }, { on := 4, ground := Ground.phase }, { on := 5, ground := Ground.phase }, { on := 6, ground := Ground.phase }, { on := 7, ground := Ground.phase }, { on := 8, ground := Ground.phase }, { on := 9, ground := Ground.phase }, { on := 10, ground := Ground.phase }, { on := 11, ground := Ground.phase }, { on := 12, ground := Ground.phase }, { on := 13, ground := Ground.phase }, { on := 14, ground := Ground.phase }, { on := 15, ground := Ground.phase }], guard := none }] true).wp Tryd.prog Q { tmps := #[.slice (some ⟨b, off, none⟩) n cap, x1, x2, x3, x4, .string T, iv (i : Int), x7, x8, x9, x10, x11, x12, x13, x14, x15, x16, x17, x18, x19, x20, x21, x22, x23, x24, x25, x26, x27, x28, x29, x30, x31, x32, x33, x34, x35, x36, x37, x38, x39, x40], defers := ds } A := by
  refine Code.wp_mono (Q := fun x a' w' => match x with | .normal => Q .normal a' w' | _ => False) (by intro x a' w' h; cases x <;> first | exact h | exact h.elim) ?_
  refine wp_region_held (S := fun V => Below A.heap.size A V) (by kernel_rfl) ?_
  have hS0 : Hid (Below A.heap.size A A.drew) := below_drew0 A
  change wpAnyH Tryd.prog .any _ _ (fun V => Below A.heap.size A V) 17 (Array.replicate 17 false) _ A.drew
  obtain ⟨V0, hV0⟩ : ∃ V0, A.drew = V0 := ⟨_, rfl⟩
  rw [hV0]
  rw [hV0] at hS0
  clear hV0
  refine wpAnyH_take (i := 0) (oi := { dst := some 20, op := Op.move (Operand.tmp 5), type := 9, pos := "ref.go:83", after := #[], guard := none }) (v := .string T) rfl (by kernel_rfl) (by kernel_rfl) (by kernel_rfl) (fun _ _ _ h => h.elim) (Or.inl ⟨by rfl, ?y1⟩) hS0.out ?_
  case y1 =>
    intro V hV
    go_simp
  simp only [Act.put, List.setIfInBounds_toArray, List.set_cons_zero, List.set_cons_succ]
  refine wpAnyH_take (i := 1) (oi := { dst := some 21, op := Op.move (Operand.tmp 0), type := 32, pos := "ref.go:83", after := #[], guard := none }) (v := .slice (some ⟨b, off, none⟩) n cap) rfl (by kernel_rfl) (by kernel_rfl) (by kernel_rfl) (fun _ _ _ h => h.elim) (Or.inl ⟨by rfl, ?y2⟩) hS0.out ?_
  case y2 =>
    intro V hV
    go_simp
  simp only [Act.put, List.setIfInBounds_toArray, List.set_cons_zero, List.set_cons_succ]
  refine wpAnyH_take (i := 2) (oi := { dst := some 22, op := Op.move (Operand.tmp 6), type := 3, pos := "ref.go:83", after := #[], guard := none }) (v := iv (i : Int)) rfl (by kernel_rfl) (by kernel_rfl) (by kernel_rfl) (fun _ _ _ h => h.elim) (Or.inl ⟨by rfl, ?y3⟩) hS0.out ?_
  case y3 =>
    intro V hV
    go_simp
  simp only [Act.put, List.setIfInBounds_toArray, List.set_cons_zero, List.set_cons_succ]
  refine wpAnyH_take (i := 3) (oi := { dst := some 23, op := Op.indexAddr 32 (Operand.tmp 21) (Operand.tmp 22), type := 0, pos := "ref.go:83", after := #[{ on := 1, ground := Ground.data }, { on := 2, ground := Ground.data }], guard := none }) (v := .pointer (some ⟨b, off + i * 2, none⟩)) rfl (by kernel_rfl) (by kernel_rfl) (by kernel_rfl) (fun _ _ _ h => h.elim) (Or.inl ⟨by rfl, ?y4⟩) hS0.out ?_
  case y4 =>
    intro V hV
    have q1 := HK.out.1
    have q2 := HK.out.2
    go_simp
  simp only [Act.put, List.setIfInBounds_toArray, List.set_cons_zero, List.set_cons_succ]
  refine wpAnyH_take (i := 4) (oi := { dst := some 24, op := Op.fieldAddr 49 (Operand.tmp 23) 0, type := 0, pos := "ref.go:83", after := #[{ on := 3, ground := Ground.data }], guard := none }) (v := .pointer (some ⟨b, off + i * 2, none⟩)) rfl (by kernel_rfl) (by kernel_rfl) (by kernel_rfl) (fun _ _ _ h => h.elim) (Or.inl ⟨by rfl, ?y5⟩) hS0.out ?_
  case y5 =>
    intro V hV
    go_simp
  simp only [Act.put, List.setIfInBounds_toArray, List.set_cons_zero, List.set_cons_succ]
  refine wpAnyH_take (i := 5) (oi := { dst := some 25, op := Op.load 9 (Operand.tmp 24), type := 9, pos := "ref.go:83", after := #[{ on := 4, ground := Ground.data }], guard := none }) (v := .string k) rfl (by kernel_rfl) (by kernel_rfl) (by kernel_rfl) (fun _ _ _ h => h.elim) (Or.inl ⟨by rfl, ?y6⟩) hS0.out ?_
  case y6 =>
    intro V hV
    have hc : V.cell? ⟨b, off + i * 2, none⟩ = some (.string k) := ((show Below A.heap.size A V from hV).cell (p := ⟨b, off + i * 2, none⟩) HL.out).trans c0
    go_simp
  simp only [Act.put, List.setIfInBounds_toArray, List.set_cons_zero, List.set_cons_succ]
  refine wpAnyH_take (i := 9) (oi := { dst := some 29, op := Op.move (Operand.tmp 0), type := 32, pos := "ref.go:83", after := #[], guard := none }) (v := .slice (some ⟨b, off, none⟩) n cap) rfl (by kernel_rfl) (by kernel_rfl) (by kernel_rfl) (fun _ _ _ h => h.elim) (Or.inl ⟨by rfl, ?y7⟩) hS0.out ?_
  case y7 =>
    intro V hV
    go_simp
  simp only [Act.put, List.setIfInBounds_toArray, List.set_cons_zero, List.set_cons_succ]
  refine wpAnyH_take (i := 10) (oi := { dst := some 30, op := Op.move (Operand.tmp 6), type := 3, pos := "ref.go:83", after := #[], guard := none }) (v := iv (i : Int)) rfl (by kernel_rfl) (by kernel_rfl) (by kernel_rfl) (fun _ _ _ h => h.elim) (Or.inl ⟨by rfl, ?y8⟩) hS0.out ?_
  case y8 =>
    intro V hV
    go_simp
  simp only [Act.put, List.setIfInBounds_toArray, List.set_cons_zero, List.set_cons_succ]
  refine wpAnyH_take (i := 11) (oi := { dst := some 31, op := Op.indexAddr 32 (Operand.tmp 29) (Operand.tmp 30), type := 0, pos := "ref.go:83", after := #[{ on := 9, ground := Ground.data }, { on := 10, ground := Ground.data }], guard := none }) (v := .pointer (some ⟨b, off + i * 2, none⟩)) rfl (by kernel_rfl) (by kernel_rfl) (by kernel_rfl) (fun _ _ _ h => h.elim) (Or.inl ⟨by rfl, ?y9⟩) hS0.out ?_
  case y9 =>
    intro V hV
    have q1 := HK.out.1
    have q2 := HK.out.2
    go_simp
  simp only [Act.put, List.setIfInBounds_toArray, List.set_cons_zero, List.set_cons_succ]
  refine wpAnyH_take (i := 12) (oi := { dst := some 32, op := Op.fieldAddr 49 (Operand.tmp 31) 1, type := 0, pos := "ref.go:83", after := #[{ on := 11, ground := Ground.data }], guard := none }) (v := .pointer (some ⟨b, off + i * 2 + 1, none⟩)) rfl (by kernel_rfl) (by kernel_rfl) (by kernel_rfl) (fun _ _ _ h => h.elim) (Or.inl ⟨by rfl, ?y10⟩) hS0.out ?_
  case y10 =>
    intro V hV
    go_simp
  simp only [Act.put, List.setIfInBounds_toArray, List.set_cons_zero, List.set_cons_succ]
  refine wpAnyH_take (i := 13) (oi := { dst := some 33, op := Op.load 9 (Operand.tmp 32), type := 9, pos := "ref.go:83", after := #[{ on := 12, ground := Ground.data }], guard := none }) (v := .string v) rfl (by kernel_rfl) (by kernel_rfl) (by kernel_rfl) (fun _ _ _ h => h.elim) (Or.inl ⟨by rfl, ?y11⟩) hS0.out ?_
  case y11 =>
    intro V hV
    have hc : V.cell? ⟨b, off + i * 2 + 1, none⟩ = some (.string v) := ((show Below A.heap.size A V from hV).cell (p := ⟨b, off + i * 2 + 1, none⟩) HL.out).trans c1
    go_simp
  simp only [Act.put, List.setIfInBounds_toArray, List.set_cons_zero, List.set_cons_succ]
  refine wpAnyH_ready (rs := [6]) (by kernel_rfl) (by simp) (AllReadyH.cons (i := 6) (o := { dst := some 26, op := Op.call { callee := Callee.value (Operand.func 13), args := #[Operand.tmp 25], argTypes := #[9] }, type := 9, pos := "ref.go:83", after := #[{ on := 5, ground := Ground.data }], guard := none }) rfl ?_ AllReadyH.nil)
  · intro K1 hK1
    rw [if_pos (by rfl)]
    have HC1 := H1.out V0 hS0.out
    go_wp2_with fail
    refine HC1.mono ?_
    rintro e V1 ⟨rfl, hb1⟩
    dsimp only
    clear HC1
    have hS1 : Hid (Below A.heap.size A V1) := hS0.out.trans (hb1.mono hS0.out.size)
    clear hb1
    refine hK1.out _ _ hS1.out ?_
    clear hK1
    intro _
    try simp only [Act.put, List.setIfInBounds_toArray, List.set_cons_zero, List.set_cons_succ]
    refine wpAnyH_take (i := 7) (oi := { dst := some 27, op := Op.binOp BinOp.add 9 (Operand.tmp 20) (Operand.tmp 26) 9, type := 9, pos := "ref.go:83", after := #[{ on := 0, ground := Ground.data }, { on := 6, ground := Ground.data }], guard := none }) (v := .string (T ++ ek)) rfl (by kernel_rfl) (by kernel_rfl) (by kernel_rfl) (fun _ _ _ h => h.elim) (Or.inl ⟨by rfl, ?y12⟩) hS1.out ?_
    case y12 =>
      intro V hV
      exact yl_cat V _ _ T ek rfl rfl rfl HZ.out.1 HZ.out.2.1
    simp only [Act.put, List.setIfInBounds_toArray, List.set_cons_zero, List.set_cons_succ]
    refine wpAnyH_take (i := 8) (oi := { dst := some 28, op := Op.binOp BinOp.add 9 (Operand.tmp 27) (Operand.const (Value.string { data := #[61] })) 9, type := 9, pos := "ref.go:83", after := #[{ on := 7, ground := Ground.data }], guard := none }) (v := .string (T ++ ek ++ eqs)) rfl (by kernel_rfl) (by kernel_rfl) (by kernel_rfl) (fun _ _ _ h => h.elim) (Or.inl ⟨by rfl, ?y13⟩) hS1.out ?_
    case y13 =>
      intro V hV
      exact yl_cat V _ _ (T ++ ek) eqs rfl rfl rfl HZ.out.2.2.1 (by decide)
    simp only [Act.put, List.setIfInBounds_toArray, List.set_cons_zero, List.set_cons_succ]
    refine wpAnyH_ready (rs := [14]) (by kernel_rfl) (by simp) (AllReadyH.cons (i := 14) (o := { dst := some 34, op := Op.call { callee := Callee.value (Operand.func 13), args := #[Operand.tmp 33], argTypes := #[9] }, type := 9, pos := "ref.go:83", after := #[{ on := 13, ground := Ground.data }, { on := 6, ground := Ground.chain }], guard := none }) rfl ?_ AllReadyH.nil)
    · intro K1 hK1
      rw [if_pos (by rfl)]
      have HC2 := H2.out V1 hS1.out
      go_wp2_with fail
      refine HC2.mono ?_
      rintro e V2 ⟨rfl, hb2⟩
      dsimp only
      clear HC2
      have hS2 : Hid (Below A.heap.size A V2) := hS1.out.trans (hb2.mono hS1.out.size)
      clear hb2
      refine hK1.out _ _ hS2.out ?_
      clear hK1
      intro _
      try simp only [Act.put, List.setIfInBounds_toArray, List.set_cons_zero, List.set_cons_succ]
      refine wpAnyH_take (i := 15) (oi := { dst := some 35, op := Op.binOp BinOp.add 9 (Operand.tmp 28) (Operand.tmp 34) 9, type := 9, pos := "ref.go:83", after := #[{ on := 8, ground := Ground.data }, { on := 14, ground := Ground.data }], guard := none }) (v := .string (T ++ ek ++ eqs ++ ev)) rfl (by kernel_rfl) (by kernel_rfl) (by kernel_rfl) (fun _ _ _ h => h.elim) (Or.inl ⟨by rfl, ?y14⟩) hS2.out ?_
      case y14 =>
        intro V hV
        exact yl_cat V _ _ (T ++ ek ++ eqs) ev rfl rfl rfl HZ.out.2.2.2.1 HZ.out.2.2.2.2
      simp only [Act.put, List.setIfInBounds_toArray, List.set_cons_zero, List.set_cons_succ]
      refine wpAnyH_take (i := 16) (oi := { dst := some 5, op := Op.assign (Operand.tmp 35), type := 9, pos := "ref.go:83", after := #[{ on := 15, ground := Ground.data }, { on := 14, ground := Ground.chain }, { on := 0, ground := Ground.phase }, { on := 1, ground := Ground.phase }, { on := 2, ground := Ground.phase }, { on := 3, ground := Ground.phase }, { on := 4, ground := Ground.phase }, { on := 5, ground := Ground.phase }, { on := 6, ground := Ground.phase }, { on := 7, ground := Ground.phase }, { on := 8, ground := Ground.phase }, { on := 9, ground := Ground.phase }, { on := 10, ground := Ground.phase }, { on := 11, ground := Ground.phase }, { on := 12, ground := Ground.phase }, { on := 13, ground := Ground.phase }, { on := 14, ground := Ground.phase }, { on := 15, ground := Ground.phase }], guard := none }) (v := .string (T ++ ek ++ eqs ++ ev)) rfl (by kernel_rfl) (by kernel_rfl) (by kernel_rfl) (fun _ _ _ h => h.elim) (Or.inl ⟨by rfl, ?y15⟩) hS2.out ?_
      case y15 =>
        intro V hV
        go_simp
      simp only [Act.put, List.setIfInBounds_toArray, List.set_cons_zero, List.set_cons_succ]
      refine wpAnyH_done (by kernel_rfl) ?_ _
      exact hQ V2 hS2.out
#print axioms rp9
/-- what the reference's Print answers -/
def RpP (l : List Pr) (v : Value) : Prop :=
  (64 < l.length ∧ v = .tuple #[.string e0, iv 64, iv 3]) ∨
  (l.length ≤ 64 ∧ ∃ i : Nat, i < l.length ∧ (∀ j, j ≤ i → (txt (l.take j)).length ≤ 16384) ∧ 16384 < (txt (l.take (i + 1))).length ∧ v = .tuple #[.string e0, iv (i : Int), iv 3]) ∨
  (l.length ≤ 64 ∧ (∀ j, j ≤ l.length → (txt (l.take j)).length ≤ 16384) ∧ v = .tuple #[.string ⟨(txt l).toArray⟩, iv 0, iv 0])
set_option maxRecDepth 100000 in
set_option maxHeartbeats 1000000 in
theorem rprint_is {w : World} {a : Option Addr} {n cap : Nat} {l : List Pr} (h : PsR w (.slice a l.length cap) l) (hn : l.length = n) (hli : ∀ p ∈ l, p.k.size + p.v.size ≤ 20000) : Calls Tryd.prog 16 #[.slice a n cap] w fun e w' => ∃ v, e = .returned v ∧ RpP l v ∧ Below w.heap.size w w' := by
  obtain ⟨hok, a', cap', heq, hle, hcap, hr⟩ := h
  have HE : Hid (n ≤ cap' ∧ l.length = n) := ⟨by omega, hn⟩
  cases heq
  have qn : (n : Int) ≤ 9223372036854775807 := by unfold maxLen at hcap; omega
  rw [hn] at hr
  have HRA : Hid (0 < n → ∃ b off, a = some ⟨b, off, none⟩ ∧ b < w.heap.size ∧ ∀ i e, l[i]? = some e → w.rangeAt b (off + i * 2) e.cells) := hr
  have HLI : Hid (∀ p ∈ l, p.k.size + p.v.size ≤ 20000) := hli
  clear hok hle hcap hr hn hli
  go_enter Tryd.func16, Tryd.ntmps16
  by_cases hbig : 64 < (n : Int)
  · have HBG : Hid (64 < l.length) := by show 64 < _; have := HE.out.2; omega
    go_wp2
    go_ret3
    exact ⟨_, rfl, .inl ⟨HBG.out, rfl⟩, Below.refl _ _⟩
  have qn2 : (n : Int) ≤ 64 := by omega
  have HN64 : Hid (l.length ≤ 64) := by show _ ≤ 64; have := HE.out.2; omega
  clear hbig qn
  go_wp2
  go_loopw [6, 5] (fun u t wr => ∃ (i : Nat) (S : BA), u = iv (i : Int) ∧ t = .string S ∧ (S.size : Int) ≤ 16384 ∧ Hid (PnI w l i S wr)) (fun u _ _ => n - (intOf u).toNat)
  case atStart => exact ⟨0, e0, rfl, rfl, by show ((0 : Nat) : Int) ≤ 16384; omega, pni0 w l⟩
  case round =>
    obtain ⟨i, S, rfl, rfl, qS, HI⟩ := hrel
    by_cases hi : i = n
    · subst hi
      have HF : Hid (RpP l (.tuple #[.string S, iv 0, iv 0]) ∧ Below w.heap.size w wr) := by
        refine ⟨.inr (.inr ⟨HN64.out, fun j hj => HI.out.2.2.1 j (by have := HE.out.2; omega), ?_⟩), HI.out.2.2.2⟩
        have e1 : S = ⟨(txt l).toArray⟩ := ba_ext (by rw [HI.out.2.1, List.take_of_length_le (by have := HE.out.2; omega)])
        rw [e1]
      go_wp2
      go_ret3
      exact ⟨_, rfl, HF.out.1, HF.out.2⟩
    · have hlt : i < n := by have := HI.out.1; have := HE.out.2; omega
      have q1 : (i : Int) < (n : Int) := by omega
      obtain ⟨x, hx⟩ : ∃ x, l[i]? = some x := ⟨_, List.getElem?_eq_getElem (by have := HE.out.2; omega)⟩
      obtain ⟨b, off, rfl, hb, hel⟩ := HRA.out (by omega)
      have hxo := HLI.out x (List.mem_of_getElem? hx)
      obtain ⟨k, v⟩ := x
      have htk : l.take (i + 1) = l.take i ++ [⟨k, v⟩] := by rw [List.take_add_one, hx]; rfl
      have hra : wr.rangeAt b (off + i * 2) (Pr.mk k v).cells := rangeAt_same (hel i _ hx) (HI.out.2.2.2.block b hb)
      have c0 : wr.cell? ⟨b, off + i * 2, none⟩ = some (.string k) := hra 0 _ rfl
      have c1 : wr.cell? ⟨b, off + i * 2 + 1, none⟩ = some (.string v) := hra 1 _ rfl
      simp only at hxo
      have HX : Hid (b < wr.heap.size ∧ i < n ∧ k.size ≤ 20000 ∧ v.size ≤ 20000 ∧ l.take (i + 1) = l.take i ++ [⟨k, v⟩]) := ⟨Nat.lt_of_lt_of_le hb HI.out.2.2.2.size, hlt, by omega, by omega, htk⟩
      clear hi hlt hx hel hb hxo htk hra
      obtain ⟨T, hT⟩ : ∃ T : BA, T.data.toList = (if i = 0 then [] else txt (l.take i) ++ [38]) ∧ (i = 0 → T = S) ∧ (i ≠ 0 → S ++ amp = T) ∧ (T.size : Int) ≤ 16385 := by
        by_cases h0 : i = 0
        · subst h0
          refine ⟨S, ?_, fun _ => rfl, fun h => absurd rfl h, by omega⟩
          rw [if_pos rfl, HI.out.2.1]
          rfl
        · refine ⟨S ++ amp, ?_, fun h => absurd h h0, fun _ => rfl, ?_⟩
          · rw [if_neg h0, ← HI.out.2.1]; simp [ByteArray.data_append]
          · rw [ByteArray.size_append]; show ((S.size + 1 : Nat) : Int) ≤ _; omega
      have HT : Hid (T.data.toList = (if i = 0 then [] else txt (l.take i) ++ [38]) ∧ txt (l.take (i + 1)) = T.data.toList ++ pcL ⟨k, v⟩ ∧ (txt (l.take (i + 1))).length = T.size + pcN k v) := by
        have e2 : txt (l.take (i + 1)) = T.data.toList ++ pcL ⟨k, v⟩ := by
          rw [hT.1, HX.out.2.2.2.2]
          by_cases h0 : i = 0
          · subst h0; rw [if_pos rfl, List.take_zero, List.nil_append, txt_first]; rfl
          · rw [if_neg h0, txt_snoc (fun h => by have h2 := congrArg List.length h; rw [List.length_take, List.length_nil] at h2; have := HX.out.2.1; have := HE.out.2; omega)]; simp
        refine ⟨hT.1, e2, ?_⟩
        rw [e2, List.length_append, pcL_len]
        rfl
      have qT := hT.2.2.2
      have hT0 := hT.2.1
      have hT1 := hT.2.2.1
      clear hT
      obtain ⟨ek, hek⟩ : ∃ e : BA, ⟨(escL k.data.toList).toArray⟩ = e := ⟨_, rfl⟩
      obtain ⟨ev, hev⟩ : ∃ e : BA, ⟨(escL v.data.toList).toArray⟩ = e := ⟨_, rfl⟩
      have hn1 := (escL_len k.data.toList).2
      have hn2 := (escL_len v.data.toList).2
      have l1 : k.data.toList.length = k.size := rfl
      have l2 : v.data.toList.length = v.size := rfl
      have z1 : ek.size = (escL k.data.toList).length := by rw [← hek]; exact List.size_toArray ..
      have z2 : ev.size = (escL v.data.toList).length := by rw [← hev]; exact List.size_toArray ..
      have z3 : eqs.size = 1 := rfl
      have HZ : Hid (T.size ≤ 100000 ∧ ek.size ≤ 100000 ∧ (T ++ ek).size ≤ 100000 ∧ (T ++ ek ++ eqs).size ≤ 100000 ∧ ev.size ≤ 100000) := by
        have := HX.out.2.2.1
        have := HX.out.2.2.2.1
        exact ⟨by omega, by omega, by rw [ByteArray.size_append]; omega, by rw [ByteArray.size_append, ByteArray.size_append]; omega, by omega⟩
      obtain ⟨P, hP⟩ : ∃ P, T ++ ek ++ eqs ++ ev = P := ⟨_, rfl⟩
      have HPL : Hid (P.data.toList = txt (l.take (i + 1)) ∧ P.size = (txt (l.take (i + 1))).length) := by
        have e : P.data.toList = txt (l.take (i + 1)) := by rw [HT.out.2.1, ← hP, ← hek, ← hev]; simp [ByteArray.data_append, pcL]
        exact ⟨e, by rw [← e]; rfl⟩
      have qP : (P.size : Int) ≤ 300000 := by
        have z := HZ.out
        rw [← hP, ByteArray.size_append]
        omega
      have C1 : Hid (∀ V, Calls Tryd.prog 13 #[.string k] V fun e w' => e = .returned (.string ek) ∧ Below V.heap.size V w') := fun V => by rw [← hek]; exact rescape_is k (by have := HX.out.2.2.1; omega) V
      have C2 : Hid (∀ V, Calls Tryd.prog 13 #[.string v] V fun e w' => e = .returned (.string ev) ∧ Below V.heap.size V w') := fun V => by rw [← hev]; exact rescape_is v (by have := HX.out.2.2.2.1; omega) V
      have HQ : Hid ((0 : Int) ≤ (i : Int) ∧ (i : Int) < (n : Int)) := ⟨by omega, q1⟩
      clear hek hev hn1 hn2 l1 l2 z1 z2 z3
      by_cases h0 : i = 0
      · subst h0
        obtain rfl := hT0 rfl
        clear hT1
        go_wp2_with fail
        refine rp9 (i := 0) (T := T) (ek := ek) (ev := ev) HX.out.1 HQ.out c0 c1 (fun V _ => C1.out V) (fun V _ => C2.out V) HZ.out ?_
        intro V1 hV
        have HV : Hid (Below w.heap.size w V1) := below_tr HI.out.2.2.2 hV
        rw [hP]
        clear hV hP c0 c1
        by_cases hbig : 16384 < P.size
        · have q7 : (16384 : Int) < (P.size : Int) := by omega
          have HF : Hid (RpP l (.tuple #[.string e0, iv ((0 : Nat) : Int), iv 3])) := .inr (.inl ⟨HN64.out, 0, by have := HX.out.2.1; have := HE.out.2; omega, HI.out.2.2.1, by rw [← HPL.out.2]; exact hbig, rfl⟩)
          clear hbig
          go_wp2
          go_ret3
          exact ⟨_, rfl, HF.out, HV.out⟩
        · have q7 : (P.size : Int) ≤ 16384 := by omega
          have HF : Hid (PnI w l (0 + 1) P V1) := by
            refine ⟨by have := HX.out.2.1; have := HE.out.2; omega, HPL.out.1, fun j hj => ?_, HV.out⟩
            by_cases hj1 : j = 0 + 1
            · subst hj1; rw [← HPL.out.2]; omega
            · exact HI.out.2.2.1 j (by omega)
          have HME : Hid (0 < n) := HX.out.2.1
          clear hbig
          go_wp2
          go_roundw
          case rel => exact ⟨0 + 1, P, by simp, rfl, q7, HF.out⟩
          case measure =>
            have := HME.out
            simp only [intOf]
            omega
      · have q0 : 0 < (i : Int) := by omega
        have hcat := hT1 h0
        clear hT0 hT1 h0
        go_wp2_with fail
        refine rp9 (i := i) (T := T) (ek := ek) (ev := ev) HX.out.1 HQ.out c0 c1 (fun V _ => C1.out V) (fun V _ => C2.out V) HZ.out ?_
        intro V1 hV
        have HV : Hid (Below w.heap.size w V1) := below_tr HI.out.2.2.2 hV
        rw [hP]
        clear hV hP c0 c1
        by_cases hbig : 16384 < P.size
        · have q7 : (16384 : Int) < (P.size : Int) := by omega
          have HF : Hid (RpP l (.tuple #[.string e0, iv ((i : Nat) : Int), iv 3])) := .inr (.inl ⟨HN64.out, i, by have := HX.out.2.1; have := HE.out.2; omega, HI.out.2.2.1, by rw [← HPL.out.2]; exact hbig, rfl⟩)
          clear hbig
          go_wp2
          go_ret3
          exact ⟨_, rfl, HF.out, HV.out⟩
        · have q7 : (P.size : Int) ≤ 16384 := by omega
          have HF : Hid (PnI w l (i + 1) P V1) := by
            refine ⟨by have := HX.out.2.1; have := HE.out.2; omega, HPL.out.1, fun j hj => ?_, HV.out⟩
            by_cases hj1 : j = i + 1
            · subst hj1; rw [← HPL.out.2]; omega
            · exact HI.out.2.2.1 j (by omega)
          have HME : Hid (i < n) := HX.out.2.1
          clear hbig
          go_wp2
          go_roundw
          case rel => exact ⟨i + 1, P, by simp, rfl, q7, HF.out⟩
          case measure =>
            have := HME.out
            simp only [intOf]
            omega
#print axioms rprint_is
end Go.Proofs.YtlbcpbibcfolkaaDoor.Oct
