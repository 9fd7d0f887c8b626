/-
  Layer 10 (patch): the reference's reading: a byte, a text, a number.
  Layer 10 (patch): the program's reading: frame, a byte, a text, a number.
  Layer 10 (patch): the program's reading: a number, a text.
  Layer 10 (patch): the program's reading: hashes and vertices.
  Layer 10 (patch): the program's reading: vertices.
  Layer 10 (patch): the program's reading: vertices, whole.
-/
import Derived.Test.YtgdecjacbkicmaaGreatDoorQkB
import Derived.Test.YtgdecjacbkicmaaGreatDoorQkORefRead
import Derived.Deep.MidRow
import Derived.Test.YtgdecjacbkicmaaGreatDoorQkG
import Derived.Deep.RegionHeld
/- Layer 10 (patch): the reference's reading: a byte, a text, a number. -/
namespace Go.Proofs.YtgdecjacbkicmaaGreatDoor.Oct
open Go.RowKit
set_option maxRecDepth 100000
set_option linter.unusedSimpArgs false
set_option linter.unusedVariables false

theorem elem36 : Tryz.prog.underlying 26 = some (.slice (Tryz.prog.elem 26)) := by kernel_rfl
theorem size36 : (Tryz.prog.info? (Tryz.prog.elem 26)).map (·.size) = some 1 := by kernel_rfl
theorem In.other {w w' : World} {a : Option Addr} {n c g : Nat} {l : List UInt8} (h : In w a n c l) (hg : w.grownBy w' (some g)) (hne : 0 < n → ∀ x, a = some x → x.block < g) : In w' a n c l := by
  obtain ⟨h1, h2, h3, h4, h5⟩ := h
  refine ⟨h1, h2, h3, h4, fun hp => ?_⟩
  obtain ⟨b, off, e1, e2, e3⟩ := h5 hp
  have hb := hne hp _ e1
  refine ⟨b, off, e1, Nat.lt_of_lt_of_le e2 hg.size, fun i u hu => ?_⟩
  rw [← e3 i u hu]
  unfold World.cell?
  rw [hg.block b e2 (fun e => by cases e; exact Nat.lt_irrefl _ hb)]
theorem slice_from36 {w : World} {g : Nat} {a : Option Addr} {m cp : Nat} {l : List UInt8} (hin : In w a m cp l) (hd : 0 < m → ∀ x, a = some x → x.block < g) (s : Nat) (hs : s ≤ m) :
    ∃ a', (∀ W, (Instr.slice 26 (.slice a m cp) (some (.int .i64 (s : Int))) none none).run Tryz.prog W = .ok (.slice a' (m - s) (cp - s)) W) ∧ In w a' (m - s) (cp - s) (l.drop s) ∧ (0 < m - s → ∀ x, a' = some x → x.block < g) := by
  obtain ⟨i, hi, hsz⟩ := Option.map_eq_some_iff.1 size36
  refine ⟨if cp = s then a else a.map (·.add s), fun W => ?_, ?_, ?_⟩
  · simp [Instr.slice, run_underlying elem36, Instr.sliceBounds, Instr.sliceBound, asIntOf, sizeOf, typeInfo, hi, hsz, hs]
  · have h1 := hin.1
    have h2 := hin.2.1
    refine ⟨by simp; omega, by omega, by have := hin.2.2.1; omega, ?_, fun hp => ?_⟩
    · intro e
      cases a with
      | none => have := hin.2.2.2.1 rfl; omega
      | some x => split at e <;> simp at e
    · obtain ⟨b, off, rfl, e2, e3⟩ := hin.2.2.2.2 (by omega)
      rw [if_neg (by omega)]
      refine ⟨b, off + s, by simp [Addr.add_lit], e2, fun i c hc => ?_⟩
      rw [List.getElem?_drop] at hc
      rw [Nat.add_assoc]
      exact e3 _ c hc
  · intro hp x e
    have hd := hd (by omega)
    split at e
    · exact hd x e
    · cases a with
      | none => simp at e
      | some y =>
        have := hd y rfl
        simp only [Option.map_some, Option.some.injEq] at e
        subst e
        unfold Addr.add
        split <;> exact this
theorem wpList_slice_from36 {ops : Array Oper} {rest : List Oper} {o : Oper} {a : Act} {Q : Exit → Act → World → Prop} {w : World} (hgd : o.guard = none) (x lo : Operand) (hop : o.op = Op.slice 26 x (some lo) none none)
    (v v' : Value) (s : Nat) (hx : a.eval x = v) (hlo : a.eval lo = .int .i64 (s : Int)) (hrun : ∀ W, (Instr.slice 26 v (some (.int .i64 (s : Int))) none none).run Tryz.prog W = .ok v' W)
    (h : wpList Tryz.prog ops Q rest (a.put o.dst v') w) : wpList Tryz.prog ops Q (o :: rest) a w := by
  refine wpList_plain hgd fun K hK => ?_
  unfold Oper.wp
  simp [execOp, hop, hx, hlo, run_sliceAt_slice _ 26 _ _ _ _ elem36, hrun, Result.andThen]
  exact hK _ _ h
end Go.Proofs.YtgdecjacbkicmaaGreatDoor.Oct

/- Layer 10 (patch): the program's reading: frame, a byte, a text, a number. -/
namespace Go.Proofs.YtgdecjacbkicmaaGreatDoor.Oct
open Go.RowKit
set_option maxRecDepth 100000
set_option linter.unusedSimpArgs false
set_option linter.unusedVariables false

/-- blocks below B stay, and of those above all but the ones of some types -/
structure Fk (S : List TypeId) (B : Nat) (w w' : World) : Prop where
  os : w'.os = w.os
  tape : w'.tape = w.tape
  output : w'.output = w.output
  size : w.heap.size ≤ w'.heap.size
  low : ∀ k, k < B → w'.heap[k]? = w.heap[k]?
  typ : ∀ (k : Nat) (C : Array Value) (t : TypeId) (f : Nat × Nat), w.heap[k]? = some (.cells C t f) → t ∉ S → w'.heap[k]? = w.heap[k]?
theorem Fk.refl (S : List TypeId) (B : Nat) (w : World) : Fk S B w w := ⟨rfl, rfl, rfl, Nat.le_refl _, fun _ _ => rfl, fun _ _ _ _ _ _ => rfl⟩
theorem Fk.trans {S : List TypeId} {B : Nat} {a b c : World} (h : Fk S B a b) (k : Fk S B b c) : Fk S B a c :=
  ⟨k.os.trans h.os, k.tape.trans h.tape, k.output.trans h.output, Nat.le_trans h.size k.size, fun i hi => (k.low i hi).trans (h.low i hi), fun i C t f hC hs => by
    have e := h.typ i C t f hC hs
    exact (k.typ i C t f (e.trans hC) hs).trans e⟩
theorem Fk.more {S S' : List TypeId} {B : Nat} {a b : World} (h : Fk S B a b) (hs : ∀ x ∈ S, x ∈ S') : Fk S' B a b := ⟨h.os, h.tape, h.output, h.size, h.low, fun i C t f hC hn => h.typ i C t f hC fun e => hn (hs t e)⟩
theorem Fk.of_below {S : List TypeId} {B : Nat} {w w' : World} (h : Below w.heap.size w w') (hB : B ≤ w.heap.size) : Fk S B w w' :=
  ⟨h.os, h.tape, h.output, h.size, fun i hi => h.block i (Nat.lt_of_lt_of_le hi hB), fun i C t f hC _ => h.block i (Array.getElem?_eq_some_iff.1 hC).1⟩
theorem Fk.below {S : List TypeId} {B : Nat} {w w' : World} (h : Fk S B w w') : Below B w w' := ⟨h.os, h.tape, h.output, h.size, h.low⟩
theorem Fk.of_grown {S : List TypeId} {B : Nat} {w w' : World} {r : Option Nat} (h : w.grownBy w' r) (hB : B ≤ w.heap.size) (hr : ∀ g, r = some g → B ≤ g ∧ ∀ (C : Array Value) (t : TypeId) (f : Nat × Nat), w.heap[g]? = some (.cells C t f) → t ∈ S) : Fk S B w w' := by
  refine ⟨h.os, h.tape, h.output, h.size, fun i hi => ?_, fun i C t f hC hs => ?_⟩
  · refine h.block i (Nat.lt_of_lt_of_le hi hB) fun e => ?_
    have := (hr i e.symm).1
    omega
  · refine h.block i (Array.getElem?_eq_some_iff.1 hC).1 fun e => ?_
    exact hs ((hr i e.symm).2 C t f hC)
theorem Fk.of_blk {S : List TypeId} {B b : Nat} {w w' : World} {t : TypeId} {L : List Value} (h : w.grownBy w' (some b)) (hk : Blk w b t L) (hB : B ≤ b) (ht : t ∈ S) : Fk S B w w' := by
  refine Fk.of_grown h (by have := hk.lt; omega) fun g e => ?_
  cases e
  refine ⟨hB, fun C t' f hC => ?_⟩
  unfold Blk at hk
  rw [hk] at hC
  cases hC
  exact ht
theorem Blk.fk {S : List TypeId} {B : Nat} {w w' : World} {d : Nat} {t : TypeId} {L : List Value} (h : Blk w d t L) (k : Fk S B w w') (h1 : t ∉ S) : Blk w' d t L := (k.typ d _ t _ h h1).trans h
theorem own_fk {S : List TypeId} {B B' : Nat} {w w' : World} {e sz n : Nat} {v : Value} {cs : List Value} (h : w.ownsRow B e sz v n cs) (k : Fk S B' w w') (h1 : e ∉ S) : w'.ownsRow B e sz v n cs := by
  refine ⟨h.1, ?_⟩
  rcases h.2 with h0 | ⟨g, cap, cur, e1, hB, hb, hr⟩
  · exact .inl h0
  · exact .inr ⟨g, cap, cur, e1, hB, (k.typ g _ _ _ hb h1).trans hb, hr⟩
theorem RdAt.fk {S : List TypeId} {B B' : Nat} {w w' : World} {r g cap k : Nat} {l : List UInt8} (h : RdAt B w r g cap l k) (f : Fk S B' w w') (h1 : 92 ∉ S) (h2 : 5 ∉ S) : RdAt B w' r g cap l k :=
  ⟨h.hr, (f.typ r _ _ _ h.blk h1).trans h.blk, own_fk h.own f h2, h.len, h.at_⟩
theorem RdAt.row {B : Nat} {w w' : World} {r g cap k : Nat} {l : List UInt8} (h : RdAt B w r g cap l k) (hg : w.grownBy w' (some r)) : Fk [92] B w w' :=
  Fk.of_blk (t := 92) hg (L := [.slice (some ⟨g, 0, none⟩) l.length cap, .int .i64 (k : Int), .bool true]) h.blk h.hr (by simp)
/-- what is needed and is not: a panic -/
def pan : Ending := .panicked [{ v := .iface 29 (.int .i64 103), recovered := false }]
theorem need_yes (w : World) : Calls Tryz.prog 33 #[.bool true] w fun e w' => e = .returned (.tuple #[]) ∧ w = w' := by
  go_enter Tryz.func33, Tryz.ntmps33
  go_wp2
  go_end0
  exact ⟨rfl, rfl⟩
theorem need_no (w : World) : Calls Tryz.prog 33 #[.bool false] w fun e w' => e = pan ∧ w = w' := by
  go_enter Tryz.func33, Tryz.ntmps33
  go_wp2
  exact ⟨rfl, rfl, rfl⟩
theorem sure100 (w : World) (c : Int) : Calls Tryz.prog 75 #[bv c, iv 0] w fun e w' => e = .returned (bv c) ∧ w = w' := by
  go_enter Tryz.func75, Tryz.ntmps75
  go_wp2_with fail
  refine (need_yes w).mono ?_
  rintro e w1 ⟨rfl, hw⟩
  subst hw
  go_wp2
  go_ret
  exact ⟨rfl, rfl⟩
theorem sure100n (w : World) (c : Int) (er : Int) (h : er ≠ 0) : Calls Tryz.prog 75 #[bv c, iv er] w fun e w' => e = pan ∧ w = w' := by
  have e1 : (er == 0) = false := by simpa using h
  clear h
  go_enter Tryz.func75, Tryz.ntmps75
  go_wp2_with fail
  refine (need_no w).mono ?_
  rintro e w1 ⟨he, hw⟩
  subst hw
  rw [pan] at he
  subst he
  go_wp2
  exact ⟨rfl, rfl, rfl⟩
theorem sure102 (w : World) (c : BA) : Calls Tryz.prog 77 #[.string c, iv 0] w fun e w' => e = .returned (.string c) ∧ w = w' := by
  go_enter Tryz.func77, Tryz.ntmps77
  go_wp2_with fail
  refine (need_yes w).mono ?_
  rintro e w1 ⟨rfl, hw⟩
  subst hw
  go_wp2
  go_ret
  exact ⟨rfl, rfl⟩
theorem sure102n (w : World) (c : BA) (er : Int) (h : er ≠ 0) : Calls Tryz.prog 77 #[.string c, iv er] w fun e w' => e = pan ∧ w = w' := by
  have e1 : (er == 0) = false := by simpa using h
  clear h
  go_enter Tryz.func77, Tryz.ntmps77
  go_wp2_with fail
  refine (need_no w).mono ?_
  rintro e w1 ⟨he, hw⟩
  subst hw
  rw [pan] at he
  subst he
  go_wp2
  exact ⟨rfl, rfl, rfl⟩
theorem sure104 (w : World) (c : Int) : Calls Tryz.prog 79 #[.int .u64 c, iv 0] w fun e w' => e = .returned (.int .u64 c) ∧ w = w' := by
  go_enter Tryz.func79, Tryz.ntmps79
  go_wp2_with fail
  refine (need_yes w).mono ?_
  rintro e w1 ⟨rfl, hw⟩
  subst hw
  go_wp2
  go_ret
  exact ⟨rfl, rfl⟩
theorem sure104n (w : World) (c : Int) (er : Int) (h : er ≠ 0) : Calls Tryz.prog 79 #[.int .u64 c, iv er] w fun e w' => e = pan ∧ w = w' := by
  have e1 : (er == 0) = false := by simpa using h
  clear h
  go_enter Tryz.func79, Tryz.ntmps79
  go_wp2_with fail
  refine (need_no w).mono ?_
  rintro e w1 ⟨he, hw⟩
  subst hw
  rw [pan] at he
  subst he
  go_wp2
  exact ⟨rfl, rfl, rfl⟩
/-- a reader of patches stands at block g, its bytes at block r, with so much left, and has read what is needed -/
structure Pg (B : Nat) (w : World) (g r : Nat) (l : List UInt8) (da : Option Addr) (dn dc : Nat) (D : List Hs) : Prop where
  lo : B ≤ g
  blk : Blk w g 72 [.pointer (some ⟨r, 0, none⟩), .slice da dn dc]
  rd : ∃ gg cap L k, RdAt B w r gg cap L k ∧ L.drop k = l
  dp : w.ownsRow B 37 32 (.slice da dn dc) dn (hsC D)
  dl : D.length = dn
  d32 : ∀ h ∈ D, h.length = 32
  few : dn ≤ 16
theorem Pg.fk {S : List TypeId} {B B' : Nat} {w w' : World} {g r : Nat} {l : List UInt8} {da : Option Addr} {dn dc : Nat} {D : List Hs} (h : Pg B w g r l da dn dc D) (f : Fk S B' w w') (h1 : 92 ∉ S) (h2 : 5 ∉ S) (h3 : 72 ∉ S) (h4 : 37 ∉ S) : Pg B w' g r l da dn dc D := by
  obtain ⟨gg, cap, L, k, hr, e⟩ := h.rd
  exact ⟨h.lo, h.blk.fk f h3, ⟨gg, cap, L, k, hr.fk f h1 h2, e⟩, own_fk h.dp f h4, h.dl, h.d32, h.few⟩
theorem Pg.read {B : Nat} {w w' : World} {g r : Nat} {l : List UInt8} {da : Option Addr} {dn dc : Nat} {D : List Hs} (h : Pg B w g r l da dn dc D) {gg cap k' : Nat} {L : List UInt8} (hr : RdAt B w' r gg cap L k') (f : Fk [92] B w w') : Pg B w' g r (L.drop k') da dn dc D :=
  ⟨h.lo, h.blk.fk f (by decide), ⟨gg, cap, L, k', hr, rfl⟩, own_fk h.dp f (by decide), h.dl, h.d32, h.few⟩
theorem Pg.c0 {B : Nat} {w : World} {g r : Nat} {l : List UInt8} {da : Option Addr} {dn dc : Nat} {D : List Hs} (h : Pg B w g r l da dn dc D) : w.cell? ⟨g, 0, none⟩ = some (.pointer (some ⟨r, 0, none⟩)) := h.blk.cell rfl
theorem Pg.c1 {B : Nat} {w : World} {g r : Nat} {l : List UInt8} {da : Option Addr} {dn dc : Nat} {D : List Hs} (h : Pg B w g r l da dn dc D) : w.cell? ⟨g, 1, none⟩ = some (.slice da dn dc) := h.blk.cell rfl
/-- what a call of a reader leaves -/
def RP {α : Type} (B g r : Nat) (da : Option Addr) (dn dc : Nat) (D : List Hs) (w : World) (f : Option (α × List UInt8)) (E : α → Ending → World → Prop) (e : Ending) (w' : World) : Prop :=
  Fk [92] B w w' ∧ ((f = none ∧ e = pan) ∨ ∃ x l', f = some (x, l') ∧ E x e w' ∧ Pg B w' g r l' da dn dc D)
def mM (l : List UInt8) : Option (UInt8 × List UInt8) := match l with
  | [] => none
  | c :: r => some (c, r)
set_option maxHeartbeats 2000000 in
theorem mark82 {B : Nat} {w : World} {g r : Nat} {l : List UInt8} {da : Option Addr} {dn dc : Nat} {D : List Hs} (h : Pg B w g r l da dn dc D) : Calls Tryz.prog 50 #[.pointer (some ⟨g, 0, none⟩)] w (RP B g r da dn dc D w (mM l) fun c e _ => e = .returned (iv (c.toNat : Int))) := by
  have c0 := h.c0
  obtain ⟨gg, cap, L, k, hr, he⟩ := h.rd
  have HP : Hid (Pg B w g r l da dn dc D ∧ RdAt B w r gg cap L k ∧ L.drop k = l) := ⟨h, hr, he⟩
  clear h hr he
  by_cases hk : k = L.length
  · have HN : Hid (mM l = none) := by show _ = _; rw [← HP.out.2.2, hk, List.drop_length]; rfl
    have HK : Hid (k = L.length) := hk
    clear hk
    go_enter Tryz.func50, Tryz.ntmps50
    go_wp2_with fail
    refine (byte_endG HP.out.2.1 HK.out).mono ?_
    rintro e w1 ⟨rfl, hr1, hg1⟩
    have H1 : Hid (Fk [92] B w w1) := HP.out.2.1.row hg1
    clear hr1 hg1
    go_wp2_with fail
    refine (sure100n w1 0 10 (by decide)).mono ?_
    rintro e w2 ⟨hp, hw⟩
    subst hw
    rw [pan] at hp
    subst hp
    go_wp2
    exact ⟨rfl, H1.out, .inl ⟨HN.out, rfl⟩⟩
  · have hkl : k < L.length := by have := HP.out.2.1.at_; omega
    obtain ⟨c, hc⟩ : ∃ c, L[k] = c := ⟨_, rfl⟩
    have HN : Hid (mM l = some (c, L.drop (k + 1)) ∧ k < L.length ∧ L[k]? = some c) := ⟨by rw [← HP.out.2.2, List.drop_eq_getElem_cons hkl, hc]; rfl, hkl, by rw [List.getElem?_eq_getElem hkl, hc]⟩
    have qc : (c.toNat : Int) < 256 := by have := c.toNat_lt; omega
    clear hk hkl hc
    go_enter Tryz.func50, Tryz.ntmps50
    go_wp2_with fail
    refine (byte_isG HP.out.2.1 HN.out.2.1 c.toNat (by have h := HN.out.2.2; rw [List.getElem?_eq_getElem HN.out.2.1] at h; rw [Option.some.inj h])).mono ?_
    rintro e w1 ⟨rfl, hr1, hg1⟩
    have H1 : Hid (Fk [92] B w w1 ∧ Pg B w1 g r (L.drop (k + 1)) da dn dc D) := ⟨HP.out.2.1.row hg1, HP.out.1.read hr1 (HP.out.2.1.row hg1)⟩
    clear hr1 hg1
    go_wp2_with fail
    refine (sure100 w1 (c.toNat : Int)).mono ?_
    rintro e w2 ⟨rfl, hw⟩
    subst hw
    go_wp2
    go_ret
    exact ⟨H1.out.1, .inr ⟨c, _, HN.out.1, by first | exact rfl | (congr 2; omega), H1.out.2⟩⟩
end Go.Proofs.YtgdecjacbkicmaaGreatDoor.Oct

/- Layer 10 (patch): the program's reading: a number, a text. -/
namespace Go.Proofs.YtgdecjacbkicmaaGreatDoor.Oct
open Go.RowKit
set_option maxRecDepth 100000
set_option linter.unusedSimpArgs false
set_option linter.unusedVariables false

set_option maxHeartbeats 2000000 in
theorem number84 {B : Nat} {w : World} {g r : Nat} {l : List UInt8} {da : Option Addr} {dn dc : Nat} {D : List Hs} (h : Pg B w g r l da dn dc D) (most : Nat) (hm : most ≤ 1099511627776) : Calls Tryz.prog 52 #[.pointer (some ⟨g, 0, none⟩), iv (most : Int)] w (RP B g r da dn dc D w (nN most l) fun n e _ => e = .returned (iv (n : Int)) ∧ n ≤ most) := by
  have c0 := h.c0
  obtain ⟨gg, cap, L, k, hr, he⟩ := h.rd
  have HP : Hid (Pg B w g r l da dn dc D ∧ RdAt B w r gg cap L k ∧ L.drop k = l) := ⟨h, hr, he⟩
  obtain ⟨N, K, EE, hd⟩ : ∃ N K E, dec l = (N, K, E) := ⟨_, _, _, rfl⟩
  have hdl := dec_lt l
  rw [hd] at hdl
  have HM : Hid (most ≤ 1099511627776) := hm
  have qm : (most : Int) ≤ 1099511627776 := by omega
  have qN : (N : Int) ≤ 18446744073709551615 := by simp only at hdl; omega
  have hku := dec_used l
  rw [hd] at hku
  have hu := uint_isG hr
  rw [he, hd] at hu
  simp only at hu hku
  have HU : Hid (Calls Tryz.prog 80 #[.pointer (some ⟨r, 0, none⟩)] w fun e w' => e = .returned (.tuple #[.int .u64 (N : Int), .int .i64 (EE : Int)]) ∧ RdAt B w' r gg cap L (k + K) ∧ w.grownBy w' (some r)) := hu
  have HK : Hid (L.drop (k + K) = l.drop K ∧ dec l = (N, K, EE)) := ⟨by rw [← he, List.drop_drop], hd⟩
  clear h hr he hd hdl hm hku hu
  by_cases hE : EE = 0
  · subst hE
    by_cases hN : N ≤ most
    · have q1 : (N : Int) ≤ (most : Int) := by omega
      have q0 : 0 ≤ (N : Int) := by omega
      have g1 : decide ((N : Int) ≤ (most : Int)) = true := decide_eq_true q1
      have w1 : IntKind.u64.wrap (most : Int) = (most : Int) := by rw [IntKind.wrap_u64]; omega
      have w2 : IntKind.i64.wrap (N : Int) = (N : Int) := by rw [IntKind.wrap_i64] <;> omega
      have HN : Hid (nN most l = some (N, l.drop K) ∧ N ≤ most) := ⟨by unfold nN; rw [HK.out.2, if_pos ⟨rfl, hN⟩], hN⟩
      clear hN
      go_enter Tryz.func52, Tryz.ntmps52
      go_wp2_with fail
      refine HU.out.mono ?_
      rintro e w1 ⟨rfl, hr1, hg1⟩
      have H1 : Hid (Fk [92] B w w1 ∧ Pg B w1 g r (l.drop K) da dn dc D) := ⟨HP.out.2.1.row hg1, by rw [← HK.out.1]; exact HP.out.1.read hr1 (HP.out.2.1.row hg1)⟩
      clear hr1 hg1
      go_wp2_with fail
      refine (sure104 w1 (N : Int)).mono ?_
      rintro e w2 ⟨rfl, hw⟩
      subst hw
      go_wp2_with fail
      refine (need_yes _).mono ?_
      rintro e w2 ⟨rfl, hw⟩
      subst hw
      go_wp2
      go_ret
      exact ⟨H1.out.1, .inr ⟨N, _, HN.out.1, ⟨by first | exact rfl | (congr 2; omega), HN.out.2⟩, H1.out.2⟩⟩
    · have q1 : (most : Int) < (N : Int) := by omega
      have g1 : decide ((N : Int) ≤ (most : Int)) = false := decide_eq_false (by omega)
      have HN : Hid (nN most l = none) := by show _ = _; unfold nN; rw [HK.out.2, if_neg (fun h => hN h.2)]
      have HG : Hid (decide (N ≤ most) = false) := decide_eq_false hN
      have w1 : IntKind.u64.wrap (most : Int) = (most : Int) := by rw [IntKind.wrap_u64]; omega
      clear hN
      go_enter Tryz.func52, Tryz.ntmps52
      go_wp2_with fail
      refine HU.out.mono ?_
      rintro e w1 ⟨rfl, hr1, hg1⟩
      have H1 : Hid (Fk [92] B w w1) := HP.out.2.1.row hg1
      clear hr1 hg1
      go_wp2_with fail
      refine (sure104 w1 (N : Int)).mono ?_
      rintro e w2 ⟨rfl, hw⟩
      subst hw
      go_wp2_with fail
      rw [HG.out]
      refine (need_no _).mono ?_
      rintro e w2 ⟨hp, hw⟩
      subst hw
      rw [pan] at hp
      subst hp
      go_wp2
      exact ⟨rfl, H1.out, .inl ⟨HN.out, rfl⟩⟩
  · have HN : Hid (nN most l = none) := by show _ = _; unfold nN; rw [HK.out.2, if_neg (fun h => hE h.1)]
    have HE : Hid ((EE : Int) ≠ 0) := by show _ ≠ _; omega
    clear hE
    go_enter Tryz.func52, Tryz.ntmps52
    go_wp2_with fail
    refine HU.out.mono ?_
    rintro e w1 ⟨rfl, hr1, hg1⟩
    have H1 : Hid (Fk [92] B w w1) := HP.out.2.1.row hg1
    clear hr1 hg1
    go_wp2_with fail
    refine (sure104n w1 (N : Int) (EE : Int) HE.out).mono ?_
    rintro e w2 ⟨hp, hw⟩
    subst hw
    rw [pan] at hp
    subst hp
    go_wp2
    exact ⟨rfl, H1.out, .inl ⟨HN.out, rfl⟩⟩
theorem txt_someG {most : Nat} {l : List UInt8} (h : (txt l (most : Int)).2.2 = 0) : tT most l = some (⟨(txt l (most : Int)).1.toArray⟩, l.drop (txt l (most : Int)).2.1) ∧ (txt l (most : Int)).2.1 ≤ l.length ∧ (txt l (most : Int)).1.length ≤ most := by
  have hu := dec_used l
  unfold txt at h ⊢
  unfold tT nN
  by_cases h1 : (dec l).2.2 ≠ 0
  · rw [if_pos h1] at h; exact absurd h h1
  rw [if_neg h1] at h ⊢
  have e1 : (dec l).2.2 = 0 := Classical.not_not.1 h1
  by_cases h2 : (most : Int).toNat < (dec l).1
  · rw [if_pos h2] at h; simp at h
  rw [if_neg h2] at h ⊢
  by_cases h3 : l.length - (dec l).2.1 < (dec l).1
  · rw [if_pos h3] at h; simp at h
  rw [if_neg h3]
  have h2' : (dec l).1 ≤ most := by simpa using h2
  rw [if_pos ⟨e1, h2'⟩]
  simp only [Option.bind_some]
  rw [if_pos (by rw [List.length_drop]; omega)]
  refine ⟨by rw [List.drop_drop], by omega, ?_⟩
  rw [List.length_take, List.length_drop]
  omega
theorem txt_noneG {most : Nat} {l : List UInt8} (h : (txt l (most : Int)).2.2 ≠ 0) : tT most l = none := by
  unfold txt at h
  unfold tT nN
  by_cases h1 : (dec l).2.2 ≠ 0
  · rw [if_neg (fun e => h1 e.1)]; rfl
  rw [if_neg h1] at h
  have e1 : (dec l).2.2 = 0 := Classical.not_not.1 h1
  by_cases h2 : (most : Int).toNat < (dec l).1
  · rw [if_neg (fun e => by have := e.2; simp at h2; omega)]; rfl
  rw [if_neg h2] at h
  have h2' : (dec l).1 ≤ most := by simpa using h2
  by_cases h3 : l.length - (dec l).2.1 < (dec l).1
  · rw [if_pos ⟨e1, h2'⟩]
    simp only [Option.bind_some]
    rw [if_neg (by rw [List.length_drop]; omega)]
  · rw [if_neg h3] at h
    exact absurd rfl h
set_option maxHeartbeats 2000000 in
theorem text83 {B : Nat} {w : World} {g r : Nat} {l : List UInt8} {da : Option Addr} {dn dc : Nat} {D : List Hs} (h : Pg B w g r l da dn dc D) (most : Nat) (hm : most ≤ 1000) : Calls Tryz.prog 51 #[.pointer (some ⟨g, 0, none⟩), iv (most : Int)] w (RP B g r da dn dc D w (tT most l) fun s e _ => e = .returned (.string s) ∧ s.size ≤ most) := by
  have c0 := h.c0
  obtain ⟨gg, cap, L, k, hr, he⟩ := h.rd
  have HP : Hid (Pg B w g r l da dn dc D ∧ RdAt B w r gg cap L k ∧ L.drop k = l) := ⟨h, hr, he⟩
  obtain ⟨S, K, EE, hd⟩ : ∃ S K E, txt l (most : Int) = (S, K, E) := ⟨_, _, _, rfl⟩
  have hu := text_isG (most : Int) (by omega) (by omega) hr
  rw [he, hd] at hu
  obtain ⟨sb, hsb⟩ : ∃ sb : BA, (⟨S.toArray⟩ : BA) = sb := ⟨_, rfl⟩
  simp only [hsb] at hu
  have HU : Hid (Calls Tryz.prog 78 #[.pointer (some ⟨r, 0, none⟩), iv (most : Int)] w fun e w' => e = .returned (.tuple #[.string sb, iv (EE : Int)]) ∧ RdAt B w' r gg cap L (k + K) ∧ w.grownBy w' (some r)) := hu
  have HK : Hid (L.drop (k + K) = l.drop K) := by show _ = _; rw [← he, List.drop_drop]
  have hN : (EE = 0 → tT most l = some (sb, l.drop K) ∧ sb.size ≤ most) ∧ (EE ≠ 0 → tT most l = none) := by
    constructor
    · intro e
      have ht := txt_someG (most := most) (l := l) (by rw [hd]; exact e)
      rw [hd] at ht
      simp only [hsb] at ht
      exact ⟨ht.1, by rw [← hsb]; show S.toArray.size ≤ most; rw [List.size_toArray]; exact ht.2.2⟩
    · intro e
      exact txt_noneG (by rw [hd]; exact e)
  have HT : Hid ((EE = 0 → tT most l = some (sb, l.drop K) ∧ sb.size ≤ most) ∧ (EE ≠ 0 → tT most l = none)) := hN
  clear h hr he hd hu hsb hN hm
  by_cases hE : EE = 0
  · subst hE
    have HN : Hid (tT most l = some (sb, l.drop K) ∧ sb.size ≤ most) := HT.out.1 rfl
    go_enter Tryz.func51, Tryz.ntmps51
    go_wp2_with fail
    refine HU.out.mono ?_
    rintro e w1 ⟨rfl, hr1, hg1⟩
    have H1 : Hid (Fk [92] B w w1 ∧ Pg B w1 g r (l.drop K) da dn dc D) := ⟨HP.out.2.1.row hg1, by rw [← HK.out]; exact HP.out.1.read hr1 (HP.out.2.1.row hg1)⟩
    clear hr1 hg1
    go_wp2_with fail
    refine (sure102 w1 sb).mono ?_
    rintro e w2 ⟨rfl, hw⟩
    subst hw
    go_wp2
    go_ret
    exact ⟨H1.out.1, .inr ⟨sb, _, HN.out.1, ⟨rfl, HN.out.2⟩, H1.out.2⟩⟩
  · have HN : Hid (tT most l = none) := HT.out.2 hE
    have HE : Hid ((EE : Int) ≠ 0) := by show _ ≠ _; omega
    clear hE
    go_enter Tryz.func51, Tryz.ntmps51
    go_wp2_with fail
    refine HU.out.mono ?_
    rintro e w1 ⟨rfl, hr1, hg1⟩
    have H1 : Hid (Fk [92] B w w1) := HP.out.2.1.row hg1
    clear hr1 hg1
    go_wp2_with fail
    refine (sure102n w1 sb (EE : Int) HE.out).mono ?_
    rintro e w2 ⟨hp, hw⟩
    subst hw
    rw [pan] at hp
    subst hp
    go_wp2
    exact ⟨rfl, H1.out, .inl ⟨HN.out, rfl⟩⟩
/-- what a hash's bytes are so far -/
def hsF (l : List UInt8) (i : Nat) : Hs := l.take i ++ List.replicate (32 - i) 0
theorem hsF_len {l : List UInt8} {i : Nat} (h : i ≤ l.length) (hi : i ≤ 32) : (hsF l i).length = 32 := by
  unfold hsF
  rw [List.length_append, List.length_take, List.length_replicate]
  omega
theorem hsF_next {l : List UInt8} {i : Nat} {c : UInt8} (h : l[i]? = some c) (hi : i < 32) : (U (hsF l i)).set i (bv (c.toNat : Int)) = U (hsF l (i + 1)) := by
  have hl := (List.getElem?_eq_some_iff.1 h).1
  have h1 : (hsF l i).set i c = hsF l (i + 1) := by
    unfold hsF
    have e : (l.take i).length = i := by rw [List.length_take]; omega
    rw [List.set_append_right _ _ (by omega), e, Nat.sub_self, List.take_add_one, h]
    have e2 : 32 - i = (32 - (i + 1)) + 1 := by omega
    rw [e2, List.replicate_succ]
    simp
  rw [← h1]
  unfold U
  rw [List.map_set]
theorem hsF_at {l : List UInt8} {i : Nat} (h : i ≤ l.length) (hi : i < 32) : (U (hsF l i))[i]? = some (bv 0) := by
  unfold hsF
  rw [U_append]
  have e : (U (l.take i)).length = i := by rw [U_length, List.length_take]; omega
  rw [List.getElem?_append_right (by omega), e, Nat.sub_self]
  obtain ⟨m, hm⟩ : ∃ m, 32 - i = m + 1 := ⟨32 - i - 1, by omega⟩
  rw [hm, List.replicate_succ]
  rfl
theorem hsF_one (l : List UInt8) (i : Nat) : ∀ u ∈ U (hsF l i), u.oneCell' = true := fun u hu => by
  obtain ⟨c, _, rfl⟩ := List.mem_map.1 hu
  rfl
theorem hsF_end {l : List UInt8} (h : 32 ≤ l.length) : hsF l 32 = l.take 32 := by
  unfold hsF
  simp
end Go.Proofs.YtgdecjacbkicmaaGreatDoor.Oct

/- Layer 10 (patch): the program's reading: hashes and vertices. -/
namespace Go.Proofs.YtgdecjacbkicmaaGreatDoor.Oct
open Go.RowKit
set_option maxRecDepth 100000
set_option linter.unusedSimpArgs false
set_option linter.unusedVariables false

theorem Fk.far {S : List TypeId} {B d : Nat} {w w1 w2 : World} (h : Fk S B w w1) (hg : w1.grownBy w2 (some d)) (hd : w.heap.size ≤ d) (hB : B ≤ w.heap.size) : Fk S B w w2 :=
  ⟨hg.os.trans h.os, hg.tape.trans h.tape, hg.output.trans h.output, Nat.le_trans h.size hg.size, fun k hk => (hg.block k (by have := h.size; omega) (by intro e; cases e; omega)).trans (h.low k hk), fun k C t f hC hs => by
    have hlt : k < w.heap.size := (Array.getElem?_eq_some_iff.1 hC).1
    exact (hg.block k (by have := h.size; omega) (by intro e; cases e; omega)).trans (h.typ k C t f hC hs)⟩
theorem Fk.then {S : List TypeId} {B : Nat} {w w1 w2 : World} (h : Fk S B w w1) (hb : Below w1.heap.size w1 w2) (hB : B ≤ w1.heap.size) : Fk S B w w2 := h.trans (Fk.of_below hb hB)
theorem step_store_blk {P : Program} {ops : Array Oper} {op : Oper} {a : Act} {w : World} {K : Act → World → Prop} {Q : Exit → Act → World → Prop} {E : Prop} (hw : Region.wanted op (yielded ops a.tmps) = true) (ty : TypeId) (x y : Operand) (ho : op.op = .store ty x y)
    (b o : Nat) (t : TypeId) (L : List Value) (cells : List Value) (hx : a.eval x = .pointer (some ⟨b, o, none⟩)) (hy : a.eval y = .agg cells.toArray)
    (hb : Blk w b t L) (hl : o + cells.length ≤ L.length) (hi : (P.info? ty).map (·.size) = some cells.length) (h1 : ∀ v ∈ cells, v.oneCell' = true)
    (h : ∀ w', Hid (Blk w' b t (L.take o ++ cells ++ L.drop (o + cells.length))) → Hid (w.grownBy w' (some b)) → K (a.put op.dst undef) w') : if Region.wanted op (yielded ops a.tmps) = true then Oper.wp P op a w K Q else E := by
  rw [if_pos hw]
  have e := Blk.setCells cells o w L hb hl
  exact wp_store_mid ty x y ho b o cells.toArray hx hy (by simpa using hb.there o cells.length hl) (by simpa using hi) (all_oneCell_toArray h1) (h _ e.1 e.2)
theorem Pg.hs {w : World} {B g r : Nat} {l : List UInt8} {da : Option Addr} {dn dc : Nat} {D : List Hs} (h : Pg B w g r l da dn dc D) : HsR w da dn D := by
  cases da with
  | none =>
    rcases h.dp.2 with ⟨h0, h1⟩ | ⟨g', cap, cur, e, _⟩
    · exact ⟨h.dl, h.d32, fun hp => by omega⟩
    · cases e
  | some x =>
    rcases h.dp.2 with ⟨h0, h1⟩ | ⟨g', cap, cur, e, hr⟩
    · cases h0
    · cases e
      exact hsR_row h.dp h.d32 h.dl
theorem Pg.cap {w : World} {B g r : Nat} {l : List UInt8} {da : Option Addr} {dn dc : Nat} {D : List Hs} (h : Pg B w g r l da dn dc D) : dn ≤ dc ∧ dc ≤ maxLen := by
  rcases h.dp.2 with ⟨h0, h1⟩ | ⟨g', cap, cur, e, _, _, h2, h3, _⟩
  · cases h0; exact ⟨Nat.le_refl _, by unfold maxLen; omega⟩
  · cases e; exact ⟨h2, h3⟩
theorem Pg.lt {w : World} {B g r : Nat} {l : List UInt8} {da : Option Addr} {dn dc : Nat} {D : List Hs} (h : Pg B w g r l da dn dc D) : g < w.heap.size ∧ B ≤ w.heap.size ∧ r < w.heap.size := by
  obtain ⟨_, _, _, _, hr, _⟩ := h.rd
  have h1 := h.blk.lt
  have h2 : r < w.heap.size := (Array.getElem?_eq_some_iff.1 hr.blk).1
  exact ⟨h1, by have := h.lo; omega, h2⟩
theorem Pg.below {w w' : World} {B g r : Nat} {l : List UInt8} {da : Option Addr} {dn dc : Nat} {D : List Hs} (h : Pg B w g r l da dn dc D) (hb : Below w.heap.size w w') : Pg B w' g r l da dn dc D :=
  h.fk (Fk.of_below (S := []) (B := w.heap.size) hb (Nat.le_refl _)) (by simp) (by simp) (by simp) (by simp)
set_option maxHeartbeats 4000000 in
theorem hash85 {w : World} {B g r : Nat} {l : List UInt8} {da : Option Addr} {dn dc : Nat} {D : List Hs} (h : Pg B w g r l da dn dc D) : Calls Tryz.prog 53 #[.pointer (some ⟨g, 0, none⟩)] w (RP B g r da dn dc D w (hH l) fun x e _ => e = .returned (.agg (U x).toArray) ∧ x.length = 32) := by
  obtain ⟨gg, cap, L, k, hr, he⟩ := h.rd
  have hlt := h.lt
  obtain ⟨Z, hZ, HZ⟩ := zero47
  obtain ⟨d2, hd2⟩ : ∃ d, w.heap.size = d := ⟨_, rfl⟩
  obtain ⟨W1, hW1⟩ : ∃ W, w.alloc (.cells Z.toArray 37) = W := ⟨_, rfl⟩
  obtain ⟨d3, hd3⟩ : ∃ d, W1.heap.size = d := ⟨_, rfl⟩
  obtain ⟨W, hW⟩ : ∃ W, W1.alloc (.cells Z.toArray 37) = W := ⟨_, rfl⟩
  have b1 : Below w.heap.size w W1 := by rw [← hW1]; exact below_al _ _
  have b2 : Below W1.heap.size W1 W := by rw [← hW]; exact below_al _ _
  have k2 : Blk W d2 37 Z := by have h : Blk W1 d2 37 Z := by rw [← hW1, ← hd2]; exact Blk.new w _ _
                                exact h.below b2 h.lt
  have k3 : Blk W d3 37 Z := by rw [← hW, ← hd3]; exact Blk.new W1 _ _
  have hz0 : Z = U (hsF l 0) := by rw [HZ.out]; rfl
  have HZL : Hid (Z.length = 32) := by show _ = _; rw [HZ.out]; rfl
  have k23 : d2 < d3 := by
    have h : Blk W1 d2 37 Z := by rw [← hW1, ← hd2]; exact Blk.new w _ _
    rw [← hd3]
    exact h.lt
  have HP : Hid (Pg B w g r l da dn dc D ∧ L.drop k = l ∧ w.heap.size ≤ d2 ∧ d2 < d3 ∧ B ≤ w.heap.size) := ⟨h, he, by omega, k23, hlt.2.1⟩
  have H0 : Hid (Fk [92] B w W ∧ RdAt B W r gg cap L k ∧ Blk W d3 37 (U (hsF l 0)) ∧ Blk W d2 37 Z) := ⟨Fk.of_below (below_tr b1 b2) hlt.2.1, hr.fk (Fk.of_below (S := []) (B := B) (below_tr b1 b2) hlt.2.1) (by simp) (by simp), by rw [← hz0]; exact k3, k2⟩
  clear h hr he b1 b2 k2 k3 hz0 hlt HZ k23
  go_enter Tryz.func53, Tryz.ntmps53
  go_wp2
  go_loopw [5] (fun u wr => ∃ i : Nat, u = iv (i : Int) ∧ (i : Int) ≤ 32 ∧ Hid (i ≤ l.length ∧ Fk [92] B w wr ∧ RdAt B wr r gg cap L (k + i) ∧ Blk wr d3 37 (U (hsF l i)) ∧ Blk wr d2 37 Z)) (fun u _ => 32 - (intOf u).toNat)
  case atStart => exact ⟨0, rfl, by omega, Nat.zero_le _, H0.out.1, H0.out.2.1, H0.out.2.2.1, H0.out.2.2.2⟩
  case round =>
    obtain ⟨V, hV⟩ : ∃ V, V = wr := ⟨_, rfl⟩
    subst hV
    obtain ⟨i, rfl, qi, HI⟩ := hrel
    have c0 : V.cell? ⟨g, 0, none⟩ = some (.pointer (some ⟨r, 0, none⟩)) := (HP.out.1.blk.fk HI.out.2.1 (by decide)).cell rfl
    by_cases hi : i < 32
    · have q1 : (i : Int) < 32 := by omega
      by_cases hk : k + i = L.length
      · have HN : Hid (hH l = none) := by
          show _ = _
          unfold hH
          rw [if_neg (by rw [← HP.out.2.1, List.length_drop]; omega)]
        have HK : Hid (k + i = L.length) := hk
        clear hk qi hi
        go_wp2_with fail
        refine (byte_endG HI.out.2.2.1 HK.out).mono ?_
        rintro e w1 ⟨rfl, hr1, hg1⟩
        have H1 : Hid (Fk [92] B w w1) := HI.out.2.1.trans (HI.out.2.2.1.row hg1)
        clear hr1 hg1
        go_wp2_with fail
        refine (sure100n w1 0 10 (by decide)).mono ?_
        rintro e w2 ⟨hp, hw⟩
        subst hw
        rw [pan] at hp
        subst hp
        go_wp2
        exact ⟨rfl, H1.out, .inl ⟨HN.out, rfl⟩⟩
      · have hkl : k + i < L.length := by have := HI.out.2.2.1.at_; omega
        obtain ⟨c, hc⟩ : ∃ c, L[k + i] = c := ⟨_, rfl⟩
        have HN : Hid (l[i]? = some c ∧ k + i < L.length ∧ i < 32 ∧ i < l.length ∧ L[k + i]? = some c) := by
          have h1 : l[i]? = some c := by rw [← HP.out.2.1, List.getElem?_drop, List.getElem?_eq_getElem hkl, hc]
          exact ⟨h1, hkl, hi, (List.getElem?_eq_some_iff.1 h1).1, by rw [List.getElem?_eq_getElem hkl, hc]⟩
        have qc : (c.toNat : Int) < 256 := by have := c.toNat_lt; omega
        clear hk hkl hc hi
        go_wp2_with fail
        refine (byte_isG HI.out.2.2.1 HN.out.2.1 c.toNat (by have h := HN.out.2.2.2.2; rw [List.getElem?_eq_getElem HN.out.2.1] at h; rw [Option.some.inj h])).mono ?_
        rintro e w1 ⟨rfl, hr1, hg1⟩
        have hf1 := HI.out.2.2.1.row hg1
        have k3 : Blk w1 d3 37 (U (hsF l i)) := HI.out.2.2.2.1.fk hf1 (by decide)
        have H1 : Hid (Fk [92] B w w1 ∧ RdAt B w1 r gg cap L (k + i + 1) ∧ Blk w1 d3 37 (U (hsF l i)) ∧ Blk w1 d2 37 Z) := ⟨HI.out.2.1.trans hf1, hr1, k3, HI.out.2.2.2.2.fk hf1 (by decide)⟩
        have e3 : w1.cell? ⟨d3, i, none⟩ = some (bv 0) := k3.cell (hsF_at (by have := HN.out.2.2.2.1; omega) HN.out.2.2.1)
        have f3 : w1.frozen? ⟨d3, i, none⟩ = false := k3.free i
        clear hr1 hg1 hf1 k3 c0
        go_wp2_with fail
        refine (sure100 w1 (c.toNat : Int)).mono ?_
        rintro e w2 ⟨rfl, hw⟩
        subst hw
        go_wp2
        go_roundw
        case rel =>
          have hgs := grown_setCell w1 d3 i (bv (c.toNat : Int))
          have hk4 : Blk (w1.setCell ⟨d3, i, none⟩ (bv (c.toNat : Int))) d3 37 (U (hsF l (i + 1))) := by
            rw [← hsF_next HN.out.1 HN.out.2.2.1]
            exact H1.out.2.2.1.set i _
          have hfk : Fk [37] B w1 (w1.setCell ⟨d3, i, none⟩ (bv (c.toNat : Int))) := Fk.of_blk hgs H1.out.2.2.1 (by have := HP.out; omega) (by simp)
          exact ⟨i + 1, by simp, by have := HN.out.2.2.1; omega, HN.out.2.2.2.1, H1.out.1.far hgs (by have := HP.out; omega) HP.out.2.2.2.2, H1.out.2.1.fk hfk (by decide) (by decide), hk4, H1.out.2.2.2.kept hgs (by have := HP.out.2.2.2.1; simp; omega)⟩
        case measure => have := HN.out.2.2.1; simp only [intOf]; omega
    · have q1 : (32 : Int) ≤ (i : Int) := by omega
      have hi32 : i = 32 := by omega
      subst hi32
      have hL : (hsF l 32).length = 32 := hsF_len HI.out.1 (Nat.le_refl _)
      have HL : Hid ((hsF l 32).length = 32) := hL
      clear hi qi hL
      go_wp2_with (with_reducible change wpList _ _ _ ({ dst := some 19, op := _, type := _, pos := _, after := _, guard := _ } :: _) _ _; refine Hid.out ?_)
      show wpList _ _ _ _ _ _
      refine wpList_load_mid rfl 37 (.tmp 3) rfl d3 0 rfl (U (hsF l 32)) _ HI.out.2.2.2.1.range0 Tryz.underlying37 rfl (info47 _ HL.out) ?_
      go_wp2_with (with_reducible change wpList _ _ _ ({ dst := none, op := Op.store 37 _ _, type := _, pos := _, after := _, guard := _ } :: _) _ _; refine Hid.out ?_)
      show wpList _ _ _ _ _ _
      refine wpList_store_blk rfl 37 (.tmp 2) (.tmp 19) rfl d2 0 37 Z (U (hsF l 32)) rfl rfl HI.out.2.2.2.2 (by rw [HZL.out, U_length, HL.out]; omega) (info47 _ HL.out) (U_one _) ?_
      intro W1 hx hgs
      have hfk : Fk [37] B V W1 := Fk.of_blk hgs.out HI.out.2.2.2.2 (by have := HP.out; omega) (by simp)
      have H1 : Hid (Blk W1 d2 37 (U (hsF l 32)) ∧ RP B g r da dn dc D w (hH l) (fun x e _ => e = .returned (.agg (U x).toArray) ∧ x.length = 32) (.returned (.agg (U (hsF l 32)).toArray)) W1) := by
        have hff : Fk [92] B w W1 := HI.out.2.1.far hgs.out HP.out.2.2.1 HP.out.2.2.2.2
        refine ⟨blk_all hx.out (by rw [HZL.out, U_length, HL.out]), hff, .inr ⟨hsF l 32, L.drop (k + 32), ?_, ⟨rfl, HL.out⟩, HP.out.1.read (HI.out.2.2.1.fk hfk (by decide) (by decide)) hff⟩⟩
        unfold hH
        rw [if_pos HI.out.1, hsF_end HI.out.1, ← HP.out.2.1, List.drop_drop]
      clear hx hgs hfk
      go_wp2
      exact ret_c rfl rfl rfl H1.out.1 Tryz.underlying37 rfl (info47 _ HL.out) H1.out.2
end Go.Proofs.YtgdecjacbkicmaaGreatDoor.Oct

/- Layer 10 (patch): the program's reading: vertices. -/
namespace Go.Proofs.YtgdecjacbkicmaaGreatDoor.Oct
open Go.RowKit
set_option maxRecDepth 100000
set_option linter.unusedSimpArgs false
set_option linter.unusedVariables false

theorem ls32 {x : Hs} (h : x.length = 32) : ∃ c0 c1 c2 c3 c4 c5 c6 c7 c8 c9 c10 c11 c12 c13 c14 c15 c16 c17 c18 c19 c20 c21 c22 c23 c24 c25 c26 c27 c28 c29 c30 c31, x = [c0, c1, c2, c3, c4, c5, c6, c7, c8, c9, c10, c11, c12, c13, c14, c15, c16, c17, c18, c19, c20, c21, c22, c23, c24, c25, c26, c27, c28, c29, c30, c31] := by
  obtain ⟨x0, h0⟩ : ∃ y, x = y := ⟨_, rfl⟩
  subst h0
  obtain ⟨c0, x, rfl⟩ : ∃ c t, x = c :: t := List.exists_cons_of_length_pos (by first | omega | (simp only [List.length_cons] at h; omega))
  obtain ⟨c1, x, rfl⟩ : ∃ c t, x = c :: t := List.exists_cons_of_length_pos (by first | omega | (simp only [List.length_cons] at h; omega))
  obtain ⟨c2, x, rfl⟩ : ∃ c t, x = c :: t := List.exists_cons_of_length_pos (by first | omega | (simp only [List.length_cons] at h; omega))
  obtain ⟨c3, x, rfl⟩ : ∃ c t, x = c :: t := List.exists_cons_of_length_pos (by first | omega | (simp only [List.length_cons] at h; omega))
  obtain ⟨c4, x, rfl⟩ : ∃ c t, x = c :: t := List.exists_cons_of_length_pos (by first | omega | (simp only [List.length_cons] at h; omega))
  obtain ⟨c5, x, rfl⟩ : ∃ c t, x = c :: t := List.exists_cons_of_length_pos (by first | omega | (simp only [List.length_cons] at h; omega))
  obtain ⟨c6, x, rfl⟩ : ∃ c t, x = c :: t := List.exists_cons_of_length_pos (by first | omega | (simp only [List.length_cons] at h; omega))
  obtain ⟨c7, x, rfl⟩ : ∃ c t, x = c :: t := List.exists_cons_of_length_pos (by first | omega | (simp only [List.length_cons] at h; omega))
  obtain ⟨c8, x, rfl⟩ : ∃ c t, x = c :: t := List.exists_cons_of_length_pos (by first | omega | (simp only [List.length_cons] at h; omega))
  obtain ⟨c9, x, rfl⟩ : ∃ c t, x = c :: t := List.exists_cons_of_length_pos (by first | omega | (simp only [List.length_cons] at h; omega))
  obtain ⟨c10, x, rfl⟩ : ∃ c t, x = c :: t := List.exists_cons_of_length_pos (by first | omega | (simp only [List.length_cons] at h; omega))
  obtain ⟨c11, x, rfl⟩ : ∃ c t, x = c :: t := List.exists_cons_of_length_pos (by first | omega | (simp only [List.length_cons] at h; omega))
  obtain ⟨c12, x, rfl⟩ : ∃ c t, x = c :: t := List.exists_cons_of_length_pos (by first | omega | (simp only [List.length_cons] at h; omega))
  obtain ⟨c13, x, rfl⟩ : ∃ c t, x = c :: t := List.exists_cons_of_length_pos (by first | omega | (simp only [List.length_cons] at h; omega))
  obtain ⟨c14, x, rfl⟩ : ∃ c t, x = c :: t := List.exists_cons_of_length_pos (by first | omega | (simp only [List.length_cons] at h; omega))
  obtain ⟨c15, x, rfl⟩ : ∃ c t, x = c :: t := List.exists_cons_of_length_pos (by first | omega | (simp only [List.length_cons] at h; omega))
  obtain ⟨c16, x, rfl⟩ : ∃ c t, x = c :: t := List.exists_cons_of_length_pos (by first | omega | (simp only [List.length_cons] at h; omega))
  obtain ⟨c17, x, rfl⟩ : ∃ c t, x = c :: t := List.exists_cons_of_length_pos (by first | omega | (simp only [List.length_cons] at h; omega))
  obtain ⟨c18, x, rfl⟩ : ∃ c t, x = c :: t := List.exists_cons_of_length_pos (by first | omega | (simp only [List.length_cons] at h; omega))
  obtain ⟨c19, x, rfl⟩ : ∃ c t, x = c :: t := List.exists_cons_of_length_pos (by first | omega | (simp only [List.length_cons] at h; omega))
  obtain ⟨c20, x, rfl⟩ : ∃ c t, x = c :: t := List.exists_cons_of_length_pos (by first | omega | (simp only [List.length_cons] at h; omega))
  obtain ⟨c21, x, rfl⟩ : ∃ c t, x = c :: t := List.exists_cons_of_length_pos (by first | omega | (simp only [List.length_cons] at h; omega))
  obtain ⟨c22, x, rfl⟩ : ∃ c t, x = c :: t := List.exists_cons_of_length_pos (by first | omega | (simp only [List.length_cons] at h; omega))
  obtain ⟨c23, x, rfl⟩ : ∃ c t, x = c :: t := List.exists_cons_of_length_pos (by first | omega | (simp only [List.length_cons] at h; omega))
  obtain ⟨c24, x, rfl⟩ : ∃ c t, x = c :: t := List.exists_cons_of_length_pos (by first | omega | (simp only [List.length_cons] at h; omega))
  obtain ⟨c25, x, rfl⟩ : ∃ c t, x = c :: t := List.exists_cons_of_length_pos (by first | omega | (simp only [List.length_cons] at h; omega))
  obtain ⟨c26, x, rfl⟩ : ∃ c t, x = c :: t := List.exists_cons_of_length_pos (by first | omega | (simp only [List.length_cons] at h; omega))
  obtain ⟨c27, x, rfl⟩ : ∃ c t, x = c :: t := List.exists_cons_of_length_pos (by first | omega | (simp only [List.length_cons] at h; omega))
  obtain ⟨c28, x, rfl⟩ : ∃ c t, x = c :: t := List.exists_cons_of_length_pos (by first | omega | (simp only [List.length_cons] at h; omega))
  obtain ⟨c29, x, rfl⟩ : ∃ c t, x = c :: t := List.exists_cons_of_length_pos (by first | omega | (simp only [List.length_cons] at h; omega))
  obtain ⟨c30, x, rfl⟩ : ∃ c t, x = c :: t := List.exists_cons_of_length_pos (by first | omega | (simp only [List.length_cons] at h; omega))
  obtain ⟨c31, x, rfl⟩ : ∃ c t, x = c :: t := List.exists_cons_of_length_pos (by first | omega | (simp only [List.length_cons] at h; omega))
  obtain rfl : x = [] := List.eq_nil_of_length_eq_zero (by simp only [List.length_cons] at h; omega)
  exact ⟨c0, c1, c2, c3, c4, c5, c6, c7, c8, c9, c10, c11, c12, c13, c14, c15, c16, c17, c18, c19, c20, c21, c22, c23, c24, c25, c26, c27, c28, c29, c30, c31, rfl⟩
theorem built49v {x : Hs} (h : x.length = 32) (j : Int) : Tryz.prog.built 43 [(0, .agg (U x).toArray), (1, iv j)] = some (Vx.cells ⟨x, j⟩).toArray := by
  obtain ⟨c0, c1, c2, c3, c4, c5, c6, c7, c8, c9, c10, c11, c12, c13, c14, c15, c16, c17, c18, c19, c20, c21, c22, c23, c24, c25, c26, c27, c28, c29, c30, c31, rfl⟩ := ls32 h
  kernel_rfl
theorem yl_builtP {o : Oper} {a : Act} (V : World) (t : TypeId) (parts : Array (Nat × Operand)) (cells : Array Value) (hop : o.op = .build t parts) (hb : Tryz.prog.built t (parts.map fun (i, x) => (i, a.eval x)).toList = some cells) : (execOp a.eval o).run Tryz.prog V = .ok (.value (.agg cells)) V := by
  unfold execOp
  simp only [hop, Sem.run_bind, run_build V t (parts.map fun (i, x) => (i, a.eval x)) cells hb, Result.andThen_ok]
  try rfl
def lineL (D : List Hs) (r : List UInt8) : Option (Vx × List UInt8) := (nN 16 r).bind fun x => if x.1 < D.length then (nN 64 x.2).bind fun y => some (⟨D.getD x.1 [], y.1⟩, y.2) else none
set_option maxRecDepth 100000 in
set_option maxHeartbeats 4000000 in
theorem ln3 {Q : Exit → Act → World → Prop} {x1 x4 x5 x6 x7 x8 x9 x10 x11 x12 x13 x14 x15 x16 x17 x18 x19 x20 x21 x22 x23 : Value} {ds : List Deferred} {A : World} {B g r d2 gd off dn dc i : Nat} {l : List UInt8} {D : List Hs} {x : Hs} {Z : List Value}
    (hPN : ∀ c a' w', a'.defers = ds → c = [{ v := .iface 29 (.int .i64 103), recovered := false }] → Fk [92] B A w' → nN 64 l = none → Q (.panic c) a' w') (HPg : Hid (Pg B A g r l (some ⟨gd, off, none⟩) dn dc D)) (HX : Hid (x.length = 32 ∧ ∀ V, Fk [92, 43] B A V → V.rangeAt gd (off + i * 32) (U x))) (HBk : Hid (Blk A d2 43 Z ∧ Z.length = 33 ∧ B ≤ d2)) (q1 : (i : Int) < (dn : Int)) (q2 : i < dn)
    (hQ : ∀ Vm V1 (j : Nat) (l2 : List UInt8), nN 64 l = some (j, l2) → Blk V1 d2 43 (Vx.cells ⟨x, (j : Int)⟩) → Pg B V1 g r l2 (some ⟨gd, off, none⟩) dn dc D → Fk [92] B A Vm → Vm.grownBy V1 (some d2) → Q .normal { tmps := #[.pointer (some ⟨g, 0, none⟩), x1, .pointer (some ⟨d2, 0, none⟩), iv (i : Int), x4, x5, x6, x7, x8, x9, x10, x11, x12, x13, .pointer (some ⟨g, 0, none⟩), .pointer (some ⟨g, 0, none⟩), .pointer (some ⟨g, 1, none⟩), .slice (some ⟨gd, off, none⟩) dn dc, iv (i : Int), .pointer (some ⟨gd, off + i * 32, none⟩), .agg (U x).toArray, .pointer (some ⟨g, 0, none⟩), iv (j : Int), .agg (Vx.cells ⟨x, (j : Int)⟩).toArray], defers := ds } V1) :
    (Code.region 3 #[{ dst := some 14, op := Op.move (Operand.tmp 0), type := 93, pos := "code.go:165", after := #[], guard := none }, { dst := some 15, op := Op.nilCheck (Operand.tmp 14), type := 0, pos := "code.go:165", after := #[{ on := 0, ground := Ground.data }], guard := none }, { dst := some 16, op := Op.fieldAddr 72 (Operand.tmp 15) 1, type := 0, pos := "code.go:165", after := #[{ on := 1, ground := Ground.data }], guard := none }, { dst := some 17, op := Op.load 22 (Operand.tmp 16), type := 22, pos := "code.go:165", after := #[{ on := 2, ground := Ground.data }], guard := none }, { dst := some 18, op := Op.move (Operand.tmp 3), type := 3, pos := "code.go:165", after := #[], guard := none }, { dst := some 19, op := Op.indexAddr 22 (Operand.tmp 17) (Operand.tmp 18), type := 0, pos := "code.go:165", after := #[{ on := 3, ground := Ground.data }, { on := 4, ground := Ground.data }], guard := none }, { dst := some 20, op := Op.load 37 (Operand.tmp 19), type := 37, pos := "code.go:165", after := #[{ on := 5, ground := Ground.data }], guard := none }, { dst := some 21, op := Op.move (Operand.tmp 0), type := 93, pos := "code.go:165", after := #[], guard := none }, { dst := some 22, op := Op.call { callee := Callee.value (Operand.func 52), args := #[Operand.tmp 21, Operand.const (Value.int IntKind.i64 64)], argTypes := #[93, 3] }, type := 3, pos := "code.go:165", after := #[{ on := 7, ground := Ground.data }], guard := none }, { dst := some 23, op := Op.build 43 #[(0, Operand.tmp 20), (1, Operand.tmp 22)], type := 43, pos := "code.go:165", after := #[{ on := 6, ground := Ground.data }, { on := 8, ground := Ground.data }], guard := none }, { dst := none, op := Op.store 43 (Operand.tmp 2) (Operand.tmp 23), type := 0, pos := "code.go:165", after := #[{ on := 9, ground := Ground.data }, { on := 8, ground := Ground.chain }, { on := 0, ground := Ground.phase }, { on := 1, ground := Ground.phase }, { on := 2, ground := Ground.phase }, { on := 3, ground := Ground.phase }, { on := 4, ground := Ground.phase }, { on := 5, ground := Ground.phase }, { on := 6, ground := Ground.phase }, { on := 7, ground := Ground.phase }, { on := 8, ground := Ground.phase }, { on := 9, ground := Ground.phase }], guard := none }] true).wp Tryz.prog Q { tmps := #[.pointer (some ⟨g, 0, none⟩), x1, .pointer (some ⟨d2, 0, none⟩), iv (i : Int), x4, x5, x6, x7, x8, x9, x10, x11, x12, x13, x14, x15, x16, x17, x18, x19, x20, x21, x22, x23], defers := ds } A := by
  refine Code.wp_mono (Q := fun x a' w' => match x with | .normal => Q .normal a' w' | .panic c => a'.defers = ds ∧ c = [{ v := .iface 29 (.int .i64 103), recovered := false }] ∧ Fk [92] B A w' ∧ nN 64 l = none | _ => False) (by intro x a' w' h; cases x <;> first | exact h | exact hPN _ _ _ h.1 h.2.1 h.2.2.1 h.2.2.2 | exact h.elim) ?_
  refine wp_region_held (S := fun V => Fk [92, 43] B A V) (by kernel_rfl) ?_
  have hS0 : Hid (Fk [92, 43] B A A.drew) := Fk.of_below (below_drew0 A) HPg.out.lt.2.1
  change wpAnyH Tryz.prog .any _ _ (fun V => Fk [92, 43] B A V) 11 (Array.replicate 11 false) _ A.drew
  obtain ⟨V0, hV0⟩ : ∃ V0, A.drew = V0 := ⟨_, rfl⟩
  rw [hV0]
  rw [hV0] at hS0
  have hP0 : Hid (Pg B V0 g r l (some ⟨gd, off, none⟩) dn dc D) := by rw [← hV0]; exact HPg.out.below (below_drew0 A)
  have hB0 : Hid (Blk V0 d2 43 Z) := by rw [← hV0]; exact HBk.out.1.drew
  have hF0 : Hid (Fk [92] B A V0) := by rw [← hV0]; exact Fk.of_below (below_drew0 A) HPg.out.lt.2.1
  clear hV0
  refine wpAnyH_take (i := 0) (oi := { dst := some 14, op := Op.move (Operand.tmp 0), type := 93, pos := "code.go:165", after := #[], guard := none }) (v := .pointer (some ⟨g, 0, none⟩)) rfl (by kernel_rfl) (by kernel_rfl) (by kernel_rfl) (fun _ _ _ h => h) (Or.inl ⟨by rfl, ?y1⟩) hS0.out ?_
  case y1 =>
    intro V hV
    go_simp
  simp only [Act.put, List.setIfInBounds_toArray, List.set_cons_zero, List.set_cons_succ]
  refine wpAnyH_take (i := 1) (oi := { dst := some 15, op := Op.nilCheck (Operand.tmp 14), type := 0, pos := "code.go:165", after := #[{ on := 0, ground := Ground.data }], guard := none }) (v := .pointer (some ⟨g, 0, none⟩)) rfl (by kernel_rfl) (by kernel_rfl) (by kernel_rfl) (fun _ _ _ h => h) (Or.inl ⟨by rfl, ?y2⟩) hS0.out ?_
  case y2 =>
    intro V hV
    go_simp
  simp only [Act.put, List.setIfInBounds_toArray, List.set_cons_zero, List.set_cons_succ]
  refine wpAnyH_take (i := 2) (oi := { dst := some 16, op := Op.fieldAddr 72 (Operand.tmp 15) 1, type := 0, pos := "code.go:165", after := #[{ on := 1, ground := Ground.data }], guard := none }) (v := .pointer (some ⟨g, 1, none⟩)) rfl (by kernel_rfl) (by kernel_rfl) (by kernel_rfl) (fun _ _ _ h => h) (Or.inl ⟨by rfl, ?y3⟩) hS0.out ?_
  case y3 =>
    intro V hV
    go_simp
  simp only [Act.put, List.setIfInBounds_toArray, List.set_cons_zero, List.set_cons_succ]
  refine wpAnyH_take (i := 3) (oi := { dst := some 17, op := Op.load 22 (Operand.tmp 16), type := 22, pos := "code.go:165", after := #[{ on := 2, ground := Ground.data }], guard := none }) (v := .slice (some ⟨gd, off, none⟩) dn dc) rfl (by kernel_rfl) (by kernel_rfl) (by kernel_rfl) (fun _ _ _ h => h) (Or.inl ⟨by rfl, ?y4⟩) hS0.out ?_
  case y4 =>
    intro V hV
    have hc : V.cell? ⟨g, 1, none⟩ = some (.slice (some ⟨gd, off, none⟩) dn dc) := (HPg.out.blk.fk (show Fk [92, 43] B A V from hV) (by decide)).cell rfl
    go_simp
  simp only [Act.put, List.setIfInBounds_toArray, List.set_cons_zero, List.set_cons_succ]
  refine wpAnyH_take (i := 4) (oi := { dst := some 18, op := Op.move (Operand.tmp 3), type := 3, pos := "code.go:165", after := #[], guard := none }) (v := iv (i : Int)) rfl (by kernel_rfl) (by kernel_rfl) (by kernel_rfl) (fun _ _ _ h => h) (Or.inl ⟨by rfl, ?y5⟩) hS0.out ?_
  case y5 =>
    intro V hV
    go_simp
  simp only [Act.put, List.setIfInBounds_toArray, List.set_cons_zero, List.set_cons_succ]
  refine wpAnyH_take (i := 5) (oi := { dst := some 19, op := Op.indexAddr 22 (Operand.tmp 17) (Operand.tmp 18), type := 0, pos := "code.go:165", after := #[{ on := 3, ground := Ground.data }, { on := 4, ground := Ground.data }], guard := none }) (v := .pointer (some ⟨gd, off + i * 32, none⟩)) rfl (by kernel_rfl) (by kernel_rfl) (by kernel_rfl) (fun _ _ _ h => h) (Or.inl ⟨by rfl, ?y6⟩) hS0.out ?_
  case y6 =>
    intro V hV
    have hcmp := q1
    have hcmp2 := q2
    go_simp
  simp only [Act.put, List.setIfInBounds_toArray, List.set_cons_zero, List.set_cons_succ]
  refine wpAnyH_take (i := 6) (oi := { dst := some 20, op := Op.load 37 (Operand.tmp 19), type := 37, pos := "code.go:165", after := #[{ on := 5, ground := Ground.data }], guard := none }) (v := .agg (U x).toArray) rfl (by kernel_rfl) (by kernel_rfl) (by kernel_rfl) (fun _ _ _ h => h) (Or.inl ⟨by rfl, ?y7⟩) hS0.out ?_
  case y7 =>
    intro V hV
    have hr := HX.out.2 V hV
    exact yl_ld V 37 (.tmp 19) rfl gd _ rfl (U x) _ hr Tryz.underlying37 rfl (info47 _ HX.out.1)
  simp only [Act.put, List.setIfInBounds_toArray, List.set_cons_zero, List.set_cons_succ]
  refine wpAnyH_take (i := 7) (oi := { dst := some 21, op := Op.move (Operand.tmp 0), type := 93, pos := "code.go:165", after := #[], guard := none }) (v := .pointer (some ⟨g, 0, none⟩)) rfl (by kernel_rfl) (by kernel_rfl) (by kernel_rfl) (fun _ _ _ h => h) (Or.inl ⟨by rfl, ?y8⟩) hS0.out ?_
  case y8 =>
    intro V hV
    go_simp
  simp only [Act.put, List.setIfInBounds_toArray, List.set_cons_zero, List.set_cons_succ]
  refine wpAnyH_ready (rs := [8]) (by kernel_rfl) (by simp) (AllReadyH.cons (i := 8) (o := { dst := some 22, op := Op.call { callee := Callee.value (Operand.func 52), args := #[Operand.tmp 21, Operand.const (Value.int IntKind.i64 64)], argTypes := #[93, 3] }, type := 3, pos := "code.go:165", after := #[{ on := 7, ground := Ground.data }], guard := none }) rfl ?_ AllReadyH.nil)
  · intro K1 hK1
    rw [if_pos (by rfl)]
    have HC1 := number84 hP0.out 64 (by omega)
    go_wp2_with fail
    refine HC1.mono ?_
    rintro e V1 ⟨hf1, h1⟩
    clear HC1
    rcases h1 with ⟨hn1, he1⟩ | ⟨j, l2, hj1, ⟨rfl, hm1⟩, hp1⟩
    · rw [pan] at he1
      subst he1
      first
      | exact And.intro rfl (And.intro rfl (And.intro (hF0.out.trans hf1) hn1))
      | exact And.intro rfl (And.intro (hF0.out.trans hf1) hn1)
    dsimp only
    have hS1 : Hid (Fk [92, 43] B A V1 ∧ nN 64 l = some (j, l2) ∧ j ≤ 64 ∧ Pg B V1 g r l2 (some ⟨gd, off, none⟩) dn dc D ∧ Blk V1 d2 43 Z ∧ Fk [92] B A V1) := ⟨hS0.out.trans (hf1.more (by simp)), hj1, hm1, hp1, hB0.out.fk hf1 (by decide), hF0.out.trans hf1⟩
    clear hf1 hj1 hm1 hp1
    refine hK1.out _ _ hS1.out.1 ?_
    clear hK1
    intro _
    try simp only [Act.put, List.setIfInBounds_toArray, List.set_cons_zero, List.set_cons_succ]
    refine wpAnyH_take (i := 9) (oi := { dst := some 23, op := Op.build 43 #[(0, Operand.tmp 20), (1, Operand.tmp 22)], type := 43, pos := "code.go:165", after := #[{ on := 6, ground := Ground.data }, { on := 8, ground := Ground.data }], guard := none }) (v := .agg (Vx.cells ⟨x, (j : Int)⟩).toArray) rfl (by kernel_rfl) (by kernel_rfl) (by kernel_rfl) (fun _ _ _ h => h) (Or.inl ⟨by rfl, ?y9⟩) hS1.out.1 ?_
    case y9 =>
      intro V hV
      exact yl_builtP V 43 _ _ rfl (by simp only [List.map_toArray, List.map_cons, List.map_nil]; exact built49v HX.out.1 (j : Int))
    simp only [Act.put, List.setIfInBounds_toArray, List.set_cons_zero, List.set_cons_succ]
    refine wpAnyH_ready (rs := [10]) (by kernel_rfl) (by simp) (AllReadyH.cons (i := 10) (o := { dst := none, op := Op.store 43 (Operand.tmp 2) (Operand.tmp 23), type := 0, pos := "code.go:165", after := #[{ on := 9, ground := Ground.data }, { on := 8, ground := Ground.chain }, { on := 0, ground := Ground.phase }, { on := 1, ground := Ground.phase }, { on := 2, ground := Ground.phase }, { on := 3, ground := Ground.phase }, { on := 4, ground := Ground.phase }, { on := 5, ground := Ground.phase }, { on := 6, ground := Ground.phase }, { on := 7, ground := Ground.phase }, { on := 8, ground := Ground.phase }, { on := 9, ground := Ground.phase }], guard := none }) rfl ?_ AllReadyH.nil)
    · intro K1 hK1
      refine step_store_blk (by rfl) 43 (.tmp 2) (.tmp 23) rfl d2 0 43 Z (Vx.cells ⟨x, (j : Int)⟩) rfl rfl hS1.out.2.2.2.2.1 (by rw [HBk.out.2.1, Vx.len (v := ⟨x, (j : Int)⟩) HX.out.1]; omega) (info49 (v := ⟨x, (j : Int)⟩) HX.out.1) (Vx.one _) ?_
      intro V2 hx2 hg2
      have hS2 : Hid (Fk [92, 43] B A V2 ∧ Blk V2 d2 43 (Vx.cells ⟨x, (j : Int)⟩) ∧ Fk [43] B V1 V2 ∧ V1.grownBy V2 (some d2)) := by
        have hf : Fk [43] B V1 V2 := Fk.of_blk hg2.out hS1.out.2.2.2.2.1 HBk.out.2.2 (by simp)
        exact ⟨(hS1.out.1).trans (hf.more (by simp)), blk_all hx2.out (by rw [HBk.out.2.1, Vx.len (v := ⟨x, (j : Int)⟩) HX.out.1]), hf, hg2.out⟩
      clear hx2 hg2
      refine hK1.out _ _ hS2.out.1 ?_
      clear hK1
      intro _
      try simp only [Act.put, List.setIfInBounds_toArray, List.set_cons_zero, List.set_cons_succ]
      refine wpAnyH_done (by kernel_rfl) ?_ _
      exact hQ V1 V2 j l2 hS1.out.2.1 hS2.out.2.1 (hS1.out.2.2.2.1.fk hS2.out.2.2.1 (by decide) (by decide) (by decide) (by decide)) hS1.out.2.2.2.2.2 hS2.out.2.2.2
end Go.Proofs.YtgdecjacbkicmaaGreatDoor.Oct

/- Layer 10 (patch): the program's reading: vertices, whole. -/
namespace Go.Proofs.YtgdecjacbkicmaaGreatDoor.Oct
open Go.RowKit
set_option maxRecDepth 100000
set_option linter.unusedSimpArgs false
set_option linter.unusedVariables false

set_option maxHeartbeats 4000000 in
theorem line125 {w : World} {B g r : Nat} {l : List UInt8} {da : Option Addr} {dn dc : Nat} {D : List Hs} (h : Pg B w g r l da dn dc D) : Calls Tryz.prog 92 #[.pointer (some ⟨g, 0, none⟩)] w fun e w' => RP B g r da dn dc D w (lineL D l) (fun v e _ => e = .returned (.agg v.cells.toArray) ∧ v.ok) e w' := by
  obtain ⟨Z, hZ, HZ⟩ := zero49
  obtain ⟨d2, hd2⟩ : ∃ d, w.heap.size = d := ⟨_, rfl⟩
  obtain ⟨W, hW⟩ : ∃ W, w.alloc (.cells Z.toArray 43) = W := ⟨_, rfl⟩
  have b1 : Below w.heap.size w W := by rw [← hW]; exact below_al _ _
  have k2 : Blk W d2 43 Z := by rw [← hW, ← hd2]; exact Blk.new w _ _
  have HZL : Hid (Z.length = 33) := by show _ = _; rw [HZ.out]; exact Vx.len vTop_ok
  have HP : Hid (Pg B w g r l da dn dc D ∧ w.heap.size = d2 ∧ B ≤ w.heap.size) := ⟨h, hd2, h.lt.2.1⟩
  have H0 : Hid (Fk [92] B w W ∧ Pg B W g r l da dn dc D ∧ Blk W d2 43 Z) := ⟨Fk.of_below b1 h.lt.2.1, h.below b1, k2⟩
  clear h b1 k2 HZ
  go_enter Tryz.func92, Tryz.ntmps92
  go_wp2_with fail
  refine (number84 H0.out.2.1 16 (by omega)).mono ?_
  rintro e W1 ⟨hf, (⟨hn, hp⟩ | ⟨i, l1, hi, ⟨rfl, hi2⟩, hp1⟩)⟩
  · have HN : Hid (lineL D l = none ∧ Fk [92] B w W1) := ⟨by unfold lineL; rw [hn]; rfl, H0.out.1.trans hf⟩
    clear hf hn
    rw [pan] at hp
    subst hp
    go_wp2
    exact ⟨rfl, HN.out.2, .inl ⟨HN.out.1, rfl⟩⟩
  have H1 : Hid (Fk [92] B w W1 ∧ nN 16 l = some (i, l1) ∧ Pg B W1 g r l1 da dn dc D ∧ Blk W1 d2 43 Z) := ⟨H0.out.1.trans hf, hi, hp1, H0.out.2.2.fk hf (by decide)⟩
  have c1 := hp1.c1
  have c0 := hp1.c0
  have qd : (dn : Int) ≤ 16 := by have := hp1.few; omega
  clear hf hi hi2 hp1 H0 hW
  by_cases hd : i < dn
  · have q1 : (i : Int) < (dn : Int) := by omega
    have g1 : decide ((i : Int) < (dn : Int)) = true := decide_eq_true q1
    obtain ⟨x, hx⟩ : ∃ x, D[i]? = some x := ⟨_, List.getElem?_eq_getElem (by rw [HP.out.1.dl]; exact hd)⟩
    obtain ⟨gd, off, rfl, hgd, hrg⟩ := H1.out.2.2.1.hs.2.2 (by omega)
    have hx32 := HP.out.1.d32 x (List.mem_of_getElem? hx)
    have ht47 : ∃ cur, W1.heap[gd]? = some (.cells cur 37 (0, 0)) := by
      rcases H1.out.2.2.1.dp.2 with ⟨h0, h1⟩ | ⟨g', cap, cur, e, _, hb, _⟩
      · cases h0
      · cases e; exact ⟨cur, hb⟩
    have HX : Hid (x.length = 32 ∧ ∀ V, Fk [92, 43] B W1 V → V.rangeAt gd (off + i * 32) (U x)) := ⟨hx32, fun V hV => by
      obtain ⟨cur, hc⟩ := ht47
      exact rangeAt_same (hrg i x hx) (hV.typ gd _ _ _ hc (by decide))⟩
    have HBk : Hid (Blk W1 d2 43 Z ∧ Z.length = 33 ∧ B ≤ d2) := ⟨H1.out.2.2.2, HZL.out, by have := HP.out; omega⟩
    have HI : Hid (i < dn ∧ D.getD i [] = x) := ⟨hd, by rw [List.getD_eq_getElem?_getD, hx]; rfl⟩
    have HPg : Hid (Pg B W1 g r l1 (some ⟨gd, off, none⟩) dn dc D) := H1.out.2.2.1
    clear hd hx hgd hrg hx32 ht47
    go_wp2_with fail
    refine (need_yes _).mono ?_
    rintro e W2 ⟨rfl, hw⟩
    subst hw
    go_wp2_with fail
    refine ln3 ?_ HPg HX HBk q1 HI.out.1 ?_
    · rintro c a' V hdf rfl hfk hn
      refine ⟨hdf, H1.out.1.trans hfk, .inl ⟨?_, rfl⟩⟩
      unfold lineL
      rw [H1.out.2.1]
      simp only [Option.bind_some]
      rw [if_pos (by rw [HP.out.1.dl]; exact HI.out.1), hn]
      rfl
    · intro Vm V j l2 hj hbk hpg hfk hgr
      have HF : Hid (Blk V d2 43 (Vx.cells ⟨x, (j : Int)⟩) ∧ RP B g r (some ⟨gd, off, none⟩) dn dc D w (lineL D l) (fun v e _ => e = .returned (.agg v.cells.toArray) ∧ v.ok) (.returned (.agg (Vx.cells ⟨x, (j : Int)⟩).toArray)) V) := by
        refine ⟨hbk, (H1.out.1.trans hfk).far hgr (by have := HP.out; omega) HP.out.2.2, .inr ⟨⟨x, (j : Int)⟩, l2, ?_, ⟨rfl, HX.out.1⟩, hpg⟩⟩
        unfold lineL
        rw [H1.out.2.1]
        simp only [Option.bind_some]
        rw [if_pos (by rw [HP.out.1.dl]; exact HI.out.1), hj, HI.out.2]
        rfl
      clear hj hbk hpg hfk hgr
      go_wp2
      exact ret_c rfl rfl rfl HF.out.1 Tryz.underlying43 rfl (info49 (v := ⟨x, (j : Int)⟩) HX.out.1) HF.out.2
  · have q1 : (dn : Int) ≤ (i : Int) := by omega
    have g1 : decide ((i : Int) < (dn : Int)) = false := decide_eq_false (by omega)
    have HG : Hid (decide (i < dn) = false) := decide_eq_false hd
    have HN : Hid (lineL D l = none) := by
      show _ = _
      unfold lineL
      rw [H1.out.2.1]
      simp only [Option.bind_some]
      rw [if_neg (by rw [HP.out.1.dl]; exact hd)]
    clear hd
    go_wp2_with fail
    rw [HG.out]
    refine (need_no _).mono ?_
    rintro e w2 ⟨hp, hw⟩
    subst hw
    rw [pan] at hp
    subst hp
    go_wp2
    exact ⟨rfl, H1.out.1, .inl ⟨HN.out, rfl⟩⟩
set_option maxHeartbeats 4000000 in
theorem vertex106 {w : World} {B g r : Nat} {l : List UInt8} {da : Option Addr} {dn dc : Nat} {D : List Hs} (h : Pg B w g r l da dn dc D) : Calls Tryz.prog 81 #[.pointer (some ⟨g, 0, none⟩)] w fun e w' => RP B g r da dn dc D w (vV D l) (fun v e _ => e = .returned (.agg v.cells.toArray) ∧ v.ok) e w' := by
  obtain ⟨Z, hZ, HZ⟩ := zero49
  obtain ⟨d2, hd2⟩ : ∃ d, w.heap.size = d := ⟨_, rfl⟩
  obtain ⟨W, hW⟩ : ∃ W, w.alloc (.cells Z.toArray 43) = W := ⟨_, rfl⟩
  have b1 : Below w.heap.size w W := by rw [← hW]; exact below_al _ _
  have k2 : Blk W d2 43 Z := by rw [← hW, ← hd2]; exact Blk.new w _ _
  have HZL : Hid (Z.length = 33) := by show _ = _; rw [HZ.out]; exact Vx.len vTop_ok
  have HP : Hid (Pg B w g r l da dn dc D ∧ w.heap.size = d2 ∧ B ≤ w.heap.size) := ⟨h, hd2, h.lt.2.1⟩
  have H0 : Hid (Fk [92] B w W ∧ Pg B W g r l da dn dc D ∧ Blk W d2 43 Z) := ⟨Fk.of_below b1 h.lt.2.1, h.below b1, k2⟩
  clear h b1 k2 HZ
  go_enter Tryz.func81, Tryz.ntmps81
  go_wp2_with fail
  refine (mark82 H0.out.2.1).mono ?_
  rintro e W1 ⟨hf, (⟨hn, hp⟩ | ⟨c, l1, hc, rfl, hp1⟩)⟩
  · have HN : Hid (vV D l = none ∧ Fk [92] B w W1) := by
      refine ⟨?_, H0.out.1.trans hf⟩
      cases l with
      | nil => rfl
      | cons x y => cases hn
    clear hf hn
    rw [pan] at hp
    subst hp
    go_wp2
    exact ⟨rfl, HN.out.2, .inl ⟨HN.out.1, rfl⟩⟩
  have hl : l = c :: l1 := by
    cases l with
    | nil => cases hc
    | cons x y => cases hc; rfl
  have H1 : Hid (Fk [92] B w W1 ∧ l = c :: l1 ∧ Pg B W1 g r l1 da dn dc D ∧ Blk W1 d2 43 Z) := ⟨H0.out.1.trans hf, hl, hp1, H0.out.2.2.fk hf (by decide)⟩
  clear hf hc hl hp1 H0 hW
  by_cases h0 : c = 0
  · subst h0
    have HV : Hid (vV D l = some (vTop, l1)) := by show _ = _; rw [H1.out.2.1]; rfl
    have e0 : (((0 : UInt8).toNat : Nat) : Int) = 0 := rfl
    rw [e0]
    go_wp2_with fail
    refine (top_is W1 _ rfl).mono ?_
    rintro e W2 ⟨rfl, hb2⟩
    have H2 : Hid (Fk [92] B w W2 ∧ Pg B W2 g r l1 da dn dc D ∧ Blk W2 d2 43 Z) := ⟨H1.out.1.then hb2 H1.out.2.2.1.lt.2.1, H1.out.2.2.1.below hb2, H1.out.2.2.2.below hb2 H1.out.2.2.2.lt⟩
    clear hb2
    go_wp2_with (with_reducible change wpList _ _ _ ({ dst := none, op := Op.store 43 _ _, type := _, pos := _, after := _, guard := _ } :: _) _ _; refine Hid.out ?_)
    show wpList _ _ _ _ _ _
    refine wpList_store_blk rfl 43 (.tmp 2) (.tmp 14) rfl d2 0 43 Z vTop.cells rfl rfl H2.out.2.2 (by rw [HZL.out, Vx.len vTop_ok]; omega) (info49 vTop_ok) (Vx.one _) ?_
    intro W3 hx hgs
    have HF : Hid (Blk W3 d2 43 vTop.cells ∧ RP B g r da dn dc D w (vV D l) (fun v e _ => e = .returned (.agg v.cells.toArray) ∧ v.ok) (.returned (.agg vTop.cells.toArray)) W3) := by
      have hfs : Fk [43] B W2 W3 := Fk.of_blk hgs.out H2.out.2.2 (by have := HP.out; omega) (by simp)
      exact ⟨blk_all hx.out (by rw [HZL.out, Vx.len vTop_ok]), H2.out.1.far hgs.out (by have := HP.out; omega) HP.out.2.2, .inr ⟨vTop, l1, HV.out, ⟨rfl, vTop_ok⟩, H2.out.2.1.fk hfs (by decide) (by decide) (by decide) (by decide)⟩⟩
    clear hx hgs
    go_wp2
    exact ret_c rfl rfl rfl HF.out.1 Tryz.underlying43 rfl (info49 vTop_ok) HF.out.2
  by_cases h1 : c = 1
  · subst h1
    have HV : Hid (vV D l = some (vBot, l1)) := by show _ = _; rw [H1.out.2.1]; rfl
    have e0 : (((1 : UInt8).toNat : Nat) : Int) = 1 := rfl
    rw [e0]
    clear h0
    go_wp2_with fail
    refine (bot_is W1 _ rfl).mono ?_
    rintro e W2 ⟨rfl, hb2⟩
    have H2 : Hid (Fk [92] B w W2 ∧ Pg B W2 g r l1 da dn dc D ∧ Blk W2 d2 43 Z) := ⟨H1.out.1.then hb2 H1.out.2.2.1.lt.2.1, H1.out.2.2.1.below hb2, H1.out.2.2.2.below hb2 H1.out.2.2.2.lt⟩
    clear hb2
    go_wp2_with (with_reducible change wpList _ _ _ ({ dst := none, op := Op.store 43 _ _, type := _, pos := _, after := _, guard := _ } :: _) _ _; refine Hid.out ?_)
    show wpList _ _ _ _ _ _
    refine wpList_store_blk rfl 43 (.tmp 2) (.tmp 17) rfl d2 0 43 Z vBot.cells rfl rfl H2.out.2.2 (by rw [HZL.out, Vx.len vBot_ok]; omega) (info49 vBot_ok) (Vx.one _) ?_
    intro W3 hx hgs
    have HF : Hid (Blk W3 d2 43 vBot.cells ∧ RP B g r da dn dc D w (vV D l) (fun v e _ => e = .returned (.agg v.cells.toArray) ∧ v.ok) (.returned (.agg vBot.cells.toArray)) W3) := by
      have hfs : Fk [43] B W2 W3 := Fk.of_blk hgs.out H2.out.2.2 (by have := HP.out; omega) (by simp)
      exact ⟨blk_all hx.out (by rw [HZL.out, Vx.len vBot_ok]), H2.out.1.far hgs.out (by have := HP.out; omega) HP.out.2.2, .inr ⟨vBot, l1, HV.out, ⟨rfl, vBot_ok⟩, H2.out.2.1.fk hfs (by decide) (by decide) (by decide) (by decide)⟩⟩
    clear hx hgs
    go_wp2
    exact ret_c rfl rfl rfl HF.out.1 Tryz.underlying43 rfl (info49 vBot_ok) HF.out.2
  by_cases h2 : c = 2
  · subst h2
    have HV : Hid (vV D l = lineL D l1) := by show _ = _; rw [H1.out.2.1]; rfl
    have e0 : (((2 : UInt8).toNat : Nat) : Int) = 2 := rfl
    rw [e0]
    clear h0 h1
    go_wp2_with fail
    refine (need_yes _).mono ?_
    rintro e W2 ⟨rfl, hw⟩
    subst hw
    go_wp2_with fail
    refine (line125 H1.out.2.2.1).mono ?_
    rintro e W2 ⟨hf, (⟨hn, hp⟩ | ⟨v, l2, hv, ⟨rfl, hvo⟩, hp1⟩)⟩
    · have HN : Hid (vV D l = none ∧ Fk [92] B w W2) := ⟨by rw [HV.out, hn], H1.out.1.trans hf⟩
      clear hf hn
      rw [pan] at hp
      subst hp
      go_wp2
      exact ⟨rfl, HN.out.2, .inl ⟨HN.out.1, rfl⟩⟩
    have H2 : Hid (Fk [92] B w W2 ∧ Pg B W2 g r l2 da dn dc D ∧ Blk W2 d2 43 Z) := ⟨H1.out.1.trans hf, hp1, H1.out.2.2.2.fk hf (by decide)⟩
    have HW : Hid (vV D l = some (v, l2) ∧ v.ok) := ⟨by rw [HV.out, hv], hvo⟩
    clear hf hv hvo hp1
    go_wp2_with (with_reducible change wpList _ _ _ ({ dst := none, op := Op.store 43 _ _, type := _, pos := _, after := _, guard := _ } :: _) _ _; refine Hid.out ?_)
    show wpList _ _ _ _ _ _
    refine wpList_store_blk rfl 43 (.tmp 2) (.tmp 11) rfl d2 0 43 Z v.cells rfl rfl H2.out.2.2 (by rw [HZL.out, Vx.len HW.out.2]; omega) (info49 HW.out.2) (Vx.one _) ?_
    intro W3 hx hgs
    have HF : Hid (Blk W3 d2 43 v.cells ∧ RP B g r da dn dc D w (vV D l) (fun v e _ => e = .returned (.agg v.cells.toArray) ∧ v.ok) (.returned (.agg v.cells.toArray)) W3) := by
      have hfs : Fk [43] B W2 W3 := Fk.of_blk hgs.out H2.out.2.2 (by have := HP.out; omega) (by simp)
      exact ⟨blk_all hx.out (by rw [HZL.out, Vx.len HW.out.2]), H2.out.1.far hgs.out (by have := HP.out; omega) HP.out.2.2, .inr ⟨v, l2, HW.out.1, ⟨rfl, HW.out.2⟩, H2.out.2.1.fk hfs (by decide) (by decide) (by decide) (by decide)⟩⟩
    clear hx hgs
    go_wp2
    exact ret_c rfl rfl rfl HF.out.1 Tryz.underlying43 rfl (info49 HW.out.2) HF.out.2
  have HV : Hid (vV D l = none) := by show _ = _; rw [H1.out.2.1]; unfold vV; simp only; rw [if_neg h0, if_neg h1, if_neg h2]
  obtain ⟨m, hm⟩ : ∃ m, c.toNat = m := ⟨_, rfl⟩
  have n0 : ¬ m = 0 := fun e => h0 (UInt8.toNat_inj.1 (by rw [hm, e]; rfl))
  have n1 : ¬ m = 1 := fun e => h1 (UInt8.toNat_inj.1 (by rw [hm, e]; rfl))
  have n2 : ¬ m = 2 := fun e => h2 (UInt8.toNat_inj.1 (by rw [hm, e]; rfl))
  have f0 : ((m : Int) == 0) = false := by rw [beq_eq_false_iff_ne]; omega
  have f1 : ((m : Int) == 1) = false := by rw [beq_eq_false_iff_ne]; omega
  have f2 : ((m : Int) == 2) = false := by rw [beq_eq_false_iff_ne]; omega
  rw [hm]
  clear h0 h1 h2 n0 n1 n2 hm
  go_wp2_with fail
  refine (need_no _).mono ?_
  rintro e w2 ⟨hp, hw⟩
  subst hw
  rw [pan] at hp
  subst hp
  go_wp2
  exact ⟨rfl, H1.out.1, .inl ⟨HV.out, rfl⟩⟩
end Go.Proofs.YtgdecjacbkicmaaGreatDoor.Oct
