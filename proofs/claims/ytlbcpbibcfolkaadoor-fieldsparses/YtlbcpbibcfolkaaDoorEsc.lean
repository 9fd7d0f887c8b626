/-
  Layer 22 (fields): escaped.
-/
import Derived.Test.YtlbcpbibcfolkaaDoorDbh
namespace Go.Proofs.YtlbcpbibcfolkaaDoor.Oct
open Go.RowKit
set_option linter.unusedSimpArgs false
set_option linter.unusedVariables false

/-- one byte that was escaped, and how many bytes it takes; or what is wrong -/
def hx (a b : UInt8) : UInt8 := UInt8.ofNat ((dg a).toNat * 16 + (dg b).toNat)
def oneE : List UInt8 → Int ⊕ (UInt8 × Nat)
  | [] => .inl 0
  | c :: t => if c = 37 then (match t with | a :: b :: _ => if 0 ≤ dg a ∧ 0 ≤ dg b then .inr (hx a b, 3) else .inl 220 | _ => .inl 220)
    else if c = 43 then .inr (32, 1) else if plainI (c.toNat : Int) = true then .inr (c, 1) else .inl 221
theorem Rd.set {w : World} {g p : Nat} {s : BA} (h : Rd w g s p) {q : Nat} (hq : q ≤ s.size) : Rd (w.setCell ⟨g, 1, none⟩ (iv (q : Int))) g s q := ⟨h.1.set 1 _, h.2.1, hq⟩
theorem gr_of {w w' : World} {r : Option Nat} (h : Below w.heap.size w w') : w.grownBy w' r := ⟨h.os, h.tape, h.output, h.size, fun k hk _ => h.block k hk⟩
theorem _root_.Go.World.grownBy.trans {w w1 w2 : World} {row : Option Nat} (h : w.grownBy w1 row) (k : w1.grownBy w2 row) : w.grownBy w2 row := grown_tr h k
theorem shl4 : ∀ x : Fin 16, ∀ y : Fin 16, bits BinOp.or IntKind.u8 ((x.val : Int) * 16) (y.val : Int) = ((x.val * 16 + y.val : Nat) : Int) := by decide +kernel
set_option maxRecDepth 100000 in
theorem esc_pct {w : World} {g p : Nat} {s : BA} (h : Rd w g s p) {a b : UInt8} (h0 : s.data.toList[p]? = some 37) (h1 : s.data.toList[p + 1]? = some a) (h2 : s.data.toList[p + 2]? = some b) (ha : 0 ≤ dg a) (hb : 0 ≤ dg b) : Calls Tryd.prog 41 #[.pointer (some ⟨g, 0, none⟩)] w fun e w' => e = .returned (bv ((hx a b).toNat : Int)) ∧ Rd w' g s (p + 3) ∧ w.grownBy w' (some g) := by
  have HR : Hid (Rd w g s p) := h
  have HC : Hid (s.data.toList[p]? = some 37 ∧ s.data.toList[p + 1]? = some a ∧ s.data.toList[p + 2]? = some b ∧ 0 ≤ dg a ∧ 0 ≤ dg b) := ⟨h0, h1, h2, ha, hb⟩
  have hl := (List.getElem?_eq_some_iff.1 h2).1
  have hl2 : s.data.toList.length = s.size := rfl
  have hz := h.2.1
  have HP : Hid (p + 3 ≤ s.size ∧ s.size ≤ 140737488355328) := ⟨by omega, hz⟩
  have qp : (p : Int) ≤ 140737488355328 := by omega
  obtain ⟨x, hx_⟩ : ∃ x : Fin 16, dg a = (x.val : Int) := ⟨⟨(dg a).toNat, by have := (dg_bd a).2; omega⟩, by show _ = (((dg a).toNat : Nat) : Int); omega⟩
  obtain ⟨y, hy_⟩ : ∃ y : Fin 16, dg b = (y.val : Int) := ⟨⟨(dg b).toNat, by have := (dg_bd b).2; omega⟩, by show _ = (((dg b).toNat : Nat) : Int); omega⟩
  have HX : Hid (dg a = (x.val : Int) ∧ dg b = (y.val : Int) ∧ ((hx a b).toNat : Int) = ((x.val * 16 + y.val : Nat) : Int)) := ⟨hx_, hy_, by
    unfold hx
    rw [hx_, hy_]
    have := x.isLt
    have := y.isLt
    simp only [Int.toNat_natCast]
    rw [UInt8.toNat_ofNat', Nat.mod_eq_of_lt (by omega)]⟩
  have q4 := shl4 x y
  clear h h0 h1 h2 ha hb hl hl2 hz hx_ hy_
  go_enter Tryd.func41, Tryd.ntmps41
  go_wp2_with fail
  refine es1 (b := 37) HR.out.1.lt HR.out.c0 HR.out.c1 HC.out.1 ?_
  intro V hV
  have HV : Hid (Below w.heap.size w V) := hV
  clear hV
  go_wp2_with fail
  refine (behind_ok (f := 1) (HR.out.below HV.out) (by omega) HC.out.2.1 HC.out.2.2.2.1).mono ?_
  rintro e W1 ⟨rfl, hb1⟩
  have H1 : Hid (Below w.heap.size w W1) := below_tr HV.out hb1
  clear hb1
  rw [HX.out.1]
  go_wp2_with fail
  refine (behind_ok (f := 2) (HR.out.below H1.out) (by omega) HC.out.2.2.1 HC.out.2.2.2.2).mono ?_
  rintro e W2 ⟨rfl, hb2⟩
  have H2 : Hid (Below w.heap.size w W2) := below_tr H1.out hb2
  clear hb2
  rw [HX.out.2.1]
  have c1 := (HR.out.below H2.out).c1
  have f1 := (HR.out.below H2.out).1.free 1
  have lt := (HR.out.below H2.out).1.lt
  go_wp2
  go_ret
  refine ⟨?_, (HR.out.below H2.out).set HP.out.1, (gr_of H2.out).trans (grown_setCell _ _ _ _)⟩
  rw [HX.out.2.2, Int.natCast_add, Int.natCast_mul]
  rfl
#print axioms esc_pct
set_option maxRecDepth 100000 in
theorem esc_plus {w : World} {g p : Nat} {s : BA} (h : Rd w g s p) (h0 : s.data.toList[p]? = some 43) : Calls Tryd.prog 41 #[.pointer (some ⟨g, 0, none⟩)] w fun e w' => e = .returned (bv (32)) ∧ Rd w' g s (p + 1) ∧ w.grownBy w' (some g) := by
  have HR : Hid (Rd w g s p) := h
  have HC : Hid (s.data.toList[p]? = some 43) := h0
  have hl := (List.getElem?_eq_some_iff.1 h0).1
  have hl2 : s.data.toList.length = s.size := rfl
  have hz := h.2.1
  have HP : Hid (p + 1 ≤ s.size ∧ s.size ≤ 140737488355328) := ⟨by omega, hz⟩
  have qp : (p : Int) ≤ 140737488355328 := by omega
  clear h h0 hl hl2 hz
  go_enter Tryd.func41, Tryd.ntmps41
  go_wp2_with fail
  refine es1 (b := 43) HR.out.1.lt HR.out.c0 HR.out.c1 HC.out ?_
  intro V hV
  have HV : Hid (Below w.heap.size w V) := hV
  clear hV
  have c1 := (HR.out.below HV.out).c1
  have f1 := (HR.out.below HV.out).1.free 1
  have lt := (HR.out.below HV.out).1.lt
  go_wp2
  go_ret
  exact ⟨rfl, (HR.out.below HV.out).set HP.out.1, (gr_of HV.out).trans (grown_setCell _ _ _ _)⟩
#print axioms esc_plus
set_option maxRecDepth 100000 in
theorem esc_plain {w : World} {g p : Nat} {s : BA} (h : Rd w g s p) {c : UInt8} (h0 : s.data.toList[p]? = some c) (h1 : c ≠ 37) (h2 : c ≠ 43) (hp : plainI (c.toNat : Int) = true) : Calls Tryd.prog 41 #[.pointer (some ⟨g, 0, none⟩)] w fun e w' => e = .returned (bv (c.toNat : Int)) ∧ Rd w' g s (p + 1) ∧ w.grownBy w' (some g) := by
  have HR : Hid (Rd w g s p) := h
  have HC : Hid (s.data.toList[p]? = some c) := h0
  have hl := (List.getElem?_eq_some_iff.1 h0).1
  have hl2 : s.data.toList.length = s.size := rfl
  have hz := h.2.1
  have HP : Hid (p + 1 ≤ s.size ∧ s.size ≤ 140737488355328) := ⟨by omega, hz⟩
  have qp : (p : Int) ≤ 140737488355328 := by omega
  obtain ⟨x, hxc⟩ : ∃ x : Int, (c.toNat : Int) = x := ⟨_, rfl⟩
  have n1 : (x == 37) = false := by rw [beq_eq_false_iff_ne, ← hxc]; exact fun h => h1 (UInt8.toNat_inj.1 (by show c.toNat = 37; omega))
  have n2 : (x == 43) = false := by rw [beq_eq_false_iff_ne, ← hxc]; exact fun h => h2 (UInt8.toNat_inj.1 (by show c.toNat = 43; omega))
  rw [hxc] at hp
  have HPL : Hid (plainI x = true) := hp
  rw [hxc]
  clear h1 h2 hp
  clear h h0 hl hl2 hz
  go_enter Tryd.func41, Tryd.ntmps41
  go_wp2_with fail
  refine es1 (b := c) HR.out.1.lt HR.out.c0 HR.out.c1 HC.out ?_
  intro V hV
  have HV : Hid (Below w.heap.size w V) := hV
  clear hV
  rw [hxc]
  go_wp2_with fail
  refine (plain_is x V true HPL.out).mono ?_
  rintro e W ⟨rfl, rfl⟩
  have c1 := (HR.out.below HV.out).c1
  have f1 := (HR.out.below HV.out).1.free 1
  have lt := (HR.out.below HV.out).1.lt
  go_wp2
  go_ret
  exact ⟨rfl, (HR.out.below HV.out).set HP.out.1, (gr_of HV.out).trans (grown_setCell _ _ _ _)⟩
#print axioms esc_plain
set_option maxRecDepth 100000 in
theorem esc_byte {w : World} {g p : Nat} {s : BA} (h : Rd w g s p) {c : UInt8} (h0 : s.data.toList[p]? = some c) (h1 : c ≠ 37) (h2 : c ≠ 43) (hp : plainI (c.toNat : Int) = false) : Calls Tryd.prog 41 #[.pointer (some ⟨g, 0, none⟩)] w fun e w' => e = gvP p 221 ∧ Below w.heap.size w w' := by
  have HR : Hid (Rd w g s p) := h
  have HC : Hid (s.data.toList[p]? = some c) := h0
  obtain ⟨x, hxc⟩ : ∃ x : Int, (c.toNat : Int) = x := ⟨_, rfl⟩
  have n1 : (x == 37) = false := by rw [beq_eq_false_iff_ne, ← hxc]; exact fun h => h1 (UInt8.toNat_inj.1 (by show c.toNat = 37; omega))
  have n2 : (x == 43) = false := by rw [beq_eq_false_iff_ne, ← hxc]; exact fun h => h2 (UInt8.toNat_inj.1 (by show c.toNat = 43; omega))
  rw [hxc] at hp
  have HPL : Hid (plainI x = false) := hp
  clear h1 h2 hp
  clear h h0
  go_enter Tryd.func41, Tryd.ntmps41
  go_wp2_with fail
  refine es1 (b := c) HR.out.1.lt HR.out.c0 HR.out.c1 HC.out ?_
  intro V hV
  have HV : Hid (Below w.heap.size w V) := hV
  clear hV
  rw [hxc]
  go_wp2_with fail
  refine (plain_is x V false HPL.out).mono ?_
  rintro e W ⟨rfl, rfl⟩
  go_wp2_with fail
  refine (giveUp_is (HR.out.below HV.out) 221).mono ?_
  rintro e W ⟨he, rfl⟩
  rw [gvP] at he
  subst he
  go_wp2
  exact ⟨rfl, rfl, HV.out⟩
#print axioms esc_byte
set_option maxRecDepth 100000 in
theorem esc_p1s {w : World} {g p : Nat} {s : BA} (h : Rd w g s p) (h0 : s.data.toList[p]? = some 37) (h1 : s.size ≤ p + 1) : Calls Tryd.prog 41 #[.pointer (some ⟨g, 0, none⟩)] w fun e w' => e = gvP p 220 ∧ Below w.heap.size w w' := by
  have HR : Hid (Rd w g s p) := h
  have HC : Hid (s.data.toList[p]? = some 37) := h0
  have H1S : Hid (s.size ≤ p + 1) := h1
  clear h1
  clear h h0
  go_enter Tryd.func41, Tryd.ntmps41
  go_wp2_with fail
  refine es1 (b := 37) HR.out.1.lt HR.out.c0 HR.out.c1 HC.out ?_
  intro V hV
  have HV : Hid (Below w.heap.size w V) := hV
  clear hV
  go_wp2_with fail
  refine (behind_short (f := 1) (HR.out.below HV.out) (by omega) H1S.out).mono ?_
  rintro e W1 ⟨he, hb1⟩
  have H1 : Hid (Below w.heap.size w W1) := below_tr HV.out hb1
  clear hb1
  rw [gvP] at he
  subst he
  go_wp2
  exact ⟨rfl, rfl, H1.out⟩
#print axioms esc_p1s
set_option maxRecDepth 100000 in
theorem esc_p1n {w : World} {g p : Nat} {s : BA} (h : Rd w g s p) {a : UInt8} (h0 : s.data.toList[p]? = some 37) (h1 : s.data.toList[p + 1]? = some a) (ha : dg a = -1) : Calls Tryd.prog 41 #[.pointer (some ⟨g, 0, none⟩)] w fun e w' => e = gvP p 220 ∧ Below w.heap.size w w' := by
  have HR : Hid (Rd w g s p) := h
  have HC : Hid (s.data.toList[p]? = some 37) := h0
  have H1S : Hid (s.data.toList[p + 1]? = some a ∧ dg a = -1) := ⟨h1, ha⟩
  clear h1 ha
  clear h h0
  go_enter Tryd.func41, Tryd.ntmps41
  go_wp2_with fail
  refine es1 (b := 37) HR.out.1.lt HR.out.c0 HR.out.c1 HC.out ?_
  intro V hV
  have HV : Hid (Below w.heap.size w V) := hV
  clear hV
  go_wp2_with fail
  refine (behind_no (f := 1) (HR.out.below HV.out) (by omega) H1S.out.1 H1S.out.2).mono ?_
  rintro e W1 ⟨he, hb1⟩
  have H1 : Hid (Below w.heap.size w W1) := below_tr HV.out hb1
  clear hb1
  rw [gvP] at he
  subst he
  go_wp2
  exact ⟨rfl, rfl, H1.out⟩
#print axioms esc_p1n
set_option maxRecDepth 100000 in
theorem esc_p2s {w : World} {g p : Nat} {s : BA} (h : Rd w g s p) {a : UInt8} (h0 : s.data.toList[p]? = some 37) (h1 : s.data.toList[p + 1]? = some a) (ha : 0 ≤ dg a) (h2 : s.size ≤ p + 2) : Calls Tryd.prog 41 #[.pointer (some ⟨g, 0, none⟩)] w fun e w' => e = gvP p 220 ∧ Below w.heap.size w w' := by
  have HR : Hid (Rd w g s p) := h
  have HC : Hid (s.data.toList[p]? = some 37) := h0
  obtain ⟨x, hx_⟩ : ∃ x : Nat, dg a = (x : Int) ∧ x < 16 := ⟨(dg a).toNat, by omega, by have := (dg_bd a).2; omega⟩
  have HX : Hid (dg a = (x : Int)) := hx_.1
  have qx : (x : Int) < 16 := by omega
  have H1S : Hid (s.data.toList[p + 1]? = some a ∧ 0 ≤ dg a) := ⟨h1, ha⟩
  clear h1 ha hx_
  have H2S : Hid (s.size ≤ p + 2) := h2
  clear h2
  clear h h0
  go_enter Tryd.func41, Tryd.ntmps41
  go_wp2_with fail
  refine es1 (b := 37) HR.out.1.lt HR.out.c0 HR.out.c1 HC.out ?_
  intro V hV
  have HV : Hid (Below w.heap.size w V) := hV
  clear hV
  go_wp2_with fail
  refine (behind_ok (f := 1) (HR.out.below HV.out) (by omega) H1S.out.1 H1S.out.2).mono ?_
  rintro e W1 ⟨rfl, hb1⟩
  have H1 : Hid (Below w.heap.size w W1) := below_tr HV.out hb1
  clear hb1
  rw [HX.out]
  go_wp2_with fail
  refine (behind_short (f := 2) (HR.out.below H1.out) (by omega) H2S.out).mono ?_
  rintro e W2 ⟨he, hb2⟩
  have H2 : Hid (Below w.heap.size w W2) := below_tr H1.out hb2
  clear hb2
  rw [gvP] at he
  subst he
  go_wp2
  exact ⟨rfl, rfl, H2.out⟩
#print axioms esc_p2s
set_option maxRecDepth 100000 in
theorem esc_p2n {w : World} {g p : Nat} {s : BA} (h : Rd w g s p) {a b : UInt8} (h0 : s.data.toList[p]? = some 37) (h1 : s.data.toList[p + 1]? = some a) (ha : 0 ≤ dg a) (h2 : s.data.toList[p + 2]? = some b) (hb : dg b = -1) : Calls Tryd.prog 41 #[.pointer (some ⟨g, 0, none⟩)] w fun e w' => e = gvP p 220 ∧ Below w.heap.size w w' := by
  have HR : Hid (Rd w g s p) := h
  have HC : Hid (s.data.toList[p]? = some 37) := h0
  obtain ⟨x, hx_⟩ : ∃ x : Nat, dg a = (x : Int) ∧ x < 16 := ⟨(dg a).toNat, by omega, by have := (dg_bd a).2; omega⟩
  have HX : Hid (dg a = (x : Int)) := hx_.1
  have qx : (x : Int) < 16 := by omega
  have H1S : Hid (s.data.toList[p + 1]? = some a ∧ 0 ≤ dg a) := ⟨h1, ha⟩
  clear h1 ha hx_
  have H2S : Hid (s.data.toList[p + 2]? = some b ∧ dg b = -1) := ⟨h2, hb⟩
  clear h2 hb
  clear h h0
  go_enter Tryd.func41, Tryd.ntmps41
  go_wp2_with fail
  refine es1 (b := 37) HR.out.1.lt HR.out.c0 HR.out.c1 HC.out ?_
  intro V hV
  have HV : Hid (Below w.heap.size w V) := hV
  clear hV
  go_wp2_with fail
  refine (behind_ok (f := 1) (HR.out.below HV.out) (by omega) H1S.out.1 H1S.out.2).mono ?_
  rintro e W1 ⟨rfl, hb1⟩
  have H1 : Hid (Below w.heap.size w W1) := below_tr HV.out hb1
  clear hb1
  rw [HX.out]
  go_wp2_with fail
  refine (behind_no (f := 2) (HR.out.below H1.out) (by omega) H2S.out.1 H2S.out.2).mono ?_
  rintro e W2 ⟨he, hb2⟩
  have H2 : Hid (Below w.heap.size w W2) := below_tr H1.out hb2
  clear hb2
  rw [gvP] at he
  subst he
  go_wp2
  exact ⟨rfl, rfl, H2.out⟩
#print axioms esc_p2n
theorem drop_at {l : List UInt8} {p : Nat} {c : UInt8} {t : List UInt8} (h : l.drop p = c :: t) : l[p]? = some c ∧ l.drop (p + 1) = t := by
  have h1 : (l.drop p)[0]? = some c := by rw [h]; rfl
  rw [List.getElem?_drop, Nat.add_zero] at h1
  refine ⟨h1, ?_⟩
  rw [← List.drop_drop, h]
  rfl
theorem drop_nil {l : List UInt8} {p : Nat} (h : l.drop p = []) : l.length ≤ p := List.drop_eq_nil_iff.1 h
/-- what escaped answers -/
def EsP (w : World) (g : Nat) (s : BA) (p : Nat) (r : Int ⊕ (UInt8 × Nat)) (e : Ending) (w' : World) : Prop :=
  match r with
  | .inl er => e = gvP p er ∧ Below w.heap.size w w'
  | .inr (b, n) => e = .returned (bv (b.toNat : Int)) ∧ Rd w' g s (p + n) ∧ w.grownBy w' (some g) ∧ 1 ≤ n
theorem escaped_is {w : World} {g p : Nat} {s : BA} (h : Rd w g s p) (hp : p < s.size) : Calls Tryd.prog 41 #[.pointer (some ⟨g, 0, none⟩)] w (EsP w g s p (oneE (s.data.toList.drop p))) := by
  have hl2 : s.data.toList.length = s.size := rfl
  cases hd : s.data.toList.drop p with
  | nil => have := drop_nil hd; omega
  | cons c t =>
    obtain ⟨h0, h0'⟩ := drop_at hd
    unfold oneE
    dsimp only
    by_cases c1 : c = 37
    · subst c1
      rw [if_pos rfl]
      cases t with
      | nil => exact esc_p1s h h0 (by have := drop_nil h0'; omega)
      | cons a t =>
        obtain ⟨h1, h1'⟩ := drop_at h0'
        by_cases ha : 0 ≤ dg a
        · cases t with
          | nil => exact esc_p2s h h0 h1 ha (by have := drop_nil h1'; omega)
          | cons b t =>
            obtain ⟨h2, _⟩ := drop_at h1'
            by_cases hb : 0 ≤ dg b
            · show Calls _ _ _ _ (EsP w g s p (if _ then _ else _))
              rw [if_pos ⟨ha, hb⟩]
              exact (esc_pct h h0 h1 h2 ha hb).mono fun e w' hh => ⟨hh.1, hh.2.1, hh.2.2, by omega⟩
            · show Calls _ _ _ _ (EsP w g s p (if _ then _ else _))
              rw [if_neg (fun hh => hb hh.2)]
              exact esc_p2n h h0 h1 ha h2 (dg_no hb)
        · cases t with
          | nil => exact esc_p1n h h0 h1 (dg_no ha)
          | cons b t =>
            show Calls _ _ _ _ (EsP w g s p (if _ then _ else _))
            rw [if_neg (fun hh => ha hh.1)]
            exact esc_p1n h h0 h1 (dg_no ha)
    · rw [if_neg c1]
      by_cases c2 : c = 43
      · subst c2
        rw [if_pos rfl]
        exact (esc_plus h h0).mono fun e w' hh => ⟨hh.1, hh.2.1, hh.2.2, by omega⟩
      · rw [if_neg c2]
        cases hpl : plainI (c.toNat : Int) with
        | true =>
          rw [if_pos rfl]
          exact (esc_plain h h0 c1 c2 hpl).mono fun e w' hh => ⟨hh.1, hh.2.1, hh.2.2, by omega⟩
        | false =>
          rw [if_neg (by simp)]
          exact esc_byte h h0 c1 c2 hpl
#print axioms escaped_is
end Go.Proofs.YtlbcpbibcfolkaaDoor.Oct
