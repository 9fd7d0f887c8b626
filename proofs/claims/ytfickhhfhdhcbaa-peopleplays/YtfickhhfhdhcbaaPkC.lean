/-
  Layer 15 (people): the document's people: PeoplePlays: the drawn regions.
  Layer 15 (people): the document's people: PeoplePlays, the law.
-/
import Derived.Test.YtfickhhfhdhcbaaPkB
/- Layer 15 (people): the document's people: PeoplePlays: the drawn regions. -/
namespace Go.Proofs.Ytfickhhfhdhcbaa.Oct
open Go.RowKit
set_option linter.unusedSimpArgs false
set_option linter.unusedVariables false


section
variable {w : World} {p : Nat} {M : Pm} {R : Rp} {uv ov fv : Value}
def TT (w : World) (l : List Hs) (e : Ending) (w' : World) : Prop := ∃ a n c, e = .returned (.slice a n c) ∧ Hid (StrAt w' a n l ∧ n ≤ 1000 ∧ Below w.heap.size w w')
theorem rm_is (h : RPt w uv ov fv R) (hF : R.F.length ≤ 990) (hr : Rel M R) (hn : Nd M) (x : Hs) : Calls Try.prog 17 #[.agg #[uv, ov, fv], hv x] w (TT w (membersL M x)) := (rmembers_is h hF x).mono (by
  rintro e w' ⟨v, rfl, h1, h2⟩
  rw [hr.members hn] at h1
  have h1' := h1
  obtain ⟨a, c, rfl, _⟩ := h1
  exact ⟨_, _, _, rfl, sv_str h1', by have := memF_len R.F x; rw [hr.members hn] at this; omega, h2⟩)
theorem rt_is (h : RPt w uv ov fv R) (hF : R.F.length ≤ 990) (hr : Rel M R) (hn : Nd M) (x : Hs) : Calls Try.prog 19 #[.agg #[uv, ov, fv], hv x] w (TT w (teamsL M x)) := (rteams_is h hF x).mono (by
  rintro e w' ⟨v, rfl, h1, h2⟩
  rw [hr.teams hn] at h1
  have h1' := h1
  obtain ⟨a, c, rfl, _⟩ := h1
  exact ⟨_, _, _, rfl, sv_str h1', by have := teaF_len R.F x; rw [hr.teams hn] at this; omega, h2⟩)
theorem rs_is (h : RPt w uv ov fv R) (hF : R.F.length ≤ 990) (hr : Rel M R) (hn : Nd M) (x u : Hs) : Calls Try.prog 22 #[.agg #[uv, ov, fv], hv x, hv u] w fun e w' => ∃ a n c, e = .returned (.agg #[hv u, .slice a n c, iv (subR M x u)]) ∧ Hid (StrAt w' a n (subT M x u) ∧ n ≤ 990 ∧ Below w.heap.size w w') := (rsub_is h hF x u).mono (by
  rintro e w' ⟨a, n, c, rfl, h1⟩
  rw [hr.sub hn] at h1
  rw [hr.role hn]
  exact ⟨a, n, c, rfl, h1⟩)
end
set_option maxRecDepth 100000 in
set_option maxHeartbeats 4000000 in
theorem pl10 {Q : Exit → Act → World → Prop} {x0 x1 x2 x5 x9 x10 x11 x12 x13 x14 x15 x16 x17 x18 x19 x20 x21 x22 x23 x24 x25 x26 x27 x28 x29 x30 x31 x32 x33 x34 x35 x36 x37 x38 x39 x40 x41 x42 x43 x44 x45 x46 x47 x48 x49 x50 x51 x52 x53 x54 x55 x56 x57 x58 x59 x60 x61 x62 x63 x64 x65 x66 x67 x68 x69 x70 x71 x72 x73 x74 x75 x76 x77 x78 x79 x80 x81 x82 x83 x84 x85 x86 x87 x88 x89 x90 x91 x92 x93 x94 x95 x96 x97 x98 x99 x100 x101 x102 x103 x104 x105 x106 x107 x108 x109 x110 x111 x112 x113 x114 x115 x116 x117 x118 x119 x120 : Value} {ds : List Deferred} {A : World} {p b4 g6 nu uc no oc m c : Nat} {ua oa a : Option Addr} {M : Pm} {R : Rp} {x : Av} {E : Int}
    (HP : Hid (PAt A p M ∧ Sh M)) (HRL : Hid (Rel M R ∧ Nd M ∧ R.F.length ≤ 990)) (HRP : Hid (RPt A (.slice ua nu uc) (.slice oa no oc) (.slice a m c) R)) (HSU : Hid (StrAt A ua nu (usersL M) ∧ StrAt A oa no (orgsL M))) (HB4 : Hid (Blk A b4 30 [.slice ua nu uc, .slice oa no oc, .slice a m c])) (HG6 : Hid (Blk A g6 32 x.cells)) (HOK : Hid (x.ok))
    (hQ : ∀ V1 a1 n1 c1 a2 n2 c2 a3 n3 c3 a4 n4 c4 a5 n5 c5 a6 n6 c6 a7 n7 c7 a8 n8 c8, Below A.heap.size A V1 → Q .normal { tmps := #[x0, x1, x2, .pointer (some ⟨p, 0, none⟩), .pointer (some ⟨b4, 0, none⟩), x5, .pointer (some ⟨g6, 0, none⟩), iv E, iv E, x9, x10, x11, x12, x13, x14, x15, x16, x17, x18, x19, x20, x21, x22, x23, x24, x25, x26, x27, x28, x29, x30, x31, x32, x33, iv E, iv E, .bool false, .bool false, .pointer (some ⟨p, 0, none⟩), .slice a1 n1 c1, .pointer (some ⟨b4, 0, none⟩), .slice ua nu uc, .bool true, .bool false, .bool false, .bool false, .pointer (some ⟨p, 0, none⟩), .slice a2 n2 c2, .pointer (some ⟨b4, 1, none⟩), .slice oa no oc, .bool true, .bool false, .bool false, .bool false, .pointer (some ⟨p, 0, none⟩), .pointer (some ⟨g6, 1, none⟩), hv x.x, .slice a3 n3 c3, .agg [.slice ua nu uc, .slice oa no oc, .slice a m c].toArray, .pointer (some ⟨g6, 1, none⟩), hv x.x, .slice a4 n4 c4, .bool true, .bool false, .bool false, .bool false, .pointer (some ⟨p, 0, none⟩), .pointer (some ⟨g6, 1, none⟩), hv x.x, .slice a5 n5 c5, .agg [.slice ua nu uc, .slice oa no oc, .slice a m c].toArray, .pointer (some ⟨g6, 1, none⟩), hv x.x, .slice a6 n6 c6, .bool true, .bool false, .bool false, .bool false, .pointer (some ⟨p, 0, none⟩), .pointer (some ⟨g6, 1, none⟩), hv x.x, .pointer (some ⟨g6, 3, none⟩), hv x.u, .agg #[hv x.u, .slice a7 n7 c7, iv (subR M x.x x.u)], .agg [.slice ua nu uc, .slice oa no oc, .slice a m c].toArray, .pointer (some ⟨g6, 1, none⟩), hv x.x, .pointer (some ⟨g6, 3, none⟩), hv x.u, .agg #[hv x.u, .slice a8 n8 c8, iv (subR M x.x x.u)], .bool true, .bool false, .bool false, x93, x94, x95, x96, x97, x98, x99, x100, x101, x102, x103, x104, x105, x106, x107, x108, x109, x110, x111, x112, x113, x114, x115, x116, x117, x118, x119, x120], defers := ds } V1) :
    (Code.region 10 #[{ dst := some 34, op := Op.move (Operand.tmp 8), type := 33, pos := "law.go:86", after := #[], guard := none }, { dst := some 35, op := Op.move (Operand.tmp 7), type := 3, pos := "law.go:86", after := #[], guard := none }, { dst := some 36, op := Op.binOp BinOp.neq 3 (Operand.tmp 34) (Operand.tmp 35) 3, type := 4, pos := "law.go:86", after := #[{ on := 0, ground := Ground.data }, { on := 1, ground := Ground.data }], guard := none }, { dst := some 37, op := Op.move (Operand.tmp 36), type := 4, pos := "law.go:86", after := #[{ on := 2, ground := Ground.data }], guard := none }, { dst := some 38, op := Op.move (Operand.tmp 3), type := 25, pos := "law.go:86", after := #[{ on := 3, ground := Ground.guard }], guard := some (3, false) }, { dst := some 39, op := Op.call { callee := Callee.value (Operand.func 14), args := #[Operand.tmp 38], argTypes := #[25] }, type := 27, pos := "law.go:86", after := #[{ on := 4, ground := Ground.data }, { on := 3, ground := Ground.chain }, { on := 3, ground := Ground.guard }], guard := some (3, false) }, { dst := some 40, op := Op.fieldAddr 30 (Operand.tmp 4) 0, type := 0, pos := "law.go:86", after := #[{ on := 3, ground := Ground.guard }], guard := some (3, false) }, { dst := some 41, op := Op.load 27 (Operand.tmp 40), type := 27, pos := "law.go:86", after := #[{ on := 6, ground := Ground.data }, { on := 3, ground := Ground.guard }], guard := some (3, false) }, { dst := some 42, op := Op.call { callee := Callee.value (Operand.func 13), args := #[Operand.tmp 39, Operand.tmp 41], argTypes := #[27, 27] }, type := 4, pos := "law.go:86", after := #[{ on := 5, ground := Ground.data }, { on := 7, ground := Ground.data }, { on := 5, ground := Ground.chain }, { on := 3, ground := Ground.guard }], guard := some (3, false) }, { dst := some 43, op := Op.unOp UnOp.not 4 (Operand.tmp 42), type := 4, pos := "law.go:86", after := #[{ on := 8, ground := Ground.data }, { on := 3, ground := Ground.guard }], guard := some (3, false) }, { dst := some 44, op := Op.pick (Operand.tmp 37) (Operand.const (Value.bool true)) (Operand.tmp 43), type := 4, pos := "law.go:86", after := #[{ on := 3, ground := Ground.data }, { on := 9, ground := Ground.data }], guard := none }, { dst := some 45, op := Op.move (Operand.tmp 44), type := 4, pos := "law.go:86", after := #[{ on := 10, ground := Ground.data }, { on := 8, ground := Ground.chain }], guard := none }, { dst := some 46, op := Op.move (Operand.tmp 3), type := 25, pos := "law.go:86", after := #[{ on := 11, ground := Ground.guard }], guard := some (11, false) }, { dst := some 47, op := Op.call { callee := Callee.value (Operand.func 15), args := #[Operand.tmp 46], argTypes := #[25] }, type := 27, pos := "law.go:86", after := #[{ on := 12, ground := Ground.data }, { on := 11, ground := Ground.chain }, { on := 11, ground := Ground.guard }], guard := some (11, false) }, { dst := some 48, op := Op.fieldAddr 30 (Operand.tmp 4) 1, type := 0, pos := "law.go:86", after := #[{ on := 11, ground := Ground.guard }], guard := some (11, false) }, { dst := some 49, op := Op.load 27 (Operand.tmp 48), type := 27, pos := "law.go:86", after := #[{ on := 14, ground := Ground.data }, { on := 11, ground := Ground.guard }], guard := some (11, false) }, { dst := some 50, op := Op.call { callee := Callee.value (Operand.func 13), args := #[Operand.tmp 47, Operand.tmp 49], argTypes := #[27, 27] }, type := 4, pos := "law.go:86", after := #[{ on := 13, ground := Ground.data }, { on := 15, ground := Ground.data }, { on := 13, ground := Ground.chain }, { on := 11, ground := Ground.guard }], guard := some (11, false) }, { dst := some 51, op := Op.unOp UnOp.not 4 (Operand.tmp 50), type := 4, pos := "law.go:86", after := #[{ on := 16, ground := Ground.data }, { on := 11, ground := Ground.guard }], guard := some (11, false) }, { dst := some 52, op := Op.pick (Operand.tmp 45) (Operand.const (Value.bool true)) (Operand.tmp 51), type := 4, pos := "law.go:86", after := #[{ on := 11, ground := Ground.data }, { on := 17, ground := Ground.data }], guard := none }, { dst := some 53, op := Op.move (Operand.tmp 52), type := 4, pos := "law.go:86", after := #[{ on := 18, ground := Ground.data }, { on := 16, ground := Ground.chain }], guard := none }, { dst := some 54, op := Op.move (Operand.tmp 3), type := 25, pos := "law.go:86", after := #[{ on := 19, ground := Ground.guard }], guard := some (19, false) }, { dst := some 55, op := Op.fieldAddr 32 (Operand.tmp 6) 1, type := 0, pos := "law.go:86", after := #[{ on := 19, ground := Ground.guard }], guard := some (19, false) }, { dst := some 56, op := Op.load 9 (Operand.tmp 55), type := 9, pos := "law.go:86", after := #[{ on := 21, ground := Ground.data }, { on := 19, ground := Ground.guard }], guard := some (19, false) }, { dst := some 57, op := Op.call { callee := Callee.value (Operand.func 16), args := #[Operand.tmp 54, Operand.tmp 56], argTypes := #[25, 9] }, type := 27, pos := "law.go:86", after := #[{ on := 20, ground := Ground.data }, { on := 22, ground := Ground.data }, { on := 19, ground := Ground.chain }, { on := 19, ground := Ground.guard }], guard := some (19, false) }, { dst := some 58, op := Op.load 30 (Operand.tmp 4), type := 30, pos := "law.go:86", after := #[{ on := 19, ground := Ground.guard }], guard := some (19, false) }, { dst := some 59, op := Op.fieldAddr 32 (Operand.tmp 6) 1, type := 0, pos := "law.go:86", after := #[{ on := 19, ground := Ground.guard }], guard := some (19, false) }, { dst := some 60, op := Op.load 9 (Operand.tmp 59), type := 9, pos := "law.go:86", after := #[{ on := 25, ground := Ground.data }, { on := 19, ground := Ground.guard }], guard := some (19, false) }, { dst := some 61, op := Op.call { callee := Callee.value (Operand.func 17), args := #[Operand.tmp 58, Operand.tmp 60], argTypes := #[30, 9] }, type := 27, pos := "law.go:86", after := #[{ on := 24, ground := Ground.data }, { on := 26, ground := Ground.data }, { on := 23, ground := Ground.chain }, { on := 19, ground := Ground.guard }], guard := some (19, false) }, { dst := some 62, op := Op.call { callee := Callee.value (Operand.func 13), args := #[Operand.tmp 57, Operand.tmp 61], argTypes := #[27, 27] }, type := 4, pos := "law.go:86", after := #[{ on := 23, ground := Ground.data }, { on := 27, ground := Ground.data }, { on := 27, ground := Ground.chain }, { on := 19, ground := Ground.guard }], guard := some (19, false) }, { dst := some 63, op := Op.unOp UnOp.not 4 (Operand.tmp 62), type := 4, pos := "law.go:86", after := #[{ on := 28, ground := Ground.data }, { on := 19, ground := Ground.guard }], guard := some (19, false) }, { dst := some 64, op := Op.pick (Operand.tmp 53) (Operand.const (Value.bool true)) (Operand.tmp 63), type := 4, pos := "law.go:86", after := #[{ on := 19, ground := Ground.data }, { on := 29, ground := Ground.data }], guard := none }, { dst := some 65, op := Op.move (Operand.tmp 64), type := 4, pos := "law.go:86", after := #[{ on := 30, ground := Ground.data }, { on := 28, ground := Ground.chain }], guard := none }, { dst := some 66, op := Op.move (Operand.tmp 3), type := 25, pos := "law.go:86", after := #[{ on := 31, ground := Ground.guard }], guard := some (31, false) }, { dst := some 67, op := Op.fieldAddr 32 (Operand.tmp 6) 1, type := 0, pos := "law.go:86", after := #[{ on := 31, ground := Ground.guard }], guard := some (31, false) }, { dst := some 68, op := Op.load 9 (Operand.tmp 67), type := 9, pos := "law.go:86", after := #[{ on := 33, ground := Ground.data }, { on := 31, ground := Ground.guard }], guard := some (31, false) }, { dst := some 69, op := Op.call { callee := Callee.value (Operand.func 18), args := #[Operand.tmp 66, Operand.tmp 68], argTypes := #[25, 9] }, type := 27, pos := "law.go:86", after := #[{ on := 32, ground := Ground.data }, { on := 34, ground := Ground.data }, { on := 31, ground := Ground.chain }, { on := 31, ground := Ground.guard }], guard := some (31, false) }, { dst := some 70, op := Op.load 30 (Operand.tmp 4), type := 30, pos := "law.go:86", after := #[{ on := 31, ground := Ground.guard }], guard := some (31, false) }, { dst := some 71, op := Op.fieldAddr 32 (Operand.tmp 6) 1, type := 0, pos := "law.go:86", after := #[{ on := 31, ground := Ground.guard }], guard := some (31, false) }, { dst := some 72, op := Op.load 9 (Operand.tmp 71), type := 9, pos := "law.go:86", after := #[{ on := 37, ground := Ground.data }, { on := 31, ground := Ground.guard }], guard := some (31, false) }, { dst := some 73, op := Op.call { callee := Callee.value (Operand.func 19), args := #[Operand.tmp 70, Operand.tmp 72], argTypes := #[30, 9] }, type := 27, pos := "law.go:86", after := #[{ on := 36, ground := Ground.data }, { on := 38, ground := Ground.data }, { on := 35, ground := Ground.chain }, { on := 31, ground := Ground.guard }], guard := some (31, false) }, { dst := some 74, op := Op.call { callee := Callee.value (Operand.func 13), args := #[Operand.tmp 69, Operand.tmp 73], argTypes := #[27, 27] }, type := 4, pos := "law.go:86", after := #[{ on := 35, ground := Ground.data }, { on := 39, ground := Ground.data }, { on := 39, ground := Ground.chain }, { on := 31, ground := Ground.guard }], guard := some (31, false) }, { dst := some 75, op := Op.unOp UnOp.not 4 (Operand.tmp 74), type := 4, pos := "law.go:86", after := #[{ on := 40, ground := Ground.data }, { on := 31, ground := Ground.guard }], guard := some (31, false) }, { dst := some 76, op := Op.pick (Operand.tmp 65) (Operand.const (Value.bool true)) (Operand.tmp 75), type := 4, pos := "law.go:86", after := #[{ on := 31, ground := Ground.data }, { on := 41, ground := Ground.data }], guard := none }, { dst := some 77, op := Op.move (Operand.tmp 76), type := 4, pos := "law.go:86", after := #[{ on := 42, ground := Ground.data }, { on := 40, ground := Ground.chain }], guard := none }, { dst := some 78, op := Op.move (Operand.tmp 3), type := 25, pos := "law.go:86", after := #[{ on := 43, ground := Ground.guard }], guard := some (43, false) }, { dst := some 79, op := Op.fieldAddr 32 (Operand.tmp 6) 1, type := 0, pos := "law.go:86", after := #[{ on := 43, ground := Ground.guard }], guard := some (43, false) }, { dst := some 80, op := Op.load 9 (Operand.tmp 79), type := 9, pos := "law.go:86", after := #[{ on := 45, ground := Ground.data }, { on := 43, ground := Ground.guard }], guard := some (43, false) }, { dst := some 81, op := Op.fieldAddr 32 (Operand.tmp 6) 3, type := 0, pos := "law.go:86", after := #[{ on := 43, ground := Ground.guard }], guard := some (43, false) }, { dst := some 82, op := Op.load 9 (Operand.tmp 81), type := 9, pos := "law.go:86", after := #[{ on := 47, ground := Ground.data }, { on := 43, ground := Ground.guard }], guard := some (43, false) }, { dst := some 83, op := Op.call { callee := Callee.value (Operand.func 21), args := #[Operand.tmp 78, Operand.tmp 80, Operand.tmp 82], argTypes := #[25, 9, 9] }, type := 42, pos := "law.go:86", after := #[{ on := 44, ground := Ground.data }, { on := 46, ground := Ground.data }, { on := 48, ground := Ground.data }, { on := 43, ground := Ground.chain }, { on := 43, ground := Ground.guard }], guard := some (43, false) }, { dst := some 84, op := Op.load 30 (Operand.tmp 4), type := 30, pos := "law.go:86", after := #[{ on := 43, ground := Ground.guard }], guard := some (43, false) }, { dst := some 85, op := Op.fieldAddr 32 (Operand.tmp 6) 1, type := 0, pos := "law.go:86", after := #[{ on := 43, ground := Ground.guard }], guard := some (43, false) }, { dst := some 86, op := Op.load 9 (Operand.tmp 85), type := 9, pos := "law.go:86", after := #[{ on := 51, ground := Ground.data }, { on := 43, ground := Ground.guard }], guard := some (43, false) }, { dst := some 87, op := Op.fieldAddr 32 (Operand.tmp 6) 3, type := 0, pos := "law.go:86", after := #[{ on := 43, ground := Ground.guard }], guard := some (43, false) }, { dst := some 88, op := Op.load 9 (Operand.tmp 87), type := 9, pos := "law.go:86", after := #[{ on := 53, ground := Ground.data }, { on := 43, ground := Ground.guard }], guard := some (43, false) }, { dst := some 89, op := Op.call { callee := Callee.value (Operand.func 22), args := #[Operand.tmp 84, Operand.tmp 86, Operand.tmp 88], argTypes := #[30, 9, 9] }, type := 42, pos := "law.go:86", after := #[{ on := 50, ground := Ground.data }, { on := 52, ground := Ground.data }, { on := 54, ground := Ground.data }, { on := 49, ground := Ground.chain }, { on := 43, ground := Ground.guard }], guard := some (43, false) }, { dst := some 90, op := Op.call { callee := Callee.value (Operand.func 20), args := #[Operand.tmp 83, Operand.tmp 89], argTypes := #[42, 42] }, type := 4, pos := "law.go:86", after := #[{ on := 49, ground := Ground.data }, { on := 55, ground := Ground.data }, { on := 55, ground := Ground.chain }, { on := 43, ground := Ground.guard }], guard := some (43, false) }, { dst := some 91, op := Op.unOp UnOp.not 4 (Operand.tmp 90), type := 4, pos := "law.go:86", after := #[{ on := 56, ground := Ground.data }, { on := 43, ground := Ground.guard }], guard := some (43, false) }, { dst := some 92, op := Op.pick (Operand.tmp 77) (Operand.const (Value.bool true)) (Operand.tmp 91), type := 4, pos := "law.go:86", after := #[{ on := 43, ground := Ground.data }, { on := 57, ground := Ground.data }], guard := none }] true).wp Try.prog Q { tmps := #[x0, x1, x2, .pointer (some ⟨p, 0, none⟩), .pointer (some ⟨b4, 0, none⟩), x5, .pointer (some ⟨g6, 0, none⟩), iv E, iv E, x9, x10, x11, x12, x13, x14, x15, x16, x17, x18, x19, x20, x21, x22, x23, x24, x25, x26, x27, x28, x29, x30, x31, x32, x33, x34, x35, x36, x37, x38, x39, x40, x41, x42, x43, x44, x45, x46, x47, x48, x49, x50, x51, x52, x53, x54, x55, x56, x57, x58, x59, x60, x61, x62, x63, x64, x65, x66, x67, x68, x69, x70, x71, x72, x73, x74, x75, x76, x77, x78, x79, x80, x81, x82, x83, x84, x85, x86, x87, x88, x89, x90, x91, x92, x93, x94, x95, x96, x97, x98, x99, x100, x101, x102, x103, x104, x105, x106, x107, x108, x109, x110, x111, x112, x113, x114, x115, x116, x117, x118, x119, x120], defers := ds } A := by
  refine Code.wp_mono (Q := fun x a' w' => match x with | .normal => Q .normal a' w' | _ => False) (by intro x a' w' h; cases x <;> first | exact h | exact h.elim) ?_
  refine wp_region_held (S := fun V => Below A.heap.size A V) (by kernel_rfl) ?_
  have hS0 : Hid (Below A.heap.size A A.drew) := below_drew0 A
  change wpAnyH Try.prog .any _ _ (fun V => Below A.heap.size A V) 59 (Array.replicate 59 false) _ A.drew
  obtain ⟨V0, hV0⟩ : ∃ V0, A.drew = V0 := ⟨_, rfl⟩
  rw [hV0]
  rw [hV0] at hS0
  clear hV0
  refine wpAnyH_take (i := 0) (oi := { dst := some 34, op := Op.move (Operand.tmp 8), type := 33, pos := "law.go:86", after := #[], guard := none }) (v := iv E) rfl (by kernel_rfl) (by kernel_rfl) (by kernel_rfl) (fun _ _ _ h => h.elim) (Or.inl ⟨by rfl, ?y1⟩) hS0.out ?_
  case y1 =>
    intro V hV
    go_simp
  simp only [Act.put, List.setIfInBounds_toArray, List.set_cons_zero, List.set_cons_succ]
  refine wpAnyH_take (i := 1) (oi := { dst := some 35, op := Op.move (Operand.tmp 7), type := 3, pos := "law.go:86", after := #[], guard := none }) (v := iv E) rfl (by kernel_rfl) (by kernel_rfl) (by kernel_rfl) (fun _ _ _ h => h.elim) (Or.inl ⟨by rfl, ?y2⟩) hS0.out ?_
  case y2 =>
    intro V hV
    go_simp
  simp only [Act.put, List.setIfInBounds_toArray, List.set_cons_zero, List.set_cons_succ]
  refine wpAnyH_take (i := 2) (oi := { dst := some 36, op := Op.binOp BinOp.neq 3 (Operand.tmp 34) (Operand.tmp 35) 3, type := 4, pos := "law.go:86", after := #[{ on := 0, ground := Ground.data }, { on := 1, ground := Ground.data }], guard := none }) (v := .bool false) rfl (by kernel_rfl) (by kernel_rfl) (by kernel_rfl) (fun _ _ _ h => h.elim) (Or.inl ⟨by rfl, ?y3⟩) hS0.out ?_
  case y3 =>
    intro V hV
    go_simp
  simp only [Act.put, List.setIfInBounds_toArray, List.set_cons_zero, List.set_cons_succ]
  refine wpAnyH_take (i := 3) (oi := { dst := some 37, op := Op.move (Operand.tmp 36), type := 4, pos := "law.go:86", after := #[{ on := 2, ground := Ground.data }], guard := none }) (v := .bool false) rfl (by kernel_rfl) (by kernel_rfl) (by kernel_rfl) (fun _ _ _ h => h.elim) (Or.inl ⟨by rfl, ?y4⟩) hS0.out ?_
  case y4 =>
    intro V hV
    go_simp
  simp only [Act.put, List.setIfInBounds_toArray, List.set_cons_zero, List.set_cons_succ]
  refine wpAnyH_take (i := 4) (oi := { dst := some 38, op := Op.move (Operand.tmp 3), type := 25, pos := "law.go:86", after := #[{ on := 3, ground := Ground.guard }], guard := some (3, false) }) (v := .pointer (some ⟨p, 0, none⟩)) rfl (by kernel_rfl) (by kernel_rfl) (by kernel_rfl) (fun _ _ _ h => h.elim) (Or.inl ⟨by rfl, ?y5⟩) hS0.out ?_
  case y5 =>
    intro V hV
    go_simp
  simp only [Act.put, List.setIfInBounds_toArray, List.set_cons_zero, List.set_cons_succ]
  refine wpAnyH_take (i := 6) (oi := { dst := some 40, op := Op.fieldAddr 30 (Operand.tmp 4) 0, type := 0, pos := "law.go:86", after := #[{ on := 3, ground := Ground.guard }], guard := some (3, false) }) (v := .pointer (some ⟨b4, 0, none⟩)) rfl (by kernel_rfl) (by kernel_rfl) (by kernel_rfl) (fun _ _ _ h => h.elim) (Or.inl ⟨by rfl, ?y6⟩) hS0.out ?_
  case y6 =>
    intro V hV
    go_simp
  simp only [Act.put, List.setIfInBounds_toArray, List.set_cons_zero, List.set_cons_succ]
  refine wpAnyH_take (i := 7) (oi := { dst := some 41, op := Op.load 27 (Operand.tmp 40), type := 27, pos := "law.go:86", after := #[{ on := 6, ground := Ground.data }, { on := 3, ground := Ground.guard }], guard := some (3, false) }) (v := .slice ua nu uc) rfl (by kernel_rfl) (by kernel_rfl) (by kernel_rfl) (fun _ _ _ h => h.elim) (Or.inl ⟨by rfl, ?y7⟩) hS0.out ?_
  case y7 =>
    intro V hV
    have hc : V.cell? ⟨b4, 0, none⟩ = some (.slice ua nu uc) := ((show Below A.heap.size A V from hV).cell (p := ⟨b4, 0, none⟩) (HB4.out.lt)).trans (HB4.out.cell rfl)
    go_simp
  simp only [Act.put, List.setIfInBounds_toArray, List.set_cons_zero, List.set_cons_succ]
  refine wpAnyH_ready (rs := [5]) (by kernel_rfl) (by simp) (AllReadyH.cons (i := 5) (o := { dst := some 39, op := Op.call { callee := Callee.value (Operand.func 14), args := #[Operand.tmp 38], argTypes := #[25] }, type := 27, pos := "law.go:86", after := #[{ on := 4, ground := Ground.data }, { on := 3, ground := Ground.chain }, { on := 3, ground := Ground.guard }], guard := some (3, false) }) rfl ?_ AllReadyH.nil)
  · intro K1 hK1
    rw [if_pos (by rfl)]
    have HC1 := users_is (HP.out.1.below hS0.out)
    go_wp2_with fail
    refine HC1.mono ?_
    rintro e V1 ⟨a1, n1, c1, rfl, H1⟩
    dsimp only
    clear HC1
    have hS1 : Hid (Below A.heap.size A V1) := hS0.out.trans ((H1.out.2.2).mono hS0.out.size)
    refine hK1.out _ _ hS1.out ?_
    clear hK1
    intro _
    try simp only [Act.put, List.setIfInBounds_toArray, List.set_cons_zero, List.set_cons_succ]
    refine wpAnyH_ready (rs := [8]) (by kernel_rfl) (by simp) (AllReadyH.cons (i := 8) (o := { dst := some 42, op := Op.call { callee := Callee.value (Operand.func 13), args := #[Operand.tmp 39, Operand.tmp 41], argTypes := #[27, 27] }, type := 4, pos := "law.go:86", after := #[{ on := 5, ground := Ground.data }, { on := 7, ground := Ground.data }, { on := 5, ground := Ground.chain }, { on := 3, ground := Ground.guard }], guard := some (3, false) }) rfl ?_ AllReadyH.nil)
    · intro K1 hK1
      rw [if_pos (by rfl)]
      have HC2 := texts2 (c := c1) (d := uc) H1.out.1 (HSU.out.1.below hS1.out) (by have := H1.out.2.1; omega)
      go_wp2_with fail
      refine HC2.mono ?_
      rintro e V2 ⟨rfl, hb2⟩
      dsimp only
      clear HC2
      have hS2 : Hid (Below A.heap.size A V2) := hS1.out.trans ((hb2).mono hS1.out.size)
      clear hb2
      refine hK1.out _ _ hS2.out ?_
      clear hK1
      intro _
      try simp only [Act.put, List.setIfInBounds_toArray, List.set_cons_zero, List.set_cons_succ]
      refine wpAnyH_take (i := 9) (oi := { dst := some 43, op := Op.unOp UnOp.not 4 (Operand.tmp 42), type := 4, pos := "law.go:86", after := #[{ on := 8, ground := Ground.data }, { on := 3, ground := Ground.guard }], guard := some (3, false) }) (v := .bool false) rfl (by kernel_rfl) (by kernel_rfl) (by kernel_rfl) (fun _ _ _ h => h.elim) (Or.inl ⟨by rfl, ?y8⟩) hS2.out ?_
      case y8 =>
        intro V hV
        go_simp
      simp only [Act.put, List.setIfInBounds_toArray, List.set_cons_zero, List.set_cons_succ]
      refine wpAnyH_take (i := 10) (oi := { dst := some 44, op := Op.pick (Operand.tmp 37) (Operand.const (Value.bool true)) (Operand.tmp 43), type := 4, pos := "law.go:86", after := #[{ on := 3, ground := Ground.data }, { on := 9, ground := Ground.data }], guard := none }) (v := .bool false) rfl (by kernel_rfl) (by kernel_rfl) (by kernel_rfl) (fun _ _ _ h => h.elim) (Or.inl ⟨by rfl, ?y9⟩) hS2.out ?_
      case y9 =>
        intro V hV
        go_simp
      simp only [Act.put, List.setIfInBounds_toArray, List.set_cons_zero, List.set_cons_succ]
      refine wpAnyH_take (i := 11) (oi := { dst := some 45, op := Op.move (Operand.tmp 44), type := 4, pos := "law.go:86", after := #[{ on := 10, ground := Ground.data }, { on := 8, ground := Ground.chain }], guard := none }) (v := .bool false) rfl (by kernel_rfl) (by kernel_rfl) (by kernel_rfl) (fun _ _ _ h => h.elim) (Or.inl ⟨by rfl, ?y10⟩) hS2.out ?_
      case y10 =>
        intro V hV
        go_simp
      simp only [Act.put, List.setIfInBounds_toArray, List.set_cons_zero, List.set_cons_succ]
      refine wpAnyH_take (i := 12) (oi := { dst := some 46, op := Op.move (Operand.tmp 3), type := 25, pos := "law.go:86", after := #[{ on := 11, ground := Ground.guard }], guard := some (11, false) }) (v := .pointer (some ⟨p, 0, none⟩)) rfl (by kernel_rfl) (by kernel_rfl) (by kernel_rfl) (fun _ _ _ h => h.elim) (Or.inl ⟨by rfl, ?y11⟩) hS2.out ?_
      case y11 =>
        intro V hV
        go_simp
      simp only [Act.put, List.setIfInBounds_toArray, List.set_cons_zero, List.set_cons_succ]
      refine wpAnyH_take (i := 14) (oi := { dst := some 48, op := Op.fieldAddr 30 (Operand.tmp 4) 1, type := 0, pos := "law.go:86", after := #[{ on := 11, ground := Ground.guard }], guard := some (11, false) }) (v := .pointer (some ⟨b4, 1, none⟩)) rfl (by kernel_rfl) (by kernel_rfl) (by kernel_rfl) (fun _ _ _ h => h.elim) (Or.inl ⟨by rfl, ?y12⟩) hS2.out ?_
      case y12 =>
        intro V hV
        go_simp
      simp only [Act.put, List.setIfInBounds_toArray, List.set_cons_zero, List.set_cons_succ]
      refine wpAnyH_take (i := 15) (oi := { dst := some 49, op := Op.load 27 (Operand.tmp 48), type := 27, pos := "law.go:86", after := #[{ on := 14, ground := Ground.data }, { on := 11, ground := Ground.guard }], guard := some (11, false) }) (v := .slice oa no oc) rfl (by kernel_rfl) (by kernel_rfl) (by kernel_rfl) (fun _ _ _ h => h.elim) (Or.inl ⟨by rfl, ?y13⟩) hS2.out ?_
      case y13 =>
        intro V hV
        have hc : V.cell? ⟨b4, 1, none⟩ = some (.slice oa no oc) := ((show Below A.heap.size A V from hV).cell (p := ⟨b4, 1, none⟩) (HB4.out.lt)).trans (HB4.out.cell rfl)
        go_simp
      simp only [Act.put, List.setIfInBounds_toArray, List.set_cons_zero, List.set_cons_succ]
      refine wpAnyH_ready (rs := [13]) (by kernel_rfl) (by simp) (AllReadyH.cons (i := 13) (o := { dst := some 47, op := Op.call { callee := Callee.value (Operand.func 15), args := #[Operand.tmp 46], argTypes := #[25] }, type := 27, pos := "law.go:86", after := #[{ on := 12, ground := Ground.data }, { on := 11, ground := Ground.chain }, { on := 11, ground := Ground.guard }], guard := some (11, false) }) rfl ?_ AllReadyH.nil)
      · intro K1 hK1
        rw [if_pos (by rfl)]
        have HC3 := orgs_is (HP.out.1.below hS2.out)
        go_wp2_with fail
        refine HC3.mono ?_
        rintro e V3 ⟨a2, n2, c2, rfl, H2⟩
        dsimp only
        clear HC3
        have hS3 : Hid (Below A.heap.size A V3) := hS2.out.trans ((H2.out.2.2).mono hS2.out.size)
        refine hK1.out _ _ hS3.out ?_
        clear hK1
        intro _
        try simp only [Act.put, List.setIfInBounds_toArray, List.set_cons_zero, List.set_cons_succ]
        refine wpAnyH_ready (rs := [16]) (by kernel_rfl) (by simp) (AllReadyH.cons (i := 16) (o := { dst := some 50, op := Op.call { callee := Callee.value (Operand.func 13), args := #[Operand.tmp 47, Operand.tmp 49], argTypes := #[27, 27] }, type := 4, pos := "law.go:86", after := #[{ on := 13, ground := Ground.data }, { on := 15, ground := Ground.data }, { on := 13, ground := Ground.chain }, { on := 11, ground := Ground.guard }], guard := some (11, false) }) rfl ?_ AllReadyH.nil)
        · intro K1 hK1
          rw [if_pos (by rfl)]
          have HC4 := texts2 (c := c2) (d := oc) H2.out.1 (HSU.out.2.below hS3.out) (by have := H2.out.2.1; omega)
          go_wp2_with fail
          refine HC4.mono ?_
          rintro e V4 ⟨rfl, hb4⟩
          dsimp only
          clear HC4
          have hS4 : Hid (Below A.heap.size A V4) := hS3.out.trans ((hb4).mono hS3.out.size)
          clear hb4
          refine hK1.out _ _ hS4.out ?_
          clear hK1
          intro _
          try simp only [Act.put, List.setIfInBounds_toArray, List.set_cons_zero, List.set_cons_succ]
          refine wpAnyH_take (i := 17) (oi := { dst := some 51, op := Op.unOp UnOp.not 4 (Operand.tmp 50), type := 4, pos := "law.go:86", after := #[{ on := 16, ground := Ground.data }, { on := 11, ground := Ground.guard }], guard := some (11, false) }) (v := .bool false) rfl (by kernel_rfl) (by kernel_rfl) (by kernel_rfl) (fun _ _ _ h => h.elim) (Or.inl ⟨by rfl, ?y14⟩) hS4.out ?_
          case y14 =>
            intro V hV
            go_simp
          simp only [Act.put, List.setIfInBounds_toArray, List.set_cons_zero, List.set_cons_succ]
          refine wpAnyH_take (i := 18) (oi := { dst := some 52, op := Op.pick (Operand.tmp 45) (Operand.const (Value.bool true)) (Operand.tmp 51), type := 4, pos := "law.go:86", after := #[{ on := 11, ground := Ground.data }, { on := 17, ground := Ground.data }], guard := none }) (v := .bool false) rfl (by kernel_rfl) (by kernel_rfl) (by kernel_rfl) (fun _ _ _ h => h.elim) (Or.inl ⟨by rfl, ?y15⟩) hS4.out ?_
          case y15 =>
            intro V hV
            go_simp
          simp only [Act.put, List.setIfInBounds_toArray, List.set_cons_zero, List.set_cons_succ]
          refine wpAnyH_take (i := 19) (oi := { dst := some 53, op := Op.move (Operand.tmp 52), type := 4, pos := "law.go:86", after := #[{ on := 18, ground := Ground.data }, { on := 16, ground := Ground.chain }], guard := none }) (v := .bool false) rfl (by kernel_rfl) (by kernel_rfl) (by kernel_rfl) (fun _ _ _ h => h.elim) (Or.inl ⟨by rfl, ?y16⟩) hS4.out ?_
          case y16 =>
            intro V hV
            go_simp
          simp only [Act.put, List.setIfInBounds_toArray, List.set_cons_zero, List.set_cons_succ]
          refine wpAnyH_take (i := 20) (oi := { dst := some 54, op := Op.move (Operand.tmp 3), type := 25, pos := "law.go:86", after := #[{ on := 19, ground := Ground.guard }], guard := some (19, false) }) (v := .pointer (some ⟨p, 0, none⟩)) rfl (by kernel_rfl) (by kernel_rfl) (by kernel_rfl) (fun _ _ _ h => h.elim) (Or.inl ⟨by rfl, ?y17⟩) hS4.out ?_
          case y17 =>
            intro V hV
            go_simp
          simp only [Act.put, List.setIfInBounds_toArray, List.set_cons_zero, List.set_cons_succ]
          refine wpAnyH_take (i := 21) (oi := { dst := some 55, op := Op.fieldAddr 32 (Operand.tmp 6) 1, type := 0, pos := "law.go:86", after := #[{ on := 19, ground := Ground.guard }], guard := some (19, false) }) (v := .pointer (some ⟨g6, 1, none⟩)) rfl (by kernel_rfl) (by kernel_rfl) (by kernel_rfl) (fun _ _ _ h => h.elim) (Or.inl ⟨by rfl, ?y18⟩) hS4.out ?_
          case y18 =>
            intro V hV
            go_simp
          simp only [Act.put, List.setIfInBounds_toArray, List.set_cons_zero, List.set_cons_succ]
          refine wpAnyH_take (i := 22) (oi := { dst := some 56, op := Op.load 9 (Operand.tmp 55), type := 9, pos := "law.go:86", after := #[{ on := 21, ground := Ground.data }, { on := 19, ground := Ground.guard }], guard := some (19, false) }) (v := hv x.x) rfl (by kernel_rfl) (by kernel_rfl) (by kernel_rfl) (fun _ _ _ h => h.elim) (Or.inl ⟨by rfl, ?y19⟩) hS4.out ?_
          case y19 =>
            intro V hV
            have hc : V.cell? ⟨g6, 1, none⟩ = some (hv x.x) := ((show Below A.heap.size A V from hV).cell (p := ⟨g6, 1, none⟩) (HG6.out.lt)).trans (HG6.out.cell rfl)
            go_simp
          simp only [Act.put, List.setIfInBounds_toArray, List.set_cons_zero, List.set_cons_succ]
          refine wpAnyH_take (i := 24) (oi := { dst := some 58, op := Op.load 30 (Operand.tmp 4), type := 30, pos := "law.go:86", after := #[{ on := 19, ground := Ground.guard }], guard := some (19, false) }) (v := .agg [.slice ua nu uc, .slice oa no oc, .slice a m c].toArray) rfl (by kernel_rfl) (by kernel_rfl) (by kernel_rfl) (fun _ _ _ h => h.elim) (yieldsIf_load_mid (by rfl) _ _ rfl _ _ rfl ([.slice ua nu uc, .slice oa no oc, .slice a m c]) _ (fun V hV => rangeAt_same ((by have := HB4.out.range 0 3; simpa using this)) ((show Below A.heap.size A V from hV).block _ (HB4.out.lt))) Try.underlying30 rfl (size30)) hS4.out ?_
          simp only [Act.put, List.setIfInBounds_toArray, List.set_cons_zero, List.set_cons_succ]
          refine wpAnyH_take (i := 25) (oi := { dst := some 59, op := Op.fieldAddr 32 (Operand.tmp 6) 1, type := 0, pos := "law.go:86", after := #[{ on := 19, ground := Ground.guard }], guard := some (19, false) }) (v := .pointer (some ⟨g6, 1, none⟩)) rfl (by kernel_rfl) (by kernel_rfl) (by kernel_rfl) (fun _ _ _ h => h.elim) (Or.inl ⟨by rfl, ?y20⟩) hS4.out ?_
          case y20 =>
            intro V hV
            go_simp
          simp only [Act.put, List.setIfInBounds_toArray, List.set_cons_zero, List.set_cons_succ]
          refine wpAnyH_take (i := 26) (oi := { dst := some 60, op := Op.load 9 (Operand.tmp 59), type := 9, pos := "law.go:86", after := #[{ on := 25, ground := Ground.data }, { on := 19, ground := Ground.guard }], guard := some (19, false) }) (v := hv x.x) rfl (by kernel_rfl) (by kernel_rfl) (by kernel_rfl) (fun _ _ _ h => h.elim) (Or.inl ⟨by rfl, ?y21⟩) hS4.out ?_
          case y21 =>
            intro V hV
            have hc : V.cell? ⟨g6, 1, none⟩ = some (hv x.x) := ((show Below A.heap.size A V from hV).cell (p := ⟨g6, 1, none⟩) (HG6.out.lt)).trans (HG6.out.cell rfl)
            go_simp
          simp only [Act.put, List.setIfInBounds_toArray, List.set_cons_zero, List.set_cons_succ]
          refine wpAnyH_ready (rs := [23]) (by kernel_rfl) (by simp) (AllReadyH.cons (i := 23) (o := { dst := some 57, op := Op.call { callee := Callee.value (Operand.func 16), args := #[Operand.tmp 54, Operand.tmp 56], argTypes := #[25, 9] }, type := 27, pos := "law.go:86", after := #[{ on := 20, ground := Ground.data }, { on := 22, ground := Ground.data }, { on := 19, ground := Ground.chain }, { on := 19, ground := Ground.guard }], guard := some (19, false) }) rfl ?_ AllReadyH.nil)
          · intro K1 hK1
            rw [if_pos (by rfl)]
            have HC5 := members_is (HP.out.1.below hS4.out) x.x HOK.out.1
            go_wp2_with fail
            refine HC5.mono ?_
            rintro e V5 ⟨a3, n3, c3, rfl, H3⟩
            dsimp only
            clear HC5
            have hS5 : Hid (Below A.heap.size A V5) := hS4.out.trans ((H3.out.2.2).mono hS4.out.size)
            refine hK1.out _ _ hS5.out ?_
            clear hK1
            intro _
            try simp only [Act.put, List.setIfInBounds_toArray, List.set_cons_zero, List.set_cons_succ]
            refine wpAnyH_ready (rs := [27]) (by kernel_rfl) (by simp) (AllReadyH.cons (i := 27) (o := { dst := some 61, op := Op.call { callee := Callee.value (Operand.func 17), args := #[Operand.tmp 58, Operand.tmp 60], argTypes := #[30, 9] }, type := 27, pos := "law.go:86", after := #[{ on := 24, ground := Ground.data }, { on := 26, ground := Ground.data }, { on := 23, ground := Ground.chain }, { on := 19, ground := Ground.guard }], guard := some (19, false) }) rfl ?_ AllReadyH.nil)
            · intro K1 hK1
              rw [if_pos (by rfl)]
              have HC6 := rm_is (HRP.out.below hS5.out) HRL.out.2.2 HRL.out.1 HRL.out.2.1 x.x
              go_wp2_with fail
              refine HC6.mono ?_
              rintro e V6 ⟨a4, n4, c4, rfl, H4⟩
              dsimp only
              clear HC6
              have hS6 : Hid (Below A.heap.size A V6) := hS5.out.trans ((H4.out.2.2).mono hS5.out.size)
              refine hK1.out _ _ hS6.out ?_
              clear hK1
              intro _
              try simp only [Act.put, List.setIfInBounds_toArray, List.set_cons_zero, List.set_cons_succ]
              refine wpAnyH_ready (rs := [28]) (by kernel_rfl) (by simp) (AllReadyH.cons (i := 28) (o := { dst := some 62, op := Op.call { callee := Callee.value (Operand.func 13), args := #[Operand.tmp 57, Operand.tmp 61], argTypes := #[27, 27] }, type := 4, pos := "law.go:86", after := #[{ on := 23, ground := Ground.data }, { on := 27, ground := Ground.data }, { on := 27, ground := Ground.chain }, { on := 19, ground := Ground.guard }], guard := some (19, false) }) rfl ?_ AllReadyH.nil)
              · intro K1 hK1
                rw [if_pos (by rfl)]
                have HC7 := texts2 (c := c3) (d := c4) (H3.out.1.below H4.out.2.2) H4.out.1 (by have := H3.out.2.1; omega)
                go_wp2_with fail
                refine HC7.mono ?_
                rintro e V7 ⟨rfl, hb7⟩
                dsimp only
                clear HC7
                have hS7 : Hid (Below A.heap.size A V7) := hS6.out.trans ((hb7).mono hS6.out.size)
                clear hb7
                refine hK1.out _ _ hS7.out ?_
                clear hK1
                intro _
                try simp only [Act.put, List.setIfInBounds_toArray, List.set_cons_zero, List.set_cons_succ]
                refine wpAnyH_take (i := 29) (oi := { dst := some 63, op := Op.unOp UnOp.not 4 (Operand.tmp 62), type := 4, pos := "law.go:86", after := #[{ on := 28, ground := Ground.data }, { on := 19, ground := Ground.guard }], guard := some (19, false) }) (v := .bool false) rfl (by kernel_rfl) (by kernel_rfl) (by kernel_rfl) (fun _ _ _ h => h.elim) (Or.inl ⟨by rfl, ?y22⟩) hS7.out ?_
                case y22 =>
                  intro V hV
                  go_simp
                simp only [Act.put, List.setIfInBounds_toArray, List.set_cons_zero, List.set_cons_succ]
                refine wpAnyH_take (i := 30) (oi := { dst := some 64, op := Op.pick (Operand.tmp 53) (Operand.const (Value.bool true)) (Operand.tmp 63), type := 4, pos := "law.go:86", after := #[{ on := 19, ground := Ground.data }, { on := 29, ground := Ground.data }], guard := none }) (v := .bool false) rfl (by kernel_rfl) (by kernel_rfl) (by kernel_rfl) (fun _ _ _ h => h.elim) (Or.inl ⟨by rfl, ?y23⟩) hS7.out ?_
                case y23 =>
                  intro V hV
                  go_simp
                simp only [Act.put, List.setIfInBounds_toArray, List.set_cons_zero, List.set_cons_succ]
                refine wpAnyH_take (i := 31) (oi := { dst := some 65, op := Op.move (Operand.tmp 64), type := 4, pos := "law.go:86", after := #[{ on := 30, ground := Ground.data }, { on := 28, ground := Ground.chain }], guard := none }) (v := .bool false) rfl (by kernel_rfl) (by kernel_rfl) (by kernel_rfl) (fun _ _ _ h => h.elim) (Or.inl ⟨by rfl, ?y24⟩) hS7.out ?_
                case y24 =>
                  intro V hV
                  go_simp
                simp only [Act.put, List.setIfInBounds_toArray, List.set_cons_zero, List.set_cons_succ]
                refine wpAnyH_take (i := 32) (oi := { dst := some 66, op := Op.move (Operand.tmp 3), type := 25, pos := "law.go:86", after := #[{ on := 31, ground := Ground.guard }], guard := some (31, false) }) (v := .pointer (some ⟨p, 0, none⟩)) rfl (by kernel_rfl) (by kernel_rfl) (by kernel_rfl) (fun _ _ _ h => h.elim) (Or.inl ⟨by rfl, ?y25⟩) hS7.out ?_
                case y25 =>
                  intro V hV
                  go_simp
                simp only [Act.put, List.setIfInBounds_toArray, List.set_cons_zero, List.set_cons_succ]
                refine wpAnyH_take (i := 33) (oi := { dst := some 67, op := Op.fieldAddr 32 (Operand.tmp 6) 1, type := 0, pos := "law.go:86", after := #[{ on := 31, ground := Ground.guard }], guard := some (31, false) }) (v := .pointer (some ⟨g6, 1, none⟩)) rfl (by kernel_rfl) (by kernel_rfl) (by kernel_rfl) (fun _ _ _ h => h.elim) (Or.inl ⟨by rfl, ?y26⟩) hS7.out ?_
                case y26 =>
                  intro V hV
                  go_simp
                simp only [Act.put, List.setIfInBounds_toArray, List.set_cons_zero, List.set_cons_succ]
                refine wpAnyH_take (i := 34) (oi := { dst := some 68, op := Op.load 9 (Operand.tmp 67), type := 9, pos := "law.go:86", after := #[{ on := 33, ground := Ground.data }, { on := 31, ground := Ground.guard }], guard := some (31, false) }) (v := hv x.x) rfl (by kernel_rfl) (by kernel_rfl) (by kernel_rfl) (fun _ _ _ h => h.elim) (Or.inl ⟨by rfl, ?y27⟩) hS7.out ?_
                case y27 =>
                  intro V hV
                  have hc : V.cell? ⟨g6, 1, none⟩ = some (hv x.x) := ((show Below A.heap.size A V from hV).cell (p := ⟨g6, 1, none⟩) (HG6.out.lt)).trans (HG6.out.cell rfl)
                  go_simp
                simp only [Act.put, List.setIfInBounds_toArray, List.set_cons_zero, List.set_cons_succ]
                refine wpAnyH_take (i := 36) (oi := { dst := some 70, op := Op.load 30 (Operand.tmp 4), type := 30, pos := "law.go:86", after := #[{ on := 31, ground := Ground.guard }], guard := some (31, false) }) (v := .agg [.slice ua nu uc, .slice oa no oc, .slice a m c].toArray) rfl (by kernel_rfl) (by kernel_rfl) (by kernel_rfl) (fun _ _ _ h => h.elim) (yieldsIf_load_mid (by rfl) _ _ rfl _ _ rfl ([.slice ua nu uc, .slice oa no oc, .slice a m c]) _ (fun V hV => rangeAt_same ((by have := HB4.out.range 0 3; simpa using this)) ((show Below A.heap.size A V from hV).block _ (HB4.out.lt))) Try.underlying30 rfl (size30)) hS7.out ?_
                simp only [Act.put, List.setIfInBounds_toArray, List.set_cons_zero, List.set_cons_succ]
                refine wpAnyH_take (i := 37) (oi := { dst := some 71, op := Op.fieldAddr 32 (Operand.tmp 6) 1, type := 0, pos := "law.go:86", after := #[{ on := 31, ground := Ground.guard }], guard := some (31, false) }) (v := .pointer (some ⟨g6, 1, none⟩)) rfl (by kernel_rfl) (by kernel_rfl) (by kernel_rfl) (fun _ _ _ h => h.elim) (Or.inl ⟨by rfl, ?y28⟩) hS7.out ?_
                case y28 =>
                  intro V hV
                  go_simp
                simp only [Act.put, List.setIfInBounds_toArray, List.set_cons_zero, List.set_cons_succ]
                refine wpAnyH_take (i := 38) (oi := { dst := some 72, op := Op.load 9 (Operand.tmp 71), type := 9, pos := "law.go:86", after := #[{ on := 37, ground := Ground.data }, { on := 31, ground := Ground.guard }], guard := some (31, false) }) (v := hv x.x) rfl (by kernel_rfl) (by kernel_rfl) (by kernel_rfl) (fun _ _ _ h => h.elim) (Or.inl ⟨by rfl, ?y29⟩) hS7.out ?_
                case y29 =>
                  intro V hV
                  have hc : V.cell? ⟨g6, 1, none⟩ = some (hv x.x) := ((show Below A.heap.size A V from hV).cell (p := ⟨g6, 1, none⟩) (HG6.out.lt)).trans (HG6.out.cell rfl)
                  go_simp
                simp only [Act.put, List.setIfInBounds_toArray, List.set_cons_zero, List.set_cons_succ]
                refine wpAnyH_ready (rs := [35]) (by kernel_rfl) (by simp) (AllReadyH.cons (i := 35) (o := { dst := some 69, op := Op.call { callee := Callee.value (Operand.func 18), args := #[Operand.tmp 66, Operand.tmp 68], argTypes := #[25, 9] }, type := 27, pos := "law.go:86", after := #[{ on := 32, ground := Ground.data }, { on := 34, ground := Ground.data }, { on := 31, ground := Ground.chain }, { on := 31, ground := Ground.guard }], guard := some (31, false) }) rfl ?_ AllReadyH.nil)
                · intro K1 hK1
                  rw [if_pos (by rfl)]
                  have HC8 := teams_is (HP.out.1.below hS7.out) x.x HOK.out.1
                  go_wp2_with fail
                  refine HC8.mono ?_
                  rintro e V8 ⟨a5, n5, c5, rfl, H5⟩
                  dsimp only
                  clear HC8
                  have hS8 : Hid (Below A.heap.size A V8) := hS7.out.trans ((H5.out.2.2).mono hS7.out.size)
                  refine hK1.out _ _ hS8.out ?_
                  clear hK1
                  intro _
                  try simp only [Act.put, List.setIfInBounds_toArray, List.set_cons_zero, List.set_cons_succ]
                  refine wpAnyH_ready (rs := [39]) (by kernel_rfl) (by simp) (AllReadyH.cons (i := 39) (o := { dst := some 73, op := Op.call { callee := Callee.value (Operand.func 19), args := #[Operand.tmp 70, Operand.tmp 72], argTypes := #[30, 9] }, type := 27, pos := "law.go:86", after := #[{ on := 36, ground := Ground.data }, { on := 38, ground := Ground.data }, { on := 35, ground := Ground.chain }, { on := 31, ground := Ground.guard }], guard := some (31, false) }) rfl ?_ AllReadyH.nil)
                  · intro K1 hK1
                    rw [if_pos (by rfl)]
                    have HC9 := rt_is (HRP.out.below hS8.out) HRL.out.2.2 HRL.out.1 HRL.out.2.1 x.x
                    go_wp2_with fail
                    refine HC9.mono ?_
                    rintro e V9 ⟨a6, n6, c6, rfl, H6⟩
                    dsimp only
                    clear HC9
                    have hS9 : Hid (Below A.heap.size A V9) := hS8.out.trans ((H6.out.2.2).mono hS8.out.size)
                    refine hK1.out _ _ hS9.out ?_
                    clear hK1
                    intro _
                    try simp only [Act.put, List.setIfInBounds_toArray, List.set_cons_zero, List.set_cons_succ]
                    refine wpAnyH_ready (rs := [40]) (by kernel_rfl) (by simp) (AllReadyH.cons (i := 40) (o := { dst := some 74, op := Op.call { callee := Callee.value (Operand.func 13), args := #[Operand.tmp 69, Operand.tmp 73], argTypes := #[27, 27] }, type := 4, pos := "law.go:86", after := #[{ on := 35, ground := Ground.data }, { on := 39, ground := Ground.data }, { on := 39, ground := Ground.chain }, { on := 31, ground := Ground.guard }], guard := some (31, false) }) rfl ?_ AllReadyH.nil)
                    · intro K1 hK1
                      rw [if_pos (by rfl)]
                      have HC10 := texts2 (c := c5) (d := c6) (H5.out.1.below H6.out.2.2) H6.out.1 (by have := H5.out.2.1; omega)
                      go_wp2_with fail
                      refine HC10.mono ?_
                      rintro e V10 ⟨rfl, hb10⟩
                      dsimp only
                      clear HC10
                      have hS10 : Hid (Below A.heap.size A V10) := hS9.out.trans ((hb10).mono hS9.out.size)
                      clear hb10
                      refine hK1.out _ _ hS10.out ?_
                      clear hK1
                      intro _
                      try simp only [Act.put, List.setIfInBounds_toArray, List.set_cons_zero, List.set_cons_succ]
                      refine wpAnyH_take (i := 41) (oi := { dst := some 75, op := Op.unOp UnOp.not 4 (Operand.tmp 74), type := 4, pos := "law.go:86", after := #[{ on := 40, ground := Ground.data }, { on := 31, ground := Ground.guard }], guard := some (31, false) }) (v := .bool false) rfl (by kernel_rfl) (by kernel_rfl) (by kernel_rfl) (fun _ _ _ h => h.elim) (Or.inl ⟨by rfl, ?y30⟩) hS10.out ?_
                      case y30 =>
                        intro V hV
                        go_simp
                      simp only [Act.put, List.setIfInBounds_toArray, List.set_cons_zero, List.set_cons_succ]
                      refine wpAnyH_take (i := 42) (oi := { dst := some 76, op := Op.pick (Operand.tmp 65) (Operand.const (Value.bool true)) (Operand.tmp 75), type := 4, pos := "law.go:86", after := #[{ on := 31, ground := Ground.data }, { on := 41, ground := Ground.data }], guard := none }) (v := .bool false) rfl (by kernel_rfl) (by kernel_rfl) (by kernel_rfl) (fun _ _ _ h => h.elim) (Or.inl ⟨by rfl, ?y31⟩) hS10.out ?_
                      case y31 =>
                        intro V hV
                        go_simp
                      simp only [Act.put, List.setIfInBounds_toArray, List.set_cons_zero, List.set_cons_succ]
                      refine wpAnyH_take (i := 43) (oi := { dst := some 77, op := Op.move (Operand.tmp 76), type := 4, pos := "law.go:86", after := #[{ on := 42, ground := Ground.data }, { on := 40, ground := Ground.chain }], guard := none }) (v := .bool false) rfl (by kernel_rfl) (by kernel_rfl) (by kernel_rfl) (fun _ _ _ h => h.elim) (Or.inl ⟨by rfl, ?y32⟩) hS10.out ?_
                      case y32 =>
                        intro V hV
                        go_simp
                      simp only [Act.put, List.setIfInBounds_toArray, List.set_cons_zero, List.set_cons_succ]
                      refine wpAnyH_take (i := 44) (oi := { dst := some 78, op := Op.move (Operand.tmp 3), type := 25, pos := "law.go:86", after := #[{ on := 43, ground := Ground.guard }], guard := some (43, false) }) (v := .pointer (some ⟨p, 0, none⟩)) rfl (by kernel_rfl) (by kernel_rfl) (by kernel_rfl) (fun _ _ _ h => h.elim) (Or.inl ⟨by rfl, ?y33⟩) hS10.out ?_
                      case y33 =>
                        intro V hV
                        go_simp
                      simp only [Act.put, List.setIfInBounds_toArray, List.set_cons_zero, List.set_cons_succ]
                      refine wpAnyH_take (i := 45) (oi := { dst := some 79, op := Op.fieldAddr 32 (Operand.tmp 6) 1, type := 0, pos := "law.go:86", after := #[{ on := 43, ground := Ground.guard }], guard := some (43, false) }) (v := .pointer (some ⟨g6, 1, none⟩)) rfl (by kernel_rfl) (by kernel_rfl) (by kernel_rfl) (fun _ _ _ h => h.elim) (Or.inl ⟨by rfl, ?y34⟩) hS10.out ?_
                      case y34 =>
                        intro V hV
                        go_simp
                      simp only [Act.put, List.setIfInBounds_toArray, List.set_cons_zero, List.set_cons_succ]
                      refine wpAnyH_take (i := 46) (oi := { dst := some 80, op := Op.load 9 (Operand.tmp 79), type := 9, pos := "law.go:86", after := #[{ on := 45, ground := Ground.data }, { on := 43, ground := Ground.guard }], guard := some (43, false) }) (v := hv x.x) rfl (by kernel_rfl) (by kernel_rfl) (by kernel_rfl) (fun _ _ _ h => h.elim) (Or.inl ⟨by rfl, ?y35⟩) hS10.out ?_
                      case y35 =>
                        intro V hV
                        have hc : V.cell? ⟨g6, 1, none⟩ = some (hv x.x) := ((show Below A.heap.size A V from hV).cell (p := ⟨g6, 1, none⟩) (HG6.out.lt)).trans (HG6.out.cell rfl)
                        go_simp
                      simp only [Act.put, List.setIfInBounds_toArray, List.set_cons_zero, List.set_cons_succ]
                      refine wpAnyH_take (i := 47) (oi := { dst := some 81, op := Op.fieldAddr 32 (Operand.tmp 6) 3, type := 0, pos := "law.go:86", after := #[{ on := 43, ground := Ground.guard }], guard := some (43, false) }) (v := .pointer (some ⟨g6, 3, none⟩)) rfl (by kernel_rfl) (by kernel_rfl) (by kernel_rfl) (fun _ _ _ h => h.elim) (Or.inl ⟨by rfl, ?y36⟩) hS10.out ?_
                      case y36 =>
                        intro V hV
                        go_simp
                      simp only [Act.put, List.setIfInBounds_toArray, List.set_cons_zero, List.set_cons_succ]
                      refine wpAnyH_take (i := 48) (oi := { dst := some 82, op := Op.load 9 (Operand.tmp 81), type := 9, pos := "law.go:86", after := #[{ on := 47, ground := Ground.data }, { on := 43, ground := Ground.guard }], guard := some (43, false) }) (v := hv x.u) rfl (by kernel_rfl) (by kernel_rfl) (by kernel_rfl) (fun _ _ _ h => h.elim) (Or.inl ⟨by rfl, ?y37⟩) hS10.out ?_
                      case y37 =>
                        intro V hV
                        have hc : V.cell? ⟨g6, 3, none⟩ = some (hv x.u) := ((show Below A.heap.size A V from hV).cell (p := ⟨g6, 3, none⟩) (HG6.out.lt)).trans (HG6.out.cell rfl)
                        go_simp
                      simp only [Act.put, List.setIfInBounds_toArray, List.set_cons_zero, List.set_cons_succ]
                      refine wpAnyH_take (i := 50) (oi := { dst := some 84, op := Op.load 30 (Operand.tmp 4), type := 30, pos := "law.go:86", after := #[{ on := 43, ground := Ground.guard }], guard := some (43, false) }) (v := .agg [.slice ua nu uc, .slice oa no oc, .slice a m c].toArray) rfl (by kernel_rfl) (by kernel_rfl) (by kernel_rfl) (fun _ _ _ h => h.elim) (yieldsIf_load_mid (by rfl) _ _ rfl _ _ rfl ([.slice ua nu uc, .slice oa no oc, .slice a m c]) _ (fun V hV => rangeAt_same ((by have := HB4.out.range 0 3; simpa using this)) ((show Below A.heap.size A V from hV).block _ (HB4.out.lt))) Try.underlying30 rfl (size30)) hS10.out ?_
                      simp only [Act.put, List.setIfInBounds_toArray, List.set_cons_zero, List.set_cons_succ]
                      refine wpAnyH_take (i := 51) (oi := { dst := some 85, op := Op.fieldAddr 32 (Operand.tmp 6) 1, type := 0, pos := "law.go:86", after := #[{ on := 43, ground := Ground.guard }], guard := some (43, false) }) (v := .pointer (some ⟨g6, 1, none⟩)) rfl (by kernel_rfl) (by kernel_rfl) (by kernel_rfl) (fun _ _ _ h => h.elim) (Or.inl ⟨by rfl, ?y38⟩) hS10.out ?_
                      case y38 =>
                        intro V hV
                        go_simp
                      simp only [Act.put, List.setIfInBounds_toArray, List.set_cons_zero, List.set_cons_succ]
                      refine wpAnyH_take (i := 52) (oi := { dst := some 86, op := Op.load 9 (Operand.tmp 85), type := 9, pos := "law.go:86", after := #[{ on := 51, ground := Ground.data }, { on := 43, ground := Ground.guard }], guard := some (43, false) }) (v := hv x.x) rfl (by kernel_rfl) (by kernel_rfl) (by kernel_rfl) (fun _ _ _ h => h.elim) (Or.inl ⟨by rfl, ?y39⟩) hS10.out ?_
                      case y39 =>
                        intro V hV
                        have hc : V.cell? ⟨g6, 1, none⟩ = some (hv x.x) := ((show Below A.heap.size A V from hV).cell (p := ⟨g6, 1, none⟩) (HG6.out.lt)).trans (HG6.out.cell rfl)
                        go_simp
                      simp only [Act.put, List.setIfInBounds_toArray, List.set_cons_zero, List.set_cons_succ]
                      refine wpAnyH_take (i := 53) (oi := { dst := some 87, op := Op.fieldAddr 32 (Operand.tmp 6) 3, type := 0, pos := "law.go:86", after := #[{ on := 43, ground := Ground.guard }], guard := some (43, false) }) (v := .pointer (some ⟨g6, 3, none⟩)) rfl (by kernel_rfl) (by kernel_rfl) (by kernel_rfl) (fun _ _ _ h => h.elim) (Or.inl ⟨by rfl, ?y40⟩) hS10.out ?_
                      case y40 =>
                        intro V hV
                        go_simp
                      simp only [Act.put, List.setIfInBounds_toArray, List.set_cons_zero, List.set_cons_succ]
                      refine wpAnyH_take (i := 54) (oi := { dst := some 88, op := Op.load 9 (Operand.tmp 87), type := 9, pos := "law.go:86", after := #[{ on := 53, ground := Ground.data }, { on := 43, ground := Ground.guard }], guard := some (43, false) }) (v := hv x.u) rfl (by kernel_rfl) (by kernel_rfl) (by kernel_rfl) (fun _ _ _ h => h.elim) (Or.inl ⟨by rfl, ?y41⟩) hS10.out ?_
                      case y41 =>
                        intro V hV
                        have hc : V.cell? ⟨g6, 3, none⟩ = some (hv x.u) := ((show Below A.heap.size A V from hV).cell (p := ⟨g6, 3, none⟩) (HG6.out.lt)).trans (HG6.out.cell rfl)
                        go_simp
                      simp only [Act.put, List.setIfInBounds_toArray, List.set_cons_zero, List.set_cons_succ]
                      refine wpAnyH_ready (rs := [49]) (by kernel_rfl) (by simp) (AllReadyH.cons (i := 49) (o := { dst := some 83, op := Op.call { callee := Callee.value (Operand.func 21), args := #[Operand.tmp 78, Operand.tmp 80, Operand.tmp 82], argTypes := #[25, 9, 9] }, type := 42, pos := "law.go:86", after := #[{ on := 44, ground := Ground.data }, { on := 46, ground := Ground.data }, { on := 48, ground := Ground.data }, { on := 43, ground := Ground.chain }, { on := 43, ground := Ground.guard }], guard := some (43, false) }) rfl ?_ AllReadyH.nil)
                      · intro K1 hK1
                        rw [if_pos (by rfl)]
                        have HC11 := sub_is (HP.out.1.below hS10.out) HP.out.2 x.x x.u HOK.out.1 HOK.out.2.2
                        go_wp2_with fail
                        refine HC11.mono ?_
                        rintro e V11 ⟨a7, n7, c7, rfl, H7⟩
                        dsimp only
                        clear HC11
                        have hS11 : Hid (Below A.heap.size A V11) := hS10.out.trans ((H7.out.2.2).mono hS10.out.size)
                        refine hK1.out _ _ hS11.out ?_
                        clear hK1
                        intro _
                        try simp only [Act.put, List.setIfInBounds_toArray, List.set_cons_zero, List.set_cons_succ]
                        refine wpAnyH_ready (rs := [55]) (by kernel_rfl) (by simp) (AllReadyH.cons (i := 55) (o := { dst := some 89, op := Op.call { callee := Callee.value (Operand.func 22), args := #[Operand.tmp 84, Operand.tmp 86, Operand.tmp 88], argTypes := #[30, 9, 9] }, type := 42, pos := "law.go:86", after := #[{ on := 50, ground := Ground.data }, { on := 52, ground := Ground.data }, { on := 54, ground := Ground.data }, { on := 49, ground := Ground.chain }, { on := 43, ground := Ground.guard }], guard := some (43, false) }) rfl ?_ AllReadyH.nil)
                        · intro K1 hK1
                          rw [if_pos (by rfl)]
                          have HC12 := rs_is (HRP.out.below hS11.out) HRL.out.2.2 HRL.out.1 HRL.out.2.1 x.x x.u
                          go_wp2_with fail
                          refine HC12.mono ?_
                          rintro e V12 ⟨a8, n8, c8, rfl, H8⟩
                          dsimp only
                          clear HC12
                          have hS12 : Hid (Below A.heap.size A V12) := hS11.out.trans ((H8.out.2.2).mono hS11.out.size)
                          refine hK1.out _ _ hS12.out ?_
                          clear hK1
                          intro _
                          try simp only [Act.put, List.setIfInBounds_toArray, List.set_cons_zero, List.set_cons_succ]
                          refine wpAnyH_ready (rs := [56]) (by kernel_rfl) (by simp) (AllReadyH.cons (i := 56) (o := { dst := some 90, op := Op.call { callee := Callee.value (Operand.func 20), args := #[Operand.tmp 83, Operand.tmp 89], argTypes := #[42, 42] }, type := 4, pos := "law.go:86", after := #[{ on := 49, ground := Ground.data }, { on := 55, ground := Ground.data }, { on := 55, ground := Ground.chain }, { on := 43, ground := Ground.guard }], guard := some (43, false) }) rfl ?_ AllReadyH.nil)
                          · intro K1 hK1
                            rw [if_pos (by rfl)]
                            have HC13 := same2 (c := c7) (d := c8) (H7.out.1.below H8.out.2.2) H8.out.1 (by have := H7.out.2.1; omega) x.u (subR M x.x x.u)
                            go_wp2_with fail
                            refine HC13.mono ?_
                            rintro e V13 ⟨rfl, hb13⟩
                            dsimp only
                            clear HC13
                            have hS13 : Hid (Below A.heap.size A V13) := hS12.out.trans ((hb13).mono hS12.out.size)
                            clear hb13
                            refine hK1.out _ _ hS13.out ?_
                            clear hK1
                            intro _
                            try simp only [Act.put, List.setIfInBounds_toArray, List.set_cons_zero, List.set_cons_succ]
                            refine wpAnyH_take (i := 57) (oi := { dst := some 91, op := Op.unOp UnOp.not 4 (Operand.tmp 90), type := 4, pos := "law.go:86", after := #[{ on := 56, ground := Ground.data }, { on := 43, ground := Ground.guard }], guard := some (43, false) }) (v := .bool false) rfl (by kernel_rfl) (by kernel_rfl) (by kernel_rfl) (fun _ _ _ h => h.elim) (Or.inl ⟨by rfl, ?y42⟩) hS13.out ?_
                            case y42 =>
                              intro V hV
                              go_simp
                            simp only [Act.put, List.setIfInBounds_toArray, List.set_cons_zero, List.set_cons_succ]
                            refine wpAnyH_take (i := 58) (oi := { dst := some 92, op := Op.pick (Operand.tmp 77) (Operand.const (Value.bool true)) (Operand.tmp 91), type := 4, pos := "law.go:86", after := #[{ on := 43, ground := Ground.data }, { on := 57, ground := Ground.data }], guard := none }) (v := .bool false) rfl (by kernel_rfl) (by kernel_rfl) (by kernel_rfl) (fun _ _ _ h => h.elim) (Or.inl ⟨by rfl, ?y43⟩) hS13.out ?_
                            case y43 =>
                              intro V hV
                              go_simp
                            simp only [Act.put, List.setIfInBounds_toArray, List.set_cons_zero, List.set_cons_succ]
                            refine wpAnyH_done (by kernel_rfl) ?_ _
                            exact hQ V13 _ _ _ _ _ _ _ _ _ _ _ _ _ _ _ _ _ _ _ _ _ _ _ _ hS13.out
set_option maxRecDepth 100000 in
set_option maxHeartbeats 4000000 in
theorem pl19 {Q : Exit → Act → World → Prop} {x0 x1 x2 x5 x6 x7 x8 x9 x11 x13 x14 x15 x16 x17 x18 x19 x20 x21 x22 x23 x24 x25 x26 x27 x28 x29 x30 x31 x32 x33 x34 x35 x36 x37 x38 x39 x40 x41 x42 x43 x44 x45 x46 x47 x48 x49 x50 x51 x52 x53 x54 x55 x56 x57 x58 x59 x60 x61 x62 x63 x64 x65 x66 x67 x68 x69 x70 x71 x72 x73 x74 x75 x76 x77 x78 x79 x80 x81 x82 x83 x84 x85 x86 x87 x88 x89 x90 x91 x92 x93 x94 x95 x96 x97 x98 x99 x100 x101 x102 x103 x104 x105 x106 x107 x108 x109 x110 x111 x112 x113 x114 x115 x116 x117 x118 x119 x120 : Value} {ds : List Deferred} {A : World} {p b4 nu uc no oc m c : Nat} {ua oa a : Option Addr} {M : Pm} {R : Rp} {y z : Hs}
    (HP : Hid (PAt A p M ∧ Sh M)) (HRL : Hid (Rel M R ∧ Nd M ∧ R.F.length ≤ 990)) (HRP : Hid (RPt A (.slice ua nu uc) (.slice oa no oc) (.slice a m c) R)) (HB4 : Hid (Blk A b4 30 [.slice ua nu uc, .slice oa no oc, .slice a m c])) (HOK : Hid (y.length ≤ 140737488355328 ∧ z.length ≤ 140737488355328))
    (hQ : ∀ V1 a7 n7 c7 a8 n8 c8, Below A.heap.size A V1 → Q .normal { tmps := #[x0, x1, x2, .pointer (some ⟨p, 0, none⟩), .pointer (some ⟨b4, 0, none⟩), x5, x6, x7, x8, x9, hv y, x11, hv z, x13, x14, x15, x16, x17, x18, x19, x20, x21, x22, x23, x24, x25, x26, x27, x28, x29, x30, x31, x32, x33, x34, x35, x36, x37, x38, x39, x40, x41, x42, x43, x44, x45, x46, x47, x48, x49, x50, x51, x52, x53, x54, x55, x56, x57, x58, x59, x60, x61, x62, x63, x64, x65, x66, x67, x68, x69, x70, x71, x72, x73, x74, x75, x76, x77, x78, x79, x80, x81, x82, x83, x84, x85, x86, x87, x88, x89, x90, x91, x92, x93, x94, x95, x96, x97, x98, x99, x100, x101, x102, x103, x104, x105, x106, x107, .pointer (some ⟨p, 0, none⟩), hv y, hv z, .agg #[hv z, .slice a7 n7 c7, iv (subR M y z)], .agg [.slice ua nu uc, .slice oa no oc, .slice a m c].toArray, hv y, hv z, .agg #[hv z, .slice a8 n8 c8, iv (subR M y z)], .bool true, .bool false, x118, x119, x120], defers := ds } V1) :
    (Code.region 19 #[{ dst := some 108, op := Op.move (Operand.tmp 3), type := 25, pos := "law.go:92", after := #[], guard := none }, { dst := some 109, op := Op.move (Operand.tmp 10), type := 9, pos := "law.go:92", after := #[], guard := none }, { dst := some 110, op := Op.move (Operand.tmp 12), type := 9, pos := "law.go:92", after := #[], guard := none }, { dst := some 111, op := Op.call { callee := Callee.value (Operand.func 21), args := #[Operand.tmp 108, Operand.tmp 109, Operand.tmp 110], argTypes := #[25, 9, 9] }, type := 42, pos := "law.go:92", after := #[{ on := 0, ground := Ground.data }, { on := 1, ground := Ground.data }, { on := 2, ground := Ground.data }], guard := none }, { dst := some 112, op := Op.load 30 (Operand.tmp 4), type := 30, pos := "law.go:92", after := #[], guard := none }, { dst := some 113, op := Op.move (Operand.tmp 10), type := 9, pos := "law.go:92", after := #[], guard := none }, { dst := some 114, op := Op.move (Operand.tmp 12), type := 9, pos := "law.go:92", after := #[], guard := none }, { dst := some 115, op := Op.call { callee := Callee.value (Operand.func 22), args := #[Operand.tmp 112, Operand.tmp 113, Operand.tmp 114], argTypes := #[30, 9, 9] }, type := 42, pos := "law.go:92", after := #[{ on := 4, ground := Ground.data }, { on := 5, ground := Ground.data }, { on := 6, ground := Ground.data }, { on := 3, ground := Ground.chain }], guard := none }, { dst := some 116, op := Op.call { callee := Callee.value (Operand.func 20), args := #[Operand.tmp 111, Operand.tmp 115], argTypes := #[42, 42] }, type := 4, pos := "law.go:92", after := #[{ on := 3, ground := Ground.data }, { on := 7, ground := Ground.data }, { on := 7, ground := Ground.chain }], guard := none }, { dst := some 117, op := Op.unOp UnOp.not 4 (Operand.tmp 116), type := 4, pos := "law.go:92", after := #[{ on := 8, ground := Ground.data }], guard := none }] true).wp Try.prog Q { tmps := #[x0, x1, x2, .pointer (some ⟨p, 0, none⟩), .pointer (some ⟨b4, 0, none⟩), x5, x6, x7, x8, x9, hv y, x11, hv z, x13, x14, x15, x16, x17, x18, x19, x20, x21, x22, x23, x24, x25, x26, x27, x28, x29, x30, x31, x32, x33, x34, x35, x36, x37, x38, x39, x40, x41, x42, x43, x44, x45, x46, x47, x48, x49, x50, x51, x52, x53, x54, x55, x56, x57, x58, x59, x60, x61, x62, x63, x64, x65, x66, x67, x68, x69, x70, x71, x72, x73, x74, x75, x76, x77, x78, x79, x80, x81, x82, x83, x84, x85, x86, x87, x88, x89, x90, x91, x92, x93, x94, x95, x96, x97, x98, x99, x100, x101, x102, x103, x104, x105, x106, x107, x108, x109, x110, x111, x112, x113, x114, x115, x116, x117, x118, x119, x120], defers := ds } A := by
  refine Code.wp_mono (Q := fun x a' w' => match x with | .normal => Q .normal a' w' | _ => False) (by intro x a' w' h; cases x <;> first | exact h | exact h.elim) ?_
  refine wp_region_held (S := fun V => Below A.heap.size A V) (by kernel_rfl) ?_
  have hS0 : Hid (Below A.heap.size A A.drew) := below_drew0 A
  change wpAnyH Try.prog .any _ _ (fun V => Below A.heap.size A V) 10 (Array.replicate 10 false) _ A.drew
  obtain ⟨V0, hV0⟩ : ∃ V0, A.drew = V0 := ⟨_, rfl⟩
  rw [hV0]
  rw [hV0] at hS0
  clear hV0
  refine wpAnyH_take (i := 0) (oi := { dst := some 108, op := Op.move (Operand.tmp 3), type := 25, pos := "law.go:92", after := #[], guard := none }) (v := .pointer (some ⟨p, 0, none⟩)) rfl (by kernel_rfl) (by kernel_rfl) (by kernel_rfl) (fun _ _ _ h => h.elim) (Or.inl ⟨by rfl, ?y1⟩) hS0.out ?_
  case y1 =>
    intro V hV
    go_simp
  simp only [Act.put, List.setIfInBounds_toArray, List.set_cons_zero, List.set_cons_succ]
  refine wpAnyH_take (i := 1) (oi := { dst := some 109, op := Op.move (Operand.tmp 10), type := 9, pos := "law.go:92", after := #[], guard := none }) (v := hv y) rfl (by kernel_rfl) (by kernel_rfl) (by kernel_rfl) (fun _ _ _ h => h.elim) (Or.inl ⟨by rfl, ?y2⟩) hS0.out ?_
  case y2 =>
    intro V hV
    go_simp
  simp only [Act.put, List.setIfInBounds_toArray, List.set_cons_zero, List.set_cons_succ]
  refine wpAnyH_take (i := 2) (oi := { dst := some 110, op := Op.move (Operand.tmp 12), type := 9, pos := "law.go:92", after := #[], guard := none }) (v := hv z) rfl (by kernel_rfl) (by kernel_rfl) (by kernel_rfl) (fun _ _ _ h => h.elim) (Or.inl ⟨by rfl, ?y3⟩) hS0.out ?_
  case y3 =>
    intro V hV
    go_simp
  simp only [Act.put, List.setIfInBounds_toArray, List.set_cons_zero, List.set_cons_succ]
  refine wpAnyH_take (i := 4) (oi := { dst := some 112, op := Op.load 30 (Operand.tmp 4), type := 30, pos := "law.go:92", after := #[], guard := none }) (v := .agg [.slice ua nu uc, .slice oa no oc, .slice a m c].toArray) rfl (by kernel_rfl) (by kernel_rfl) (by kernel_rfl) (fun _ _ _ h => h.elim) (yieldsIf_load_mid (by rfl) _ _ rfl _ _ rfl ([.slice ua nu uc, .slice oa no oc, .slice a m c]) _ (fun V hV => rangeAt_same ((by have := HB4.out.range 0 3; simpa using this)) ((show Below A.heap.size A V from hV).block _ (HB4.out.lt))) Try.underlying30 rfl (size30)) hS0.out ?_
  simp only [Act.put, List.setIfInBounds_toArray, List.set_cons_zero, List.set_cons_succ]
  refine wpAnyH_take (i := 5) (oi := { dst := some 113, op := Op.move (Operand.tmp 10), type := 9, pos := "law.go:92", after := #[], guard := none }) (v := hv y) rfl (by kernel_rfl) (by kernel_rfl) (by kernel_rfl) (fun _ _ _ h => h.elim) (Or.inl ⟨by rfl, ?y4⟩) hS0.out ?_
  case y4 =>
    intro V hV
    go_simp
  simp only [Act.put, List.setIfInBounds_toArray, List.set_cons_zero, List.set_cons_succ]
  refine wpAnyH_take (i := 6) (oi := { dst := some 114, op := Op.move (Operand.tmp 12), type := 9, pos := "law.go:92", after := #[], guard := none }) (v := hv z) rfl (by kernel_rfl) (by kernel_rfl) (by kernel_rfl) (fun _ _ _ h => h.elim) (Or.inl ⟨by rfl, ?y5⟩) hS0.out ?_
  case y5 =>
    intro V hV
    go_simp
  simp only [Act.put, List.setIfInBounds_toArray, List.set_cons_zero, List.set_cons_succ]
  refine wpAnyH_ready (rs := [3]) (by kernel_rfl) (by simp) (AllReadyH.cons (i := 3) (o := { dst := some 111, op := Op.call { callee := Callee.value (Operand.func 21), args := #[Operand.tmp 108, Operand.tmp 109, Operand.tmp 110], argTypes := #[25, 9, 9] }, type := 42, pos := "law.go:92", after := #[{ on := 0, ground := Ground.data }, { on := 1, ground := Ground.data }, { on := 2, ground := Ground.data }], guard := none }) rfl ?_ AllReadyH.nil)
  · intro K1 hK1
    rw [if_pos (by rfl)]
    have HC1 := sub_is (HP.out.1.below hS0.out) HP.out.2 y z HOK.out.1 HOK.out.2
    go_wp2_with fail
    refine HC1.mono ?_
    rintro e V1 ⟨a7, n7, c7, rfl, H7⟩
    dsimp only
    clear HC1
    have hS1 : Hid (Below A.heap.size A V1) := hS0.out.trans ((H7.out.2.2).mono hS0.out.size)
    refine hK1.out _ _ hS1.out ?_
    clear hK1
    intro _
    try simp only [Act.put, List.setIfInBounds_toArray, List.set_cons_zero, List.set_cons_succ]
    refine wpAnyH_ready (rs := [7]) (by kernel_rfl) (by simp) (AllReadyH.cons (i := 7) (o := { dst := some 115, op := Op.call { callee := Callee.value (Operand.func 22), args := #[Operand.tmp 112, Operand.tmp 113, Operand.tmp 114], argTypes := #[30, 9, 9] }, type := 42, pos := "law.go:92", after := #[{ on := 4, ground := Ground.data }, { on := 5, ground := Ground.data }, { on := 6, ground := Ground.data }, { on := 3, ground := Ground.chain }], guard := none }) rfl ?_ AllReadyH.nil)
    · intro K1 hK1
      rw [if_pos (by rfl)]
      have HC2 := rs_is (HRP.out.below hS1.out) HRL.out.2.2 HRL.out.1 HRL.out.2.1 y z
      go_wp2_with fail
      refine HC2.mono ?_
      rintro e V2 ⟨a8, n8, c8, rfl, H8⟩
      dsimp only
      clear HC2
      have hS2 : Hid (Below A.heap.size A V2) := hS1.out.trans ((H8.out.2.2).mono hS1.out.size)
      refine hK1.out _ _ hS2.out ?_
      clear hK1
      intro _
      try simp only [Act.put, List.setIfInBounds_toArray, List.set_cons_zero, List.set_cons_succ]
      refine wpAnyH_ready (rs := [8]) (by kernel_rfl) (by simp) (AllReadyH.cons (i := 8) (o := { dst := some 116, op := Op.call { callee := Callee.value (Operand.func 20), args := #[Operand.tmp 111, Operand.tmp 115], argTypes := #[42, 42] }, type := 4, pos := "law.go:92", after := #[{ on := 3, ground := Ground.data }, { on := 7, ground := Ground.data }, { on := 7, ground := Ground.chain }], guard := none }) rfl ?_ AllReadyH.nil)
      · intro K1 hK1
        rw [if_pos (by rfl)]
        have HC3 := same2 (c := c7) (d := c8) (H7.out.1.below H8.out.2.2) H8.out.1 (by have := H7.out.2.1; omega) z (subR M y z)
        go_wp2_with fail
        refine HC3.mono ?_
        rintro e V3 ⟨rfl, hb3⟩
        dsimp only
        clear HC3
        have hS3 : Hid (Below A.heap.size A V3) := hS2.out.trans ((hb3).mono hS2.out.size)
        clear hb3
        refine hK1.out _ _ hS3.out ?_
        clear hK1
        intro _
        try simp only [Act.put, List.setIfInBounds_toArray, List.set_cons_zero, List.set_cons_succ]
        refine wpAnyH_take (i := 9) (oi := { dst := some 117, op := Op.unOp UnOp.not 4 (Operand.tmp 116), type := 4, pos := "law.go:92", after := #[{ on := 8, ground := Ground.data }], guard := none }) (v := .bool false) rfl (by kernel_rfl) (by kernel_rfl) (by kernel_rfl) (fun _ _ _ h => h.elim) (Or.inl ⟨by rfl, ?y6⟩) hS3.out ?_
        case y6 =>
          intro V hV
          go_simp
        simp only [Act.put, List.setIfInBounds_toArray, List.set_cons_zero, List.set_cons_succ]
        refine wpAnyH_done (by kernel_rfl) ?_ _
        exact hQ V3 _ _ _ _ _ _ hS3.out
end Go.Proofs.Ytfickhhfhdhcbaa.Oct

/- Layer 15 (people): the document's people: PeoplePlays, the law. -/
namespace Go.Proofs.Ytfickhhfhdhcbaa.Oct
open Go.RowKit
set_option linter.unusedSimpArgs false
set_option linter.unusedVariables false


theorem StrAt.cast {w : World} {a : Option Addr} {n : Nat} {l l' : List Hs} (h : StrAt w a n l) (e : l = l') : StrAt w a n l' := e ▸ h
/-- what the law's loop keeps -/
structure PI (w : World) (p b4 : Nat) (W : World) (M : Pm) (R : Rp) (uv ov fv : Value) (i : Nat) : Prop where
  pb : PB w.heap.size W p M
  sh : Sh M
  bw : Below w.heap.size w W
  blk : Blk W b4 30 [uv, ov, fv]
  rp : RPt W uv ov fv R
  rel : Rel M R
  len : R.F.length ≤ i
  far : b4 ∉ M.bl p
  up : w.heap.size ≤ b4
theorem PI.below {w : World} {p b4 : Nat} {W W' : World} {M : Pm} {R : Rp} {uv ov fv : Value} {i : Nat} (h : PI w p b4 W M R uv ov fv i) (hb : Below W.heap.size W W') : PI w p b4 W' M R uv ov fv i :=
  ⟨⟨h.pb.1.below hb, h.pb.2.1, Nat.le_trans h.pb.2.2 hb.size⟩, h.sh, below_tr h.bw hb, h.blk.below hb h.blk.lt, h.rp.below hb, h.rel, h.len, h.far, h.up⟩
theorem org_short {M : Pm} (h : Sh M) {y : Hs} (hy : y ∈ orgsL M) : y.length ≤ 140737488355328 := by
  unfold orgsL at hy
  obtain ⟨o, ho, rfl⟩ := List.mem_map.1 (sortK_mem.1 hy)
  exact (h.2 o ho).1
theorem user_short {M : Pm} (h : Sh M) {y : Hs} (hy : y ∈ sortK M.users) : y.length ≤ 140737488355328 := h.1 y (sortK_mem.1 hy)
set_option maxRecDepth 100000 in
set_option maxHeartbeats 8000000 in
theorem plays_law (l : List Av) (a : Option Addr) (n cp0 : Nat) (w : World) (hl : ArgA w a n cp0 l) :
    Calls Try.prog 3 #[.slice a n cp0] w fun e w' => e = .returned (.bool true) ∧ Below w.heap.size w w' := by
  have hz32 := zero32
  have hz30 := zero30
  have hz42 : ∀ W, (zeroValue 42).run Try.prog W = .ok (.agg #[.string ⟨#[]⟩, .slice none 0 0, .int .i64 0]) W := fun W => by kernel_rfl
  have HFEW := few_is2 l a n cp0 w hl
  have HL : Hid (ArgA w a n cp0 l) := hl
  have qn : (n : Int) ≤ 2199023255552 := by have := hl.2.1; omega
  have HLV := fun W => lives_is W
  clear hl
  go_enter Try.func3, Try.ntmps3
  go_wp2_with fail
  refine HFEW.mono ?_
  rintro e w1 ⟨r, rfl, hb1, hn200⟩
  have HB1 : Hid (Below w.heap.size w w1 ∧ (r = true → n ≤ 200)) := ⟨hb1, hn200⟩
  clear HFEW hb1 hn200
  cases r with
  | false =>
    have HLW := HLV w1
    go_wp2_with fail
    refine HLW.mono ?_
    rintro e w2 ⟨rfl, hb2⟩
    have HB2 : Hid (Below w.heap.size w w2) := below_tr HB1.out.1 hb2
    clear HLW hb2
    go_wp2_with fail
    go_ret
    exact ⟨rfl, HB2.out⟩
  | true =>
    have HNEW := new_is w1
    go_wp2_with fail
    refine HNEW.mono ?_
    rintro e w2 ⟨rfl, hq0, hb2⟩
    obtain ⟨p, hp⟩ : ∃ p, w1.heap.size + 1 + 1 = p := ⟨_, rfl⟩
    rw [hp] at hq0 ⊢
    have HO0 : Hid (PB w.heap.size w2 p (Pm0 w1.heap.size) ∧ Sh (Pm0 w1.heap.size) ∧ Below w.heap.size w w2) := by
      have h1 := HB1.out.1.size
      have h2 := hb2.size
      refine ⟨⟨hq0, fun k hk => ?_, by omega⟩, Sh.zero _, below_tr HB1.out.1 hb2⟩
      simp [Pm.bl, Pm.hp, Pm0] at hk
      omega
    clear HNEW hq0 hb2 hp
    have HN2 : Hid (n ≤ 200) := by have h := HB1.out.2; show n ≤ 200; simpa using h
    obtain ⟨M0, hM0⟩ : ∃ M0, Pm0 w1.heap.size = M0 := ⟨_, rfl⟩
    have HR0 : Hid (Rel M0 ⟨[], [], []⟩) := by rw [← hM0]; exact rel_new _
    rw [hM0] at HO0
    obtain ⟨b4, hb4⟩ : ∃ b, w2.heap.size = b := ⟨_, rfl⟩
    clear hM0
    go_wp2_with (with_reducible change wpList _ _ _ ({ dst := none, op := Op.store 30 _ _, type := _, pos := _, after := _, guard := _ } :: _) _ _; refine Hid.out ?_)
    show wpList _ _ _ _ _ _
    refine wpList_store_blk rfl 30 (.tmp 4) (.tmp 18) rfl b4 0 30 [.slice none 0 0, .slice none 0 0, .slice none 0 0] [.slice none 0 0, .slice none 0 0, .slice none 0 0] rfl rfl (by rw [← hb4]; exact Blk.new w2 _ _) (by simp) size30 (by simp [Value.oneCell']) ?_
    intro W0 hbs hgs
    have HI0 : Hid (PI w p b4 W0 M0 ⟨[], [], []⟩ (.slice none 0 0) (.slice none 0 0) (.slice none 0 0) 0) := by
      have hB : Below w2.heap.size w2 W0 := (below_al w2 _).grown hgs.out (below_al w2 _).size (fun j hj => by cases hj; omega)
      have h := HO0.out
      refine ⟨⟨h.1.1.below hB, h.1.2.1, Nat.le_trans h.1.2.2 hB.size⟩, h.2.1, below_tr h.2.2 hB, by simpa using hbs.out, ⟨SV.nil _ _, SV.nil _ _, SV.nil _ _, by simp, by simp, by simp⟩, HR0.out, by simp, fun e => by have := h.1.1.hp.lt _ e; omega, by rw [← hb4]; exact h.1.2.2⟩
    clear hbs hgs hb4 HO0 HR0
    go_wp2
    go_loopw [21] (fun u W => ∃ (i : Nat) (M : Pm) (R : Rp) (uv ov fv : Value), u = iv i ∧ Hid (i ≤ n ∧ PI w p b4 W M R uv ov fv i)) (fun u _ => n - (intOf u).toNat)
    case atStart => exact ⟨0, _, _, _, _, _, rfl, Nat.zero_le _, HI0.out⟩
    case round =>
      obtain ⟨i, M, R, uv, ov, fv, rfl, HI⟩ := hrel
      by_cases hi : i = n
      · have q1 : (n : Int) ≤ (i : Int) := by omega
        have hO1 : ∃ O1, O1 = wr := ⟨_, rfl⟩
        obtain ⟨O1, hO1⟩ := hO1
        subst hO1
        obtain ⟨ua, uc, hu0, _⟩ := HI.out.2.rp.u
        subst hu0
        obtain ⟨oa, oc, ho0, _⟩ := HI.out.2.rp.o
        subst ho0
        obtain ⟨fa, fc, hf0, _⟩ := HI.out.2.rp.f
        subst hf0
        obtain ⟨nu, hnu⟩ : ∃ m, R.U.length = m := ⟨_, rfl⟩
        obtain ⟨no, hno⟩ : ∃ m, R.O.length = m := ⟨_, rfl⟩
        obtain ⟨m, hm⟩ : ∃ m, R.F.length = m := ⟨_, rfl⟩
        have HJ0 : Hid (PI w p b4 O1 M R (.slice ua nu uc) (.slice oa no oc) (.slice fa m fc) i ∧ R.U.length = nu ∧ R.O.length = no ∧ i ≤ 200) := ⟨by rw [← hnu, ← hno, ← hm]; exact HI.out.2, hnu, hno, by have := HI.out.1; have := HN2.out; omega⟩
        have qu : (nu : Int) ≤ 1000 := by have := HI.out.2.rp.nu; omega
        have qo : (no : Int) ≤ 1000 := by have := HI.out.2.rp.no; omega
        have c1 : O1.cell? ⟨b4, 1, none⟩ = some (.slice oa no oc) := HJ0.out.1.blk.cell rfl
        clear hi hnu hno hm HI
        go_wp2
        go_loopw [97] (fun u W => ∃ j : Nat, u = iv j ∧ Hid (j ≤ no ∧ Below O1.heap.size O1 W)) (fun u _ => no - (intOf u).toNat)
        case atStart => exact ⟨0, rfl, Nat.zero_le _, Below.refl _ _⟩
        case round =>
          obtain ⟨j, rfl, HJ⟩ := hrel
          have hJ1 : ∃ J1, J1 = wr := ⟨_, rfl⟩
          obtain ⟨J1, hJ1⟩ := hJ1
          subst hJ1
          by_cases hj : j = no
          · have q3 : (no : Int) ≤ (j : Int) := by omega
            have HLW := HLV J1
            clear hj
            go_wp2_with fail
            refine HLW.mono ?_
            rintro e w9 ⟨rfl, hb9⟩
            have HB9 : Hid (Below w.heap.size w w9) := below_tr (HJ0.out.1.below HJ.out.2).bw hb9
            clear HLW hb9
            go_wp2_with fail
            go_ret
            exact ⟨rfl, HB9.out⟩
          · have HJQ : Hid (j < no) := by have := HJ.out.1; show _ < _; omega
            have q3 : (j : Int) < (no : Int) := by have := HJQ.out; omega
            have q4 : j < no := HJQ.out
            have HPJ : Hid (PI w p b4 J1 M R (.slice ua nu uc) (.slice oa no oc) (.slice fa m fc) i) := HJ0.out.1.below HJ.out.2
            have hso := HPJ.out.rp.o
            rw [HJ0.out.2.2.1] at hso
            obtain ⟨go, c', y, hao, hgo, hy, hcy⟩ := (sv_name hso).2 j q4
            cases hao
            have HY : Hid (y.length ≤ 140737488355328) := org_short HPJ.out.sh (by rw [← HPJ.out.rel.O]; exact List.mem_of_getElem? hy)
            have c2 : J1.cell? ⟨b4, 0, none⟩ = some (.slice ua nu uc) := HPJ.out.blk.cell rfl
            clear hj hso hgo hy c1
            go_wp2
            go_loopw [104] (fun u W => ∃ k : Nat, u = iv k ∧ Hid (k ≤ nu ∧ Below J1.heap.size J1 W)) (fun u _ => nu - (intOf u).toNat)
            case atStart => exact ⟨0, rfl, Nat.zero_le _, Below.refl _ _⟩
            case round =>
              obtain ⟨k, rfl, HK⟩ := hrel
              by_cases hk : k = nu
              · have q5 : (nu : Int) ≤ (k : Int) := by omega
                have HE : Hid (j + 1 ≤ no ∧ Below O1.heap.size O1 wr) := ⟨HJQ.out, below_tr HJ.out.2 HK.out.2⟩
                clear hk c2 hcy
                go_wp2
                go_roundw
                case rel => exact ⟨j + 1, by simp, HE.out⟩
                case measure =>
                  have := HJQ.out
                  simp only [intOf]
                  omega
              · have HKQ : Hid (k < nu) := by have := HK.out.1; show _ < _; omega
                have q5 : (k : Int) < (nu : Int) := by have := HKQ.out; omega
                have q6 : k < nu := HKQ.out
                have HPK : Hid (PI w p b4 wr M R (.slice ua nu uc) (.slice (some ⟨go, 0, none⟩) no oc) (.slice fa m fc) i) := HPJ.out.below HK.out.2
                have hsu := HPK.out.rp.u
                rw [HJ0.out.2.1] at hsu
                obtain ⟨gu, c'', z, hau, hgu, hz, hcz⟩ := (sv_name hsu).2 k q6
                cases hau
                have HOK : Hid (y.length ≤ 140737488355328 ∧ z.length ≤ 140737488355328) := ⟨HY.out, user_short HPK.out.sh (by rw [← HPK.out.rel.U]; exact List.mem_of_getElem? hz)⟩
                have HP : Hid (PAt wr p M ∧ Sh M) := ⟨HPK.out.pb.1, HPK.out.sh⟩
                have HRL : Hid (Rel M R ∧ Nd M ∧ R.F.length ≤ 990) := ⟨HPK.out.rel, HPK.out.pb.1.nd, by have h1 := HPK.out.len; have h2 := HJ0.out.2.2.2; omega⟩
                have HRP : Hid (RPt wr (.slice (some ⟨gu, 0, none⟩) nu uc) (.slice (some ⟨go, 0, none⟩) no oc) (.slice fa m fc) R) := HPK.out.rp
                have HB4 : Hid (Blk wr b4 30 [.slice (some ⟨gu, 0, none⟩) nu uc, .slice (some ⟨go, 0, none⟩) no oc, .slice fa m fc]) := HPK.out.blk
                clear hk hsu hgu hz c2 hcy
                go_wp2_with fail
                refine pl19 HP HRL HRP HB4 HOK ?_
                intro V5 a7 n7 c7 a8 n8 c8 hV5
                have HE : Hid (k + 1 ≤ nu ∧ Below J1.heap.size J1 V5) := ⟨HKQ.out, below_tr HK.out.2 hV5⟩
                clear hV5 HP HRL HRP HB4 hcz
                go_wp2
                go_roundw
                case rel => exact ⟨k + 1, by simp, HE.out⟩
                case measure =>
                  have := HKQ.out
                  simp only [intOf]
                  omega
      · have HQ : Hid (i < n) := by have := HI.out.1; show _ < _; omega
        have q1 : (i : Int) < (n : Int) := by have := HQ.out; omega
        have q2 : i < n := HQ.out
        obtain ⟨ab, off, ha, hbl, hc⟩ := HL.out.2.2.2 (by omega)
        subst ha
        obtain ⟨x, hx⟩ : ∃ x, l[i]? = some x := ⟨_, List.getElem?_eq_getElem (by rw [HL.out.1]; exact q2)⟩
        have hr : wr.rangeAt ab (off + i * 5) x.cells := rangeAt_same (hc i x hx) (HI.out.2.bw.block ab hbl)
        have HR : Hid (wr.rangeAt ab (off + i * 5) x.cells) := hr
        have HOK : Hid (x.ok) := HL.out.2.2.1 x (List.mem_of_getElem? hx)
        clear hi hc hx hbl hr
        go_wp2_with (with_reducible change wpList _ _ _ ({ dst := some 24, op := _, type := _, pos := _, after := _, guard := _ } :: _) _ _; refine Hid.out ?_)
        show wpList _ _ _ _ _ _
        refine wpList_load_want rfl 32 (.tmp 23) rfl ab (off + i * 5) rfl x.cells _ HR.out Try.underlying32 rfl size32 ?_
        simp only [Act.put, List.setIfInBounds_toArray, List.set_cons_zero, List.set_cons_succ]
        obtain ⟨g6, hg6⟩ : ∃ g, wr.heap.size = g := ⟨_, rfl⟩
        go_wp2_with (with_reducible change wpList _ _ _ ({ dst := none, op := Op.store 32 _ _, type := _, pos := _, after := _, guard := _ } :: _) _ _; refine Hid.out ?_)
        show wpList _ _ _ _ _ _
        refine wpList_store_blk rfl 32 (.tmp 6) (.tmp 24) rfl g6 0 32 [iv 0, .string ⟨#[]⟩, .string ⟨#[]⟩, .string ⟨#[]⟩, iv 0] x.cells rfl rfl (by rw [← hg6]; exact Blk.new wr _ _) (by simp [Av.cells]) size32 (Av.one x) ?_
        intro V1 hb5' hg5
        have hV : Below wr.heap.size wr V1 := (below_al wr _).grown hg5.out (below_al wr _).size (fun j hj => by cases hj; omega)
        have H1 : Hid (PI w p b4 V1 M R uv ov fv i ∧ Blk V1 g6 32 x.cells ∧ g6 ∉ M.bl p ∧ b4 < g6) := ⟨HI.out.2.below hV, hb5'.out, fun e => by have := HI.out.2.pb.1.hp.lt _ e; omega, by rw [← hg6]; exact HI.out.2.blk.lt⟩
        clear hb5' hg5 hV hg6 HR HI
        go_wp2_with (with_reducible change wpList _ _ _ ({ dst := some 26, op := _, type := _, pos := _, after := _, guard := _ } :: _) _ _; refine Hid.out ?_)
        show wpList _ _ _ _ _ _
        refine wpList_load_want rfl 32 (.tmp 6) rfl g6 0 rfl x.cells _ (by have := H1.out.2.1.range 0 5; simpa [Av.cells] using this) Try.underlying32 rfl size32 ?_
        simp only [Act.put, List.setIfInBounds_toArray, List.set_cons_zero, List.set_cons_succ]
        obtain ⟨E, hE⟩ : ∃ E, doE M x = E := ⟨_, rfl⟩
        have HDO : Calls Try.prog 11 #[.pointer (some ⟨p, 0, none⟩), .agg x.cells.toArray] V1 fun e w' => e = .returned (iv (doE M x)) ∧ ∃ M', PAfter V1 p M M' w' ∧ Hid (Did M x M') := do_is H1.out.1.pb.1 x HOK.out
        rw [hE] at HDO
        go_wp2_with fail
        refine HDO.mono ?_
        rintro e V2 ⟨rfl, M2, ha2, hd2⟩
        obtain ⟨ua, uc, hu0, _⟩ := H1.out.1.rp.u
        subst hu0
        obtain ⟨oa, oc, ho0, _⟩ := H1.out.1.rp.o
        subst ho0
        obtain ⟨fa, fc, hf0, _⟩ := H1.out.1.rp.f
        subst hf0
        obtain ⟨q, hq⟩ : ∃ q, rModel R x = q := ⟨_, rfl⟩
        obtain ⟨R2, E2⟩ := q
        have hst := H1.out.1.rel.step H1.out.1.pb.1.nd x hd2.out
        rw [hq, hE] at hst
        obtain ⟨hst1, hst2⟩ := hst
        have hst1 : E2 = E := hst1
        subst hst1
        have H2 : Hid (PB w.heap.size V2 p M2 ∧ Sh M2 ∧ Below w.heap.size w V2 ∧ Blk V2 g6 32 x.cells ∧ Blk V2 b4 30 [.slice ua R.U.length uc, .slice oa R.O.length oc, .slice fa R.F.length fc] ∧ RPt V2 (.slice ua R.U.length uc) (.slice oa R.O.length oc) (.slice fa R.F.length fc) R ∧ Rel M2 R2 ∧ b4 ∉ M2.bl p ∧ R2.F.length ≤ i + 1 ∧ R.F.length ≤ 990 ∧ w.heap.size ≤ b4) := by
          obtain ⟨h1, h2⟩ := ha2.toB H1.out.1.pb
          have hl := model_len R x
          rw [hq] at hl
          have hl : R2.F.length ≤ R.F.length + 1 := hl
          have h200 := HN2.out
          have hlen := H1.out.1.len
          refine ⟨h1, hd2.out.sh H1.out.1.sh HOK.out, H1.out.1.bw.trans h2, ha2.2.2.blk H1.out.2.1 H1.out.2.2.1, ha2.2.2.blk H1.out.1.blk H1.out.1.far, rp_far H1.out.1.rp H1.out.1.pb.1 ha2.2.2, hst2, fun e => ?_, by omega, by have := HQ.out; omega, H1.out.1.up⟩
          rcases ha2.2.1 b4 e with e | e
          · exact H1.out.1.far e
          · have := H1.out.1.blk.lt
            omega
        have HG : Hid (b4 < g6) := H1.out.2.2.2
        have HMD := rmodel_is H2.out.2.2.2.2.2.1 H2.out.2.2.2.2.2.2.2.2.2.1 x HOK.out
        rw [hq] at HMD
        clear HDO ha2 hd2 hst2 hq hE H1
        go_wp2_with (with_reducible change wpList _ _ _ ({ dst := some 29, op := _, type := _, pos := _, after := _, guard := _ } :: _) _ _; refine Hid.out ?_)
        show wpList _ _ _ _ _ _
        refine wpList_load_row rfl 30 (.tmp 4) rfl b4 rfl 30 #[.slice ua R.U.length uc, .slice oa R.O.length oc, .slice fa R.F.length fc] (0, 0) _ H2.out.2.2.2.2.1 Try.underlying30 rfl size30 ?_
        simp only [Act.put, List.setIfInBounds_toArray, List.set_cons_zero, List.set_cons_succ]
        go_wp2_with (with_reducible change wpList _ _ _ ({ dst := some 30, op := _, type := _, pos := _, after := _, guard := _ } :: _) _ _; refine Hid.out ?_)
        show wpList _ _ _ _ _ _
        refine wpList_load_want rfl 32 (.tmp 6) rfl g6 0 rfl x.cells _ (by have := H2.out.2.2.2.1.range 0 5; simpa [Av.cells] using this) Try.underlying32 rfl size32 ?_
        simp only [Act.put, List.setIfInBounds_toArray, List.set_cons_zero, List.set_cons_succ]
        go_wp2_with fail
        refine HMD.mono ?_
        rintro e V3 ⟨uv, ov, fv, rfl, HO⟩
        clear HMD
        go_wp2_with (with_reducible change wpList _ _ _ ({ dst := none, op := Op.store 30 _ _, type := _, pos := _, after := _, guard := _ } :: _) _ _; refine Hid.out ?_)
        show wpList _ _ _ _ _ _
        refine wpList_store_blk rfl 30 (.tmp 4) (.tmp 32) rfl b4 0 30 [.slice ua R.U.length uc, .slice oa R.O.length oc, .slice fa R.F.length fc] [uv, ov, fv] rfl rfl (H2.out.2.2.2.2.1.below HO.out.2 H2.out.2.2.2.2.1.lt) (by simp) size30 (three HO.out.1) ?_
        intro V4 hb4 hg4
        have H4 : Hid (PI w p b4 V4 M2 R2 uv ov fv (i + 1) ∧ Blk V4 g6 32 x.cells) := by
          have h := H2.out
          have hb3 := h.2.2.2.2.1.below HO.out.2 h.2.2.2.2.1.lt
          have hk : Keep (fun k => k = b4) V3 V4 := Keep.grown (S := fun k => k = b4) hg4.out rfl
          have hbw := below_tr h.2.2.1 HO.out.2
          refine ⟨⟨⟨(h.1.1.below HO.out.2).keep hk (fun k hk2 e => h.2.2.2.2.2.2.2.1 (by rw [← e]; exact hk2)), h.1.2.1, Nat.le_trans (Nat.le_trans h.1.2.2 HO.out.2.size) hk.size⟩, h.2.1, hbw.grown hg4.out hbw.size (fun j hj => by cases hj; exact h.2.2.2.2.2.2.2.2.2.2), by simpa using hb4.out, rp_other HO.out.1 hb3 hg4.out, h.2.2.2.2.2.2.1, h.2.2.2.2.2.2.2.2.1, h.2.2.2.2.2.2.2.1, h.2.2.2.2.2.2.2.2.2.2⟩, (h.2.2.2.1.below HO.out.2 h.2.2.2.1.lt).kept hg4.out (fun e => by have := HG.out; cases e; omega)⟩
        clear hb4 hg4 HO H2 HG
        obtain ⟨ua2, uc2, hu0, _⟩ := H4.out.1.rp.u
        subst hu0
        obtain ⟨oa2, oc2, ho0, _⟩ := H4.out.1.rp.o
        subst ho0
        obtain ⟨fa2, fc2, hf0, _⟩ := H4.out.1.rp.f
        subst hf0
        have HP : Hid (PAt V4 p M2 ∧ Sh M2) := ⟨H4.out.1.pb.1, H4.out.1.sh⟩
        have HRL : Hid (Rel M2 R2 ∧ Nd M2 ∧ R2.F.length ≤ 990) := ⟨H4.out.1.rel, H4.out.1.pb.1.nd, by have h1 := H4.out.1.len; have h2 := HN2.out; have h3 := HQ.out; omega⟩
        have HRP : Hid (RPt V4 (.slice ua2 R2.U.length uc2) (.slice oa2 R2.O.length oc2) (.slice fa2 R2.F.length fc2) R2) := H4.out.1.rp
        have HSU : Hid (StrAt V4 ua2 R2.U.length (usersL M2) ∧ StrAt V4 oa2 R2.O.length (orgsL M2)) := ⟨(sv_str H4.out.1.rp.u).cast H4.out.1.rel.U, (sv_str H4.out.1.rp.o).cast H4.out.1.rel.O⟩
        have HB4 : Hid (Blk V4 b4 30 [.slice ua2 R2.U.length uc2, .slice oa2 R2.O.length oc2, .slice fa2 R2.F.length fc2]) := H4.out.1.blk
        have HG6 : Hid (Blk V4 g6 32 x.cells) := H4.out.2
        simp only [Act.put, List.setIfInBounds_toArray, List.set_cons_zero, List.set_cons_succ]
        go_wp2_with fail
        refine pl10 HP HRL HRP HSU HB4 HG6 HOK ?_
        intro V5 a1 n1 c1 a2 n2 c2 a3 n3 c3 a4 n4 c4 a5 n5 c5 a6 n6 c6 a7 n7 c7 a8 n8 c8 hV5
        have HE : Hid (i + 1 ≤ n ∧ PI w p b4 V5 M2 R2 (.slice ua2 R2.U.length uc2) (.slice oa2 R2.O.length oc2) (.slice fa2 R2.F.length fc2) (i + 1)) := ⟨HQ.out, H4.out.1.below hV5⟩
        clear hV5 H4 HP HRL HRP HSU HB4 HG6
        go_wp2
        go_roundw
        case rel => exact ⟨i + 1, M2, R2, _, _, _, by simp, HE.out⟩
        case measure =>
          have := HQ.out
          simp only [intOf]
          omega
end Go.Proofs.Ytfickhhfhdhcbaa.Oct
