/-
  Layer 9 (names): the law NamesParts: one range over the parts.
-/
import Derived.Test.YthhdogokigpieaaPartsBase
namespace Go.Proofs.Ythhdogokigpieaa.Oct
open Go.RowKit Go.Shelf
attribute [local go_sem] Oper.semAt_some

/-- between two rounds -/
def RInv (w W8 : World) (s : ByteArray) (stop : Int) (N g c b K B8 : Nat) (k : Int) (t : Nat) (A : World) : Prop := Boxed A B8 3 (.int .i64 (t : Int)) ∧ Stay w s stop N g c b K k A ∧ Below B8 W8 A
def RLeft (w W8 : World) (s : ByteArray) (stop : Int) (N g c b K B8 : Nat) (k : Int) (cd : Code) (A : World) : Prop := cd = .exit 2 ∧ k = 0 ∧ (∃ m : Nat, stop = (m : Int)) ∧ Boxed A B8 3 (.int .i64 stop) ∧ Stay w s stop N g c b K k A ∧ Below B8 W8 A

set_option maxRecDepth 100000 in
set_option maxHeartbeats 8000000 in
theorem parts_range {Q : Exit → Act → World → Prop} {x0 x1 x2 x6 x9 x10 x11 x12 x13 x14 x15 x16 x17 x18 x19 x20 x21 x22 x23 x24 x25 x26 x27 x28 x29 x30 x32 x33 x34 x35 x36 x37 x38 x39 x40 x41 x42 x43 x44 x45 x46 x47 x48 x49 x50 x51 x52 x53 x54 x55 x56 x57 x58 x59 x60 x61 x62 x63 x64 x65 x66 x67 x68 x69 x70 x71 x72 x73 x74 x75 x76 x77 x78 x79 x80 x81 x82 x83 x84 x85 x86 x87 x88 x89 x90 x91 x92 x93 x94 : Value} {ds : List Deferred} {w W8 : World} {s : ByteArray} {stop : Int} {N g c b K B8 : Nat} {k : Int}
    (hk : k = 0 ∨ k = 1) (hN : (pcs s).length = N) (hN8 : (N : Int) ≤ 8) (hn : s.size ≤ 140737488355328) (hD : Stay w s stop N g c b K k W8) (hB8 : Boxed W8 B8 3 (.int .i64 0)) (hS8 : W8.heap.size = B8 + 1) (hgb : g < b) (hwb : w.heap.size + 2 < b) (hbK : b < K) (hKB : K < B8)
    (hQ : ∀ e W, (e = .normal ∨ e = .exit 2) → (∃ v : Int, Boxed W B8 3 (.int .i64 v) ∧ (v = (N : Int) ∨ (k = 0 ∧ v = stop ∧ ∃ m : Nat, stop = (m : Int)))) → Stay w s stop N g c b K k W → Below B8 W8 W → W8.heap.size + 1 ≤ W.heap.size → W.heap[W8.heap.size]? = some (.deferred (some [])) →
      Q e { tmps := #[x0, x1, x2, .pointer (some ⟨w.heap.size, 0, none⟩), .pointer (some ⟨w.heap.size + 1, 0, none⟩), .pointer (some ⟨w.heap.size + 1 + 1, 0, none⟩), x6, .pointer (some ⟨K, 0, none⟩), .pointer (some ⟨B8, 0, none⟩), x9, x10, x11, x12, x13, x14, x15, x16, x17, x18, x19, x20, x21, x22, x23, x24, x25, x26, x27, x28, x29, x30, .func (.func 30) #[] #[.pointer (some ⟨b, 0, none⟩)], x32, x33, x34, x35, x36, x37, x38, x39, x40, x41, x42, x43, x44, x45, x46, x47, x48, x49, x50, x51, x52, x53, x54, x55, x56, x57, x58, x59, x60, x61, x62, x63, x64, x65, x66, x67, x68, x69, x70, x71, x72, x73, x74, x75, x76, x77, x78, x79, x80, x81, x82, x83, x84, x85, x86, x87, x88, x89, x90, x91, x92, x93, x94], defers := { target := .collected W8.heap.size, args := #[] } :: ds } W) :
    (Code.rangeFunc (Operand.tmp 31) #[32, 33] ((Code.region 14 #[{ dst := some 9, op := Op.assign (Operand.tmp 32), type := 3, pos := "law.go:38", after := #[], guard := none }] false).seq (Code.region 15 #[{ dst := some 10, op := Op.assign (Operand.tmp 33), type := 9, pos := "law.go:38", after := #[], guard := none }] false)) (Code.block 3 (((Code.region 16 #[{ dst := some 34, op := Op.move (Operand.tmp 9), type := 3, pos := "law.go:39", after := #[], guard := none }, { dst := some 35, op := Op.load 3 (Operand.tmp 8), type := 3, pos := "law.go:39", after := #[], guard := none }, { dst := some 36, op := Op.binOp BinOp.neq 3 (Operand.tmp 34) (Operand.tmp 35) 3, type := 4, pos := "law.go:39", after := #[{ on := 0, ground := Ground.data }, { on := 1, ground := Ground.data }], guard := none }, { dst := some 37, op := Op.move (Operand.tmp 36), type := 4, pos := "law.go:39", after := #[{ on := 2, ground := Ground.data }], guard := none }, { dst := some 38, op := Op.load 3 (Operand.tmp 8), type := 3, pos := "law.go:39", after := #[{ on := 3, ground := Ground.guard }], guard := some (3, false) }, { dst := some 39, op := Op.load 24 (Operand.tmp 5), type := 24, pos := "law.go:39", after := #[{ on := 3, ground := Ground.guard }], guard := some (3, false) }, { dst := some 40, op := Op.call { callee := Callee.builtin Builtin.len, args := #[Operand.tmp 39], argTypes := #[24] }, type := 3, pos := "law.go:39", after := #[{ on := 5, ground := Ground.data }, { on := 3, ground := Ground.guard }], guard := some (3, false) }, { dst := some 41, op := Op.binOp BinOp.geq 3 (Operand.tmp 38) (Operand.tmp 40) 3, type := 4, pos := "law.go:39", after := #[{ on := 4, ground := Ground.data }, { on := 6, ground := Ground.data }, { on := 3, ground := Ground.guard }], guard := some (3, false) }, { dst := some 42, op := Op.pick (Operand.tmp 37) (Operand.const (Value.bool true)) (Operand.tmp 41), type := 4, pos := "law.go:39", after := #[{ on := 3, ground := Ground.data }, { on := 7, ground := Ground.data }], guard := none }, { dst := some 43, op := Op.move (Operand.tmp 42), type := 4, pos := "law.go:39", after := #[{ on := 8, ground := Ground.data }, { on := 3, ground := Ground.chain }], guard := none }, { dst := some 44, op := Op.move (Operand.tmp 10), type := 9, pos := "law.go:39", after := #[{ on := 9, ground := Ground.guard }], guard := some (9, false) }, { dst := some 45, op := Op.load 24 (Operand.tmp 5), type := 24, pos := "law.go:39", after := #[{ on := 9, ground := Ground.guard }], guard := some (9, false) }, { dst := some 46, op := Op.load 3 (Operand.tmp 8), type := 3, pos := "law.go:39", after := #[{ on := 9, ground := Ground.guard }], guard := some (9, false) }, { dst := some 47, op := Op.indexAddr 24 (Operand.tmp 45) (Operand.tmp 46), type := 0, pos := "law.go:39", after := #[{ on := 11, ground := Ground.data }, { on := 12, ground := Ground.data }, { on := 9, ground := Ground.guard }], guard := some (9, false) }, { dst := some 48, op := Op.load 9 (Operand.tmp 47), type := 9, pos := "law.go:39", after := #[{ on := 13, ground := Ground.data }, { on := 9, ground := Ground.guard }], guard := some (9, false) }, { dst := some 49, op := Op.binOp BinOp.neq 9 (Operand.tmp 44) (Operand.tmp 48) 9, type := 4, pos := "law.go:39", after := #[{ on := 10, ground := Ground.data }, { on := 14, ground := Ground.data }, { on := 9, ground := Ground.guard }], guard := some (9, false) }, { dst := some 50, op := Op.pick (Operand.tmp 43) (Operand.const (Value.bool true)) (Operand.tmp 49), type := 4, pos := "law.go:39", after := #[{ on := 9, ground := Ground.data }, { on := 15, ground := Ground.data }], guard := none }] false).seq (Code.cond (Operand.tmp 50) ((Code.region 17 #[{ dst := none, op := Op.store 4 (Operand.tmp 4) (Operand.const (Value.bool false)), type := 0, pos := "law.go:40", after := #[], guard := none }] false).seq Code.ret) Code.skip)).seq ((Code.region 18 #[{ dst := some 51, op := Op.load 3 (Operand.tmp 8), type := 3, pos := "law.go:42", after := #[], guard := none }, { dst := some 52, op := Op.binOp BinOp.add 3 (Operand.tmp 51) (Operand.const (Value.int IntKind.i64 1)) 3, type := 3, pos := "law.go:42", after := #[{ on := 0, ground := Ground.data }], guard := none }, { dst := none, op := Op.store 3 (Operand.tmp 8) (Operand.tmp 52), type := 0, pos := "law.go:42", after := #[{ on := 1, ground := Ground.data }, { on := 0, ground := Ground.phase }, { on := 1, ground := Ground.phase }], guard := none }] false).seq ((Code.region 19 #[{ dst := some 53, op := Op.load 3 (Operand.tmp 7), type := 3, pos := "law.go:43", after := #[], guard := none }, { dst := some 54, op := Op.binOp BinOp.eql 3 (Operand.tmp 53) (Operand.const (Value.int IntKind.i64 0)) 3, type := 4, pos := "law.go:43", after := #[{ on := 0, ground := Ground.data }], guard := none }, { dst := some 55, op := Op.move (Operand.tmp 54), type := 4, pos := "law.go:43", after := #[{ on := 1, ground := Ground.data }], guard := none }, { dst := some 56, op := Op.load 3 (Operand.tmp 8), type := 3, pos := "law.go:43", after := #[{ on := 2, ground := Ground.guard }], guard := some (2, true) }, { dst := some 57, op := Op.load 3 (Operand.tmp 3), type := 3, pos := "law.go:43", after := #[{ on := 2, ground := Ground.guard }], guard := some (2, true) }, { dst := some 58, op := Op.binOp BinOp.eql 3 (Operand.tmp 56) (Operand.tmp 57) 3, type := 4, pos := "law.go:43", after := #[{ on := 3, ground := Ground.data }, { on := 4, ground := Ground.data }, { on := 2, ground := Ground.guard }], guard := some (2, true) }, { dst := some 59, op := Op.pick (Operand.tmp 55) (Operand.tmp 58) (Operand.const (Value.bool false)), type := 4, pos := "law.go:43", after := #[{ on := 2, ground := Ground.data }, { on := 5, ground := Ground.data }], guard := none }] false).seq (Code.cond (Operand.tmp 59) (Code.exit 2) Code.skip)))))).wpIn Fence.wide 3 Try.prog Q { tmps := #[x0, x1, x2, .pointer (some ⟨w.heap.size, 0, none⟩), .pointer (some ⟨w.heap.size + 1, 0, none⟩), .pointer (some ⟨w.heap.size + 1 + 1, 0, none⟩), x6, .pointer (some ⟨K, 0, none⟩), .pointer (some ⟨B8, 0, none⟩), x9, x10, x11, x12, x13, x14, x15, x16, x17, x18, x19, x20, x21, x22, x23, x24, x25, x26, x27, x28, x29, x30, .func (.func 30) #[] #[.pointer (some ⟨b, 0, none⟩)], x32, x33, x34, x35, x36, x37, x38, x39, x40, x41, x42, x43, x44, x45, x46, x47, x48, x49, x50, x51, x52, x53, x54, x55, x56, x57, x58, x59, x60, x61, x62, x63, x64, x65, x66, x67, x68, x69, x70, x71, x72, x73, x74, x75, x76, x77, x78, x79, x80, x81, x82, x83, x84, x85, x86, x87, x88, x89, x90, x91, x92, x93, x94], defers := ds } W8 := by
  have HNN : Hid ((pcs s).length = N) := hN
  have HN7 : Hid (s.size ≤ 140737488355328) := hn
  have hbB : b < B8 := by omega
  refine rangeLeave (gf := 30) (lb := #[.pointer (some ⟨b, 0, none⟩)]) rfl (enters_of Try.func30 (by kernel_rfl) rfl) encP (fun _ _ => rfl) (pcs s)
    (RInv w W8 s stop N g c b K B8 k) (RLeft w W8 s stop N g c b K B8 k) ?hI ?hIx ⟨hB8, hD, Below.refl _ _⟩
    (fun t x => { tmps := #[x0, x1, x2, .pointer (some ⟨w.heap.size, 0, none⟩), .pointer (some ⟨w.heap.size + 1, 0, none⟩), .pointer (some ⟨w.heap.size + 1 + 1, 0, none⟩), x6, .pointer (some ⟨K, 0, none⟩), .pointer (some ⟨B8, 0, none⟩), .int .i64 (t : Int), .string x, x11, x12, x13, x14, x15, x16, x17, x18, x19, x20, x21, x22, x23, x24, x25, x26, x27, x28, x29, x30, .func (.func 30) #[] #[.pointer (some ⟨b, 0, none⟩)], .int .i64 (t : Int), .string x, x34, x35, x36, x37, x38, x39, x40, x41, x42, x43, x44, x45, x46, x47, x48, x49, x50, x51, x52, x53, x54, x55, x56, x57, x58, x59, x60, x61, x62, x63, x64, x65, x66, x67, x68, x69, x70, x71, x72, x73, x74, x75, x76, x77, x78, x79, x80, x81, x82, x83, x84, x85, x86, x87, x88, x89, x90, x91, x92, x93, x94], defers := [] }) ?assign ?body ?iter ?done ?stop
  case hI =>
    rintro t A B ⟨h1, h2, h3⟩ hb
    rw [hS8] at hb
    exact ⟨(hb.block _ (by omega)).trans h1, h2.below hb (by omega) (by omega) (by omega) (by omega), h3.trans (hb.mono (by omega))⟩
  case hIx =>
    rintro cd A B ⟨h1, h2, h3, h4, h5, h6⟩ hb
    rw [hS8] at hb
    exact ⟨h1, h2, h3, (hb.block _ (by omega)).trans h4, h5.below hb (by omega) (by omega) (by omega) (by omega), h6.trans (hb.mono (by omega))⟩
  case assign =>
    intro t x A Kx hK
    dsimp only [encP]
    gi_wp2
    exact hK
  case body =>
    rintro t x A ⟨h1, h2, h3⟩ hx hlt
    have htN : t < N := by rw [← hN]; exact (List.getElem?_eq_some_iff.1 hx).1
    have q1 : (t : Int) < (N : Int) := by omega
    have q2 : ¬ (N : Int) ≤ (t : Int) := by omega
    have cn := h1.cell
    have fn' := h1.frozen
    have cw := h2.wa.cell
    have ck := h2.kk.cell
    have cs := h2.st.cell
    have ce := h2.el t x hx
    have exx : (x.toList == x.toList) = true := by simp
    have HI : Hid (RInv w W8 s stop N g c b K B8 k t A) := ⟨h1, h2, h3⟩
    have HK : Hid (K < B8 ∧ b < B8 ∧ g < B8 ∧ w.heap.size + 2 < B8) := ⟨hKB, hbB, by omega, by omega⟩
    have HS8 : Hid (W8.heap.size = B8 + 1) := hS8
    clear hx h1 h2 h3 hlt hQ hD hB8
    rcases hk with rfl | rfl
    · by_cases hst : (t : Int) + 1 = stop
      · have e1 : (((t : Int) + 1) == stop) = true := by simpa using hst
        subst hst
        gi_wp2
        obtain ⟨h1, h2, h3⟩ := HI.out
        obtain ⟨k1, k2, k3, k4⟩ := HK.out
        exact ⟨⟨rfl, rfl, ⟨t + 1, by simp⟩, h1.set _, h2.set B8 _ k4 k3 k2 k1, h3.setCell (p := ⟨B8, 0, none⟩) (Nat.le_refl _) _⟩, Held.setCell A B8 (by omega) _⟩
      · have e1 : (((t : Int) + 1) == stop) = false := by simpa using hst
        gi_wp2
        obtain ⟨h1, h2, h3⟩ := HI.out
        obtain ⟨k1, k2, k3, k4⟩ := HK.out
        exact ⟨⟨by rw [show ((t + 1 : Nat) : Int) = (t : Int) + 1 by simp]; exact h1.set _, h2.set B8 _ k4 k3 k2 k1, h3.setCell (p := ⟨B8, 0, none⟩) (Nat.le_refl _) _⟩, Held.setCell A B8 (by omega) _⟩
    · gi_wp2
      obtain ⟨h1, h2, h3⟩ := HI.out
      obtain ⟨k1, k2, k3, k4⟩ := HK.out
      exact ⟨⟨by rw [show ((t + 1 : Nat) : Int) = (t : Int) + 1 by simp]; exact h1.set _, h2.set B8 _ k4 k3 k2 k1, h3.setCell (p := ⟨B8, 0, none⟩) (Nat.le_refl _) _⟩, Held.setCell A B8 (by omega) _⟩
  case iter =>
    intro J Jx W hS hB hJb hJxb hJI hY h0
    refine pieces1_in _ _ _ s hn J Jx (fun t A k hj => hJb t A _ hj (below_drewN _ A k)) (fun t x A hj hx => (hY t x A hj hx).mono (fun e B h => h.2)) W ?_ h0
    exact Boxed.cell (t := 9) ((hB.block _ (by omega)).trans hD.each)
  case done =>
    rintro W ⟨h1, h2, h3⟩ hK
    refine hQ _ W (.inl rfl) ⟨_, h1, .inl (by rw [hN])⟩ h2 h3 ?_ hK
    exact (Array.getElem?_eq_some_iff.1 hK).1
  case stop =>
    rintro cd W ⟨rfl, h2, h3, h4, h5, h6⟩ hK
    clear hS8
    gi_wp2
    refine hQ _ W (.inr rfl) ⟨_, h4, .inr ⟨h2, rfl, h3⟩⟩ h5 h6 ?_ hK
    exact (Array.getElem?_eq_some_iff.1 hK).1
#print axioms parts_range
end Go.Proofs.Ythhdogokigpieaa.Oct
