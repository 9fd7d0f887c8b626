/-
  Layer 16 (token): TokenNone: its arguments; a byte turned.
-/
import Derived.Test.YtjeahlfmapacfaaDoorPnt
import Derived.Deep.Slices
import Derived.ProofKit
import Derived.SizedLaws
import Derived.ChangeSame
import Derived.OpenShut
import Derived.ShutString
import Derived.ChangeOld
import Derived.Deep.RegionHeld
import Derived.Deep.MidRow
namespace Go.Proofs.YtjeahlfmapacfaaDoor.Oct
open Go.RowKit Go.ChangeShapes Go.WideShapes Go.ChangeAt Go.Deep Sha
set_option maxRecDepth 100000
set_option linter.unusedSimpArgs false
set_option linter.unusedVariables false

structure Sl where
  a : Option Addr
  n : Nat
  c : Nat
def Txt (w : World) (f : Sl) (l : List UInt8) : Prop := In w f.a f.n f.c l
theorem len2 {α : Type} {l : List α} (h : l.length = 2) : ∃ a0 a1, l = [a0, a1] := by
  match l, h with
  | [a0, a1], _ => exact ⟨a0, a1, rfl⟩
section
variable {H : Type} {enc : TypeId × Value → H} {w : World}
theorem fld_strs {n : Nat} {cs : List Value} {x : DataW H × List MemPlace} (h : DataW.trod enc Tryd.prog w 0 (fun _ => true) true n 22 cs = some x) (hx : ∀ k ∈ x.1.weights Tryd.prog 22, k ≤ reachBytes) :
    ∃ (f : Sl) (l : List UInt8), cs = [.slice f.a f.n f.c] ∧ Txt w f l := by
  have h' := h
  rcases open_slice Tryd.underlying22 h with ⟨hcs, _⟩ | ⟨ad, l, c, m, k, D, Pl, hcs, _, hl, hm, hmm, hd, hr⟩
  · exact ⟨⟨none, 0, 0⟩, [], hcs, In.nil w⟩
  · subst hcs
    have h2 : DataW.trod enc Tryd.prog w 0 (fun _ => true) true n 22 (Value.slice (some ad) l c).cells.toList = some (x.1, x.2) := h'
    obtain ⟨bs, hbs, _⟩ := view_bytes Tryd.underlying22 Tryd.underlying5 (by kernel_rfl) h2
    have hw : (l + (m - l)) * 1 ∈ x.1.weights Tryd.prog 22 := by
      rw [hd]
      simp only [DataW.weights, Tryd.underlying22]
      rw [show Tryd.prog.bytesOf 5 = 1 by kernel_rfl]
      simp
    have hsz := hx _ hw
    simp only [reachBytes] at hsz
    exact ⟨⟨some ad, l, c⟩, bs, rfl, hbs.toIn (by omega)⟩
theorem cells_books {fuel : Nat} {cs : List Value} {x : DataW H × List MemPlace} (h : DataW.trod enc Tryd.prog w 0 (fun _ => true) true fuel 51 cs = some x) (hx : ∀ k ∈ x.1.weights Tryd.prog 51, k ≤ reachBytes) :
    ∃ (f0 : Sl) (l0 : List UInt8) (f1 : Sl) (l1 : List UInt8), cs = [.slice f0.a f0.n f0.c] ++ ([.slice f1.a f1.n f1.c]) ∧ Txt w f0 l0 ∧ Txt w f1 l1 := by
  obtain ⟨ys, k, hk, hxy, hcl, hxl, hf⟩ := DataW.trod_struct Tryd.underlying51 h
  have hcl' : cs.length = 2 := by rw [hcl]; kernel_rfl
  have hxl' : ys.length = 2 := hxl
  obtain ⟨y0, y1, rfl⟩ := len2 hxl'
  have g0 := hf 0 _ rfl
  change DataW.trod enc Tryd.prog w 0 _ true k 22 ((cs.drop 0).take (Tryd.prog.cellsOf 22)) = some y0 at g0
  rw [show Tryd.prog.cellsOf 22 = 1 by kernel_rfl] at g0
  have w0 : ∀ q ∈ y0.1.weights Tryd.prog 22, q ≤ reachBytes := fun q hq => hx q (by
    rw [show x.1 = DataW.agg [y0.1, y1.1] from congrArg Prod.fst hxy]
    simp only [DataW.weights, Tryd.underlying51, DataW.weightsEach, List.map, List.mem_append]
    exact .inl hq)
  obtain ⟨f0, l0, e0, b0⟩ := fld_strs g0 w0
  have g1 := hf 1 _ rfl
  change DataW.trod enc Tryd.prog w 0 _ true k 22 ((cs.drop 1).take (Tryd.prog.cellsOf 22)) = some y1 at g1
  rw [show Tryd.prog.cellsOf 22 = 1 by kernel_rfl] at g1
  have w1 : ∀ q ∈ y1.1.weights Tryd.prog 22, q ≤ reachBytes := fun q hq => hx q (by
    rw [show x.1 = DataW.agg [y0.1, y1.1] from congrArg Prod.fst hxy]
    simp only [DataW.weights, Tryd.underlying51, DataW.weightsEach, List.map, List.mem_append]
    exact .inr (.inl hq))
  obtain ⟨f1, l1, e1, b1⟩ := fld_strs g1 w1
  refine ⟨f0, l0, f1, l1, ?_, b0, b1⟩
  refine (show cs = cs.drop 0 from rfl).trans ?_
  rw [cut_at cs 0 1 1 rfl, e0]
  refine congrArg (fun z : List Value => ([.slice f0.a f0.n f0.c] : List Value) ++ z) ?_
  rw [cut_last cs 1 1 hcl', e1]
/-- two secrets, told -/
structure BooksV where
  f : Sl
  g : Sl
def BooksV.cells (q : BooksV) : List Value := [.slice q.f.a q.f.n q.f.c, .slice q.g.a q.g.n q.g.c]
def BooksV.at (q : BooksV) (w : World) : Prop := (∃ l, Txt w q.f l) ∧ ∃ l, Txt w q.g l
theorem view_books {fuel : Nat} {xs : Array Value} {x : DataW H × List MemPlace} (h : DataW.trod enc Tryd.prog w 0 (fun _ => true) true fuel 51 (Value.agg xs).cells.toList = some x) (hw : ∀ n ∈ x.1.weights Tryd.prog 51, n ≤ reachBytes) :
    ∃ q : BooksV, xs = q.cells.toArray ∧ q.at w := by
  obtain ⟨f0, l0, f1, l1, e, b0, b1⟩ := cells_books h hw
  refine ⟨⟨f0, f1⟩, ?_, ⟨l0, b0⟩, l1, b1⟩
  have e' : xs.toList = BooksV.cells ⟨f0, f1⟩ := by simpa [Value.cells, BooksV.cells] using e
  rw [← e']
end
#print axioms view_books
theorem xor1f : ∀ x : Fin 256, bits BinOp.xor IntKind.u8 (x.val : Int) 1 = (((UInt8.ofNat x.val) ^^^ 1).toNat : Int) := by decide +kernel
theorem xor1 (c : UInt8) : bits BinOp.xor IntKind.u8 (c.toNat : Int) 1 = ((c ^^^ 1).toNat : Int) := by
  have := xor1f ⟨c.toNat, c.toNat_lt⟩
  simpa using this
theorem xor1_nef : ∀ x : Fin 256, (UInt8.ofNat x.val) ^^^ 1 ≠ UInt8.ofNat x.val := by decide +kernel
theorem xor1_ne (c : UInt8) : c ^^^ 1 ≠ c := by
  have := xor1_nef ⟨c.toNat, c.toNat_lt⟩
  simpa using this
/-- '[]byte(s)', whose bytes may be written -/
theorem label_free (w : World) (s : BA) (hsz : s.size ≤ 140737488355328) :
    ∃ cap W, (convert 9 22 (.string s)).run Tryd.prog w = .ok (.slice (some ⟨w.heap.size, 0, none⟩) s.size cap) W ∧ Hid (In W (some ⟨w.heap.size, 0, none⟩) s.size cap s.data.toList) ∧ Hid (∀ j, j < s.size → W.frozen? ⟨w.heap.size, j, none⟩ = false) ∧ Hid (Below w.heap.size w W) := by
  have hge := grownCap_ge w s.size 0 5
  have h1 := run_bytes_of_string (P := Tryd.prog) w 9 22 5 s Tryd.underlying9 Tryd.underlying22 Tryd.underlying5
  obtain ⟨cap, W, h2, h3, _, h4, _⟩ := label_made (P := Tryd.prog) w 9 22 5 s Tryd.underlying9 Tryd.underlying22 Tryd.underlying5 hsz
  rw [h1] at h2
  cases h2
  refine ⟨_, _, h1, h3, fun j hj => ?_, h4⟩
  have e2 := World.frozen?_alloc_mark w.drew (bytesRow s (grownCap w s.size 0 5)) 5 (bytesRow s (grownCap w s.size 0 5)).size ((bytesRow s (grownCap w s.size 0 5)).size + 1) j
  refine e2.trans ?_
  have hb := bytesRow_size s (grownCap w s.size 0 5) hge
  rw [hb]
  simp
  omega
theorem in_set {w : World} {b n c i : Nat} {l : List UInt8} (h : In w (some ⟨b, 0, none⟩) n c l) (hi : i < n) (x : UInt8) : In (w.setCell ⟨b, i, none⟩ (bv (x.toNat : Int))) (some ⟨b, 0, none⟩) n c (l.set i x) := by
  have hg : w.grownBy (w.setCell ⟨b, i, none⟩ (bv (x.toNat : Int))) (some b) := grown_setCell _ _ _ _
  refine ⟨by rw [List.length_set]; exact h.1, h.2.1, h.2.2.1, h.2.2.2.1, fun hp => ?_⟩
  obtain ⟨b', off, e1, e2, e3⟩ := h.2.2.2.2 hp
  cases e1
  refine ⟨b, 0, rfl, Nat.lt_of_lt_of_le e2 hg.size, fun j cc hcc => ?_⟩
  rw [List.getElem?_set] at hcc
  split at hcc
  · rename_i hij
    subst hij
    rw [if_pos (by rw [h.1]; exact hi)] at hcc
    cases hcc
    obtain ⟨c0, hc0⟩ : ∃ c0, l[i]? = some c0 := ⟨_, List.getElem?_eq_getElem (by rw [h.1]; exact hi)⟩
    have := e3 i c0 hc0
    rw [Nat.zero_add] at this ⊢
    exact World.cell?_setCell_same' w _ _ (by rw [this]; rfl)
  · rename_i hij
    have hne : (⟨b, i, none⟩ : Addr) ≠ ⟨b, 0 + j, none⟩ := by intro e; simp only [Addr.mk.injEq, true_and, and_true] at e; omega
    exact (World.cell?_setCell_other w _ _ _ hne).trans (e3 j cc hcc)
theorem set_ne {l : List UInt8} {i : Nat} {c : UInt8} (h : l[i]? = some c) : l.set i (c ^^^ 1) ≠ l := by
  intro e
  have h1 : (l.set i (c ^^^ 1))[i]? = some (c ^^^ 1) := by
    rw [List.getElem?_set, if_pos rfl, if_pos (List.getElem?_eq_some_iff.1 h).1]
  rw [e, h] at h1
  exact xor1_ne c (Option.some.inj h1).symm
set_option maxRecDepth 100000 in
set_option maxHeartbeats 4000000 in
theorem no1 {Q : Exit → Act → World → Prop} {x0 x1 x2 x4 x5 x6 x7 x8 x9 x10 x11 x12 x13 x14 x15 x16 x17 x18 x19 x20 x21 x22 x23 x24 x25 x26 x27 x28 x29 x30 x31 x32 x33 x34 x35 x36 x37 x38 x39 x40 x41 x42 x43 x44 x45 x46 x47 x48 x49 x50 x51 x52 x53 x54 x55 x56 x57 x58 x59 x60 x61 x62 x63 x64 x65 x66 x67 x68 x69 x70 x71 x72 x73 x74 x75 x76 x77 x78 x79 x80 x81 x82 x83 x84 x85 x86 x87 x88 x89 x90 x91 x92 x93 x94 x95 x96 x97 x98 x99 x100 x101 x102 x103 x104 x105 x106 x107 x108 x109 x110 x111 x112 x113 x114 x115 x116 x117 x118 x119 x120 x121 x122 x123 x124 x125 x126 x127 x128 x129 x130 x131 x132 : Value} {ds : List Deferred} {A : World} {d : Nat} {sa sb : Value}
    (HL : Hid (d < A.heap.size)) (c0 : A.cell? ⟨d, 0, none⟩ = some sa) (c1 : A.cell? ⟨d, 1, none⟩ = some sb)
    (hQ : ∀ V1, Below A.heap.size A V1 → Q .normal { tmps := #[x0, x1, x2, .pointer (some ⟨d, 0, none⟩), x4, x5, x6, sa, sb, x9, x10, x11, x12, x13, x14, x15, x16, x17, x18, x19, .pointer (some ⟨d, 0, none⟩), sa, .pointer (some ⟨d, 1, none⟩), sb, x24, x25, x26, x27, x28, x29, x30, x31, x32, x33, x34, x35, x36, x37, x38, x39, x40, x41, x42, x43, x44, x45, x46, x47, x48, x49, x50, x51, x52, x53, x54, x55, x56, x57, x58, x59, x60, x61, x62, x63, x64, x65, x66, x67, x68, x69, x70, x71, x72, x73, x74, x75, x76, x77, x78, x79, x80, x81, x82, x83, x84, x85, x86, x87, x88, x89, x90, x91, x92, x93, x94, x95, x96, x97, x98, x99, x100, x101, x102, x103, x104, x105, x106, x107, x108, x109, x110, x111, x112, x113, x114, x115, x116, x117, x118, x119, x120, x121, x122, x123, x124, x125, x126, x127, x128, x129, x130, x131, x132], defers := ds } V1) :
    (Code.region 1 #[{ dst := some 20, op := Op.fieldAddr 51 (Operand.tmp 3) 0, type := 0, pos := "law.go:131", after := #[], guard := none }, { dst := some 21, op := Op.load 22 (Operand.tmp 20), type := 22, pos := "law.go:131", after := #[{ on := 0, ground := Ground.data }], guard := none }, { dst := some 22, op := Op.fieldAddr 51 (Operand.tmp 3) 1, type := 0, pos := "law.go:131", after := #[{ on := 4, ground := Ground.gcOnly Departure.lateStores }], guard := none }, { dst := some 23, op := Op.load 22 (Operand.tmp 22), type := 22, pos := "law.go:131", after := #[{ on := 2, ground := Ground.data }, { on := 4, ground := Ground.gcOnly Departure.lateStores }], guard := none }, { dst := some 7, op := Op.assign (Operand.tmp 21), type := 22, pos := "law.go:131", after := #[{ on := 1, ground := Ground.data }, { on := 0, ground := Ground.phase }, { on := 1, ground := Ground.phase }, { on := 2, ground := Ground.textOnly Departure.lateStores }, { on := 3, ground := Ground.textOnly Departure.lateStores }], guard := none }, { dst := some 8, op := Op.assign (Operand.tmp 23), type := 22, pos := "law.go:131", after := #[{ on := 3, ground := Ground.data }, { on := 4, ground := Ground.chain }, { on := 0, ground := Ground.phase }, { on := 1, ground := Ground.phase }, { on := 2, ground := Ground.phase }, { on := 3, ground := Ground.phase }, { on := 4, ground := Ground.phase }], guard := none }] true).wp Tryd.prog Q { tmps := #[x0, x1, x2, .pointer (some ⟨d, 0, none⟩), x4, x5, x6, x7, x8, x9, x10, x11, x12, x13, x14, x15, x16, x17, x18, x19, x20, x21, x22, x23, x24, x25, x26, x27, x28, x29, x30, x31, x32, x33, x34, x35, x36, x37, x38, x39, x40, x41, x42, x43, x44, x45, x46, x47, x48, x49, x50, x51, x52, x53, x54, x55, x56, x57, x58, x59, x60, x61, x62, x63, x64, x65, x66, x67, x68, x69, x70, x71, x72, x73, x74, x75, x76, x77, x78, x79, x80, x81, x82, x83, x84, x85, x86, x87, x88, x89, x90, x91, x92, x93, x94, x95, x96, x97, x98, x99, x100, x101, x102, x103, x104, x105, x106, x107, x108, x109, x110, x111, x112, x113, x114, x115, x116, x117, x118, x119, x120, x121, x122, x123, x124, x125, x126, x127, x128, x129, x130, x131, x132], defers := ds } A := by
  refine Code.wp_mono (Q := fun x a' w' => match x with | .normal => Q .normal a' w' | _ => False) (by intro x a' w' h; cases x <;> first | exact h | exact h.elim) ?_
  refine wp_region_held (S := fun V => Below A.heap.size A V) (by kernel_rfl) ?_
  have hS0 : Hid (Below A.heap.size A A.drew) := below_drew0 A
  change wpAnyH Tryd.prog .any _ _ (fun V => Below A.heap.size A V) 6 (Array.replicate 6 false) _ A.drew
  obtain ⟨V0, hV0⟩ : ∃ V0, A.drew = V0 := ⟨_, rfl⟩
  rw [hV0]
  rw [hV0] at hS0
  clear hV0
  refine wpAnyH_take (i := 0) (oi := { dst := some 20, op := Op.fieldAddr 51 (Operand.tmp 3) 0, type := 0, pos := "law.go:131", after := #[], guard := none }) (v := .pointer (some ⟨d, 0, none⟩)) rfl (by kernel_rfl) (by kernel_rfl) (by kernel_rfl) (fun _ _ _ h => h.elim) (Or.inl ⟨by rfl, ?y1⟩) hS0.out ?_
  case y1 =>
    intro V hV
    go_simp
  simp only [Act.put, List.setIfInBounds_toArray, List.set_cons_zero, List.set_cons_succ]
  refine wpAnyH_take (i := 1) (oi := { dst := some 21, op := Op.load 22 (Operand.tmp 20), type := 22, pos := "law.go:131", after := #[{ on := 0, ground := Ground.data }], guard := none }) (v := sa) rfl (by kernel_rfl) (by kernel_rfl) (by kernel_rfl) (fun _ _ _ h => h.elim) (Or.inl ⟨by rfl, ?y2⟩) hS0.out ?_
  case y2 =>
    intro V hV
    have hc : V.cell? ⟨d, 0, none⟩ = some (sa) := ((show Below A.heap.size A V from hV).cell (p := ⟨d, 0, none⟩) HL.out).trans c0
    go_simp
  simp only [Act.put, List.setIfInBounds_toArray, List.set_cons_zero, List.set_cons_succ]
  refine wpAnyH_take (i := 2) (oi := { dst := some 22, op := Op.fieldAddr 51 (Operand.tmp 3) 1, type := 0, pos := "law.go:131", after := #[{ on := 4, ground := Ground.gcOnly Departure.lateStores }], guard := none }) (v := .pointer (some ⟨d, 1, none⟩)) rfl (by kernel_rfl) (by kernel_rfl) (by kernel_rfl) (fun _ _ _ h => h.elim) (Or.inl ⟨by rfl, ?y3⟩) hS0.out ?_
  case y3 =>
    intro V hV
    go_simp
  simp only [Act.put, List.setIfInBounds_toArray, List.set_cons_zero, List.set_cons_succ]
  refine wpAnyH_take (i := 3) (oi := { dst := some 23, op := Op.load 22 (Operand.tmp 22), type := 22, pos := "law.go:131", after := #[{ on := 2, ground := Ground.data }, { on := 4, ground := Ground.gcOnly Departure.lateStores }], guard := none }) (v := sb) rfl (by kernel_rfl) (by kernel_rfl) (by kernel_rfl) (fun _ _ _ h => h.elim) (Or.inl ⟨by rfl, ?y4⟩) hS0.out ?_
  case y4 =>
    intro V hV
    have hc : V.cell? ⟨d, 1, none⟩ = some (sb) := ((show Below A.heap.size A V from hV).cell (p := ⟨d, 1, none⟩) HL.out).trans c1
    go_simp
  simp only [Act.put, List.setIfInBounds_toArray, List.set_cons_zero, List.set_cons_succ]
  refine wpAnyH_take (i := 4) (oi := { dst := some 7, op := Op.assign (Operand.tmp 21), type := 22, pos := "law.go:131", after := #[{ on := 1, ground := Ground.data }, { on := 0, ground := Ground.phase }, { on := 1, ground := Ground.phase }, { on := 2, ground := Ground.textOnly Departure.lateStores }, { on := 3, ground := Ground.textOnly Departure.lateStores }], guard := none }) (v := sa) rfl (by kernel_rfl) (by kernel_rfl) (by kernel_rfl) (fun _ _ _ h => h.elim) (Or.inl ⟨by rfl, ?y5⟩) hS0.out ?_
  case y5 =>
    intro V hV
    go_simp
  simp only [Act.put, List.setIfInBounds_toArray, List.set_cons_zero, List.set_cons_succ]
  refine wpAnyH_take (i := 5) (oi := { dst := some 8, op := Op.assign (Operand.tmp 23), type := 22, pos := "law.go:131", after := #[{ on := 3, ground := Ground.data }, { on := 4, ground := Ground.chain }, { on := 0, ground := Ground.phase }, { on := 1, ground := Ground.phase }, { on := 2, ground := Ground.phase }, { on := 3, ground := Ground.phase }, { on := 4, ground := Ground.phase }], guard := none }) (v := sb) rfl (by kernel_rfl) (by kernel_rfl) (by kernel_rfl) (fun _ _ _ h => h.elim) (Or.inl ⟨by rfl, ?y6⟩) hS0.out ?_
  case y6 =>
    intro V hV
    go_simp
  simp only [Act.put, List.setIfInBounds_toArray, List.set_cons_zero, List.set_cons_succ]
  refine wpAnyH_done (by kernel_rfl) ?_ _
  exact hQ V0 hS0.out
#print axioms no1
end Go.Proofs.YtjeahlfmapacfaaDoor.Oct
