/-
  Layer 2 (hash): the state behind a block.
-/
import Derived.Test.YtjeahlfmapacfaaDoorRot
import Derived.Deep.QuietTactic
import Derived.BigQuiet
import Derived.WalkSmall
namespace Go.Proofs.YtjeahlfmapacfaaDoor.Oct
open Go.RowKit Sha

/-- the table k, as the program lays it -/
def KT (w : World) : Prop := 2 < w.heap.size ∧ ∀ t, t < 64 → w.cell? ⟨2, t, none⟩ = some (.int .u32 ((kTab.getD t 0).toNat : Int))
theorem KT.below {w w' : World} (h : KT w) (hb : Below w.heap.size w w') : KT w' := ⟨Nat.lt_of_lt_of_le h.1 hb.size, fun t ht => (hb.cell (p := ⟨2, t, none⟩) h.1).trans (h.2 t ht)⟩

/-- words as cells -/
def V (l : List UInt32) : List Value := l.map fun x => Value.int .u32 (x.toNat : Int)
theorem V_length (l : List UInt32) : (V l).length = l.length := by simp [V]
theorem V_get (l : List UInt32) (i : Nat) (h : i < l.length) : (V l)[i]? = some (.int .u32 ((l.getD i 0).toNat : Int)) := by simp [V, h]

theorem addm (x y : UInt32) : ((x.toNat : Int) + (y.toNat : Int)) % 4294967296 = ((x + y).toNat : Int) := by
  rw [UInt32.toNat_add]; omega
theorem not_eq (x : UInt32) : bits BinOp.xor IntKind.u32 IntKind.u32.max (x.toNat : Int) = ((~~~x).toNat : Int) := by
  have h : IntKind.u32.max = ((0xffffffff : UInt32).toNat : Int) := by decide
  rw [h, xor_eq]
  congr 2

/-- three new blocks -/
theorem three (w : World) (A B C : Obj) (W0 : World) (h : ((w.alloc A).alloc B).alloc C = W0) : W0.heap[w.heap.size]? = some A ∧ W0.heap[w.heap.size + 1]? = some B ∧ W0.heap[w.heap.size + 1 + 1]? = some C ∧ Below w.heap.size w W0 := by
  subst h
  have e : (w.alloc A).heap.size = w.heap.size + 1 := by simp
  have e2 : ((w.alloc A).alloc B).heap.size = w.heap.size + 1 + 1 := by simp
  refine ⟨?_, ?_, ?_, (((Below.refl _ _).alloc (Nat.le_refl _) _).alloc (by simp) _).alloc (by simp; omega) _⟩
  · rw [Below.heap_alloc _ _ _ (by rw [e2]; omega), Below.heap_alloc _ _ _ (by rw [e]; omega)]; exact heap_alloc_new w A
  · rw [Below.heap_alloc _ _ _ (by rw [e2]; omega), ← e]; exact heap_alloc_new _ B
  · rw [← e2]; exact heap_alloc_new _ C

theorem cell_at {w : World} {b i : Nat} {C : Array Value} {t : TypeId} {v : Value} (h : w.heap[b]? = some (.cells C t (0, 0))) (hv : C[i]? = some v) : w.cell? ⟨b, i, none⟩ = some v := by
  rw [cell_of_row w b i C t (0, 0) h]; exact hv
theorem free_at {w : World} {b : Nat} (i : Nat) {C : Array Value} {t : TypeId} (h : w.heap[b]? = some (.cells C t (0, 0))) : w.frozen? ⟨b, i, none⟩ = false := frozen_of_row w b i C t h

set_option maxHeartbeats 1000000 in
set_option maxRecDepth 100000 in
theorem after_is (s : St) (W : List UInt32) (X : Array Value) (hW : W.length = 64) (hX : X = (V W).toArray) (w : World) (hk : KT w) :
    Calls Tryd.prog 62 #[.agg #[.int .u32 (s.a.toNat : Int), .int .u32 (s.b.toNat : Int), .int .u32 (s.c.toNat : Int), .int .u32 (s.d.toNat : Int), .int .u32 (s.e.toNat : Int), .int .u32 (s.f.toNat : Int), .int .u32 (s.g.toNat : Int), .int .u32 (s.h.toNat : Int)], .agg X] w
      fun e w' => e = .returned (.agg #[.int .u32 ((after s W).a.toNat : Int), .int .u32 ((after s W).b.toNat : Int), .int .u32 ((after s W).c.toNat : Int), .int .u32 ((after s W).d.toNat : Int), .int .u32 ((after s W).e.toNat : Int), .int .u32 ((after s W).f.toNat : Int), .int .u32 ((after s W).g.toNat : Int), .int .u32 ((after s W).h.toNat : Int)]) ∧ Below w.heap.size w w' := by
  have HX : Hid (X = (V W).toArray) := hX
  have HK : Hid (KT w) := hk
  clear hX hk
  go_enter Tryd.func62, Tryd.ntmps62
  go_wp2_with fail
  generalize hW0 : ((w.alloc (Obj.cells #[Value.int IntKind.u32 (s.a.toNat : Int), Value.int IntKind.u32 (s.b.toNat : Int), Value.int IntKind.u32 (s.c.toNat : Int), Value.int IntKind.u32 (s.d.toNat : Int), Value.int IntKind.u32 (s.e.toNat : Int), Value.int IntKind.u32 (s.f.toNat : Int), Value.int IntKind.u32 (s.g.toNat : Int), Value.int IntKind.u32 (s.h.toNat : Int)] 104)).alloc (Obj.cells X 108)).alloc (Obj.cells #[Value.int IntKind.u32 0, Value.int IntKind.u32 0, Value.int IntKind.u32 0, Value.int IntKind.u32 0, Value.int IntKind.u32 0, Value.int IntKind.u32 0, Value.int IntKind.u32 0, Value.int IntKind.u32 0] 104) = W0
  obtain ⟨hA, hB, hC, hbw⟩ := three _ _ _ _ _ hW0
  have HBW : Hid (Below w.heap.size w W0) := hbw
  have HKW : Hid (KT W0) := HK.out.below hbw
  have HC1 : Hid (∀ t, t < 64 → W0.cell? ⟨w.heap.size + 1, t, none⟩ = some (.int .u32 ((W.getD t 0).toNat : Int))) := by
    intro t ht
    refine cell_at hB ?_
    rw [HX.out, List.getElem?_toArray]
    exact V_get W t (by omega)
  have a0 : W0.cell? ⟨w.heap.size, 0, none⟩ = some (.int .u32 (s.a.toNat : Int)) := cell_at hA rfl
  have a1 : W0.cell? ⟨w.heap.size, 1, none⟩ = some (.int .u32 (s.b.toNat : Int)) := cell_at hA rfl
  have a2 : W0.cell? ⟨w.heap.size, 2, none⟩ = some (.int .u32 (s.c.toNat : Int)) := cell_at hA rfl
  have a3 : W0.cell? ⟨w.heap.size, 3, none⟩ = some (.int .u32 (s.d.toNat : Int)) := cell_at hA rfl
  have a4 : W0.cell? ⟨w.heap.size, 4, none⟩ = some (.int .u32 (s.e.toNat : Int)) := cell_at hA rfl
  have a5 : W0.cell? ⟨w.heap.size, 5, none⟩ = some (.int .u32 (s.f.toNat : Int)) := cell_at hA rfl
  have a6 : W0.cell? ⟨w.heap.size, 6, none⟩ = some (.int .u32 (s.g.toNat : Int)) := cell_at hA rfl
  have a7 : W0.cell? ⟨w.heap.size, 7, none⟩ = some (.int .u32 (s.h.toNat : Int)) := cell_at hA rfl
  have HBLK : Hid (W0.heap[w.heap.size + 1 + 1]? = some (.cells #[.int .u32 0, .int .u32 0, .int .u32 0, .int .u32 0, .int .u32 0, .int .u32 0, .int .u32 0, .int .u32 0] 104 (0, 0))) := hC
  clear hA hB hC hbw
  clear hW0
  go_quiet (fail)
  go_wp2_with fail
  go_loopw [5, 6, 7, 8, 9, 10, 11, 12, 32] (fun va vb vc vd ve vf vg vh i wr => ∃ (t nn : Nat) (r : St), i = .int .i64 t ∧ t ≤ 64 ∧ wr = W0.drewN nn ∧ va = .int .u32 (r.a.toNat : Int) ∧ vb = .int .u32 (r.b.toNat : Int) ∧ vc = .int .u32 (r.c.toNat : Int) ∧ vd = .int .u32 (r.d.toNat : Int) ∧ ve = .int .u32 (r.e.toNat : Int) ∧ vf = .int .u32 (r.f.toNat : Int) ∧ vg = .int .u32 (r.g.toNat : Int) ∧ vh = .int .u32 (r.h.toNat : Int) ∧ Hid (r = rounds s W t))
    (fun _ _ _ _ _ _ _ _ i _ => 64 - (intOf i).toNat)
  case atStart => exact ⟨0, _, s, rfl, by omega, rfl, rfl, rfl, rfl, rfl, rfl, rfl, rfl, rfl, rfl⟩
  case round =>
    obtain ⟨t, nn, r, rfl, ht, rfl, rfl, rfl, rfl, rfl, rfl, rfl, rfl, rfl, hr⟩ := hrel
    by_cases hlt : t = 64
    · have q1 : (64 : Int) ≤ (t : Int) := by omega
      clear hlt
      have z0 := cell_at (i := 0) HBLK.out rfl
      have z1 := cell_at (i := 1) HBLK.out rfl
      have z2 := cell_at (i := 2) HBLK.out rfl
      have z3 := cell_at (i := 3) HBLK.out rfl
      have z4 := cell_at (i := 4) HBLK.out rfl
      have z5 := cell_at (i := 5) HBLK.out rfl
      have z6 := cell_at (i := 6) HBLK.out rfl
      have z7 := cell_at (i := 7) HBLK.out rfl
      have f0 := free_at 0 HBLK.out
      have f1 := free_at 1 HBLK.out
      have f2 := free_at 2 HBLK.out
      have f3 := free_at 3 HBLK.out
      have f4 := free_at 4 HBLK.out
      have f5 := free_at 5 HBLK.out
      have f6 := free_at 6 HBLK.out
      have f7 := free_at 7 HBLK.out
      go_wp2_with fail
      have HR : Hid (r = rounds s W 64) := by have e : t = 64 := by omega
                                              rw [← e]; exact hr.out
      have hs : after s W = s.plus r := by unfold after; rw [HR.out]
      rw [hs]
      refine bodyPost_ret (v := .agg #[.int .u32 ((s.plus r).a.toNat : Int), .int .u32 ((s.plus r).b.toNat : Int), .int .u32 ((s.plus r).c.toNat : Int), .int .u32 ((s.plus r).d.toNat : Int), .int .u32 ((s.plus r).e.toNat : Int), .int .u32 ((s.plus r).f.toNat : Int), .int .u32 ((s.plus r).g.toNat : Int), .int .u32 ((s.plus r).h.toNat : Int)]) ?_ rfl ⟨rfl, ?_⟩
      · simp only [St.plus, ← addm]
        simp [results, Tryd.results62, go_sem, z0, z1, z2, z3, z4, z5, z6, z7]
      · have hbig : w.heap.size ≤ w.heap.size + 1 + 1 := by omega
        exact ((((((((below_drewN HBW.out nn).setCell hbig _).setCell hbig _).setCell hbig _).setCell hbig _).setCell hbig _).setCell hbig _).setCell hbig _).setCell hbig _
    · clear a0 a1 a2 a3 a4 a5 a6 a7
      have q1 : (t : Int) < 64 := by omega
      obtain ⟨kt, hkt⟩ : ∃ kt, kt = kTab.getD t 0 := ⟨_, rfl⟩
      obtain ⟨wt, hwt⟩ : ∃ wt, wt = W.getD t 0 := ⟨_, rfl⟩
      have hc1 : W0.cell? ⟨2, t, none⟩ = some (.int .u32 (kt.toNat : Int)) := by rw [hkt]; exact HKW.out.2 t (by omega)
      have hc2 : W0.cell? ⟨w.heap.size + 1, t, none⟩ = some (.int .u32 (wt.toNat : Int)) := by rw [hwt]; exact HC1.out t (by omega)
      have HE : Hid (rounds s W (t + 1) = rnd r kt wt) := by show _ = _; rw [rounds, ← hr.out, hkt, hwt]
      clear hlt hkt hwt hr
      go_wp2_with fail
      go_region_held (fun w' => w'.cell? ⟨2, t, none⟩ = some (.int .u32 (kt.toNat : Int)) ∧ w'.cell? ⟨w.heap.size + 1, t, none⟩ = some (.int .u32 (wt.toNat : Int))) (simp [*])
        (first
        | (go_at_call 74; refine (turns_is r.e 6 11 25 _ (by omega) (by omega) (by omega) (by omega) (by omega) (by omega)).mono ?_; rintro e w1 ⟨rfl, rfl⟩))
      clear hc1 hc2
      go_wp2_with fail
      refine (turns_is r.a 2 13 22 _ (by omega) (by omega) (by omega) (by omega) (by omega) (by omega)).mono ?_
      rintro e w1 ⟨rfl, rfl⟩
      go_wp2
      go_roundw
      case rel =>
        refine ⟨t + 1, _, rnd r kt wt, by go_num, by omega, rfl, ?_, rfl, rfl, rfl, ?_, rfl, rfl, rfl, HE.out.symm⟩
        · simp only [addm, xor_eq, and_eq, not_eq]; rfl
        · simp only [addm, xor_eq, and_eq, not_eq]; rfl
      case measure => simp [intOf]; omega

#print axioms after_is
end Go.Proofs.YtjeahlfmapacfaaDoor.Oct
