/-
  Layer 2 (hash): the words of a block.
-/
import Derived.Test.YtjeahlfmapacfaaDoorAfter
import Derived.Test.YtjeahlfmapacfaaDoorBlk
namespace Go.Proofs.YtjeahlfmapacfaaDoor.Oct
open Go.RowKit Sha

/-- so many words 0 -/
def zw (n : Nat) : List Value := List.replicate n (Value.int .u32 0)
theorem zw_length (n : Nat) : (zw n).length = n := by simp [zw]
theorem app_set (L : List UInt32) (n t : Nat) (x : UInt32) (ht : t = L.length) (hn : n + 1 = 64 - t) : (V L ++ zw (64 - t)).set t (.int .u32 (x.toNat : Int)) = V (L ++ [x]) ++ zw (64 - (t + 1)) := by
  subst ht
  rw [← hn, show 64 - (L.length + 1) = n by omega, List.set_append_right _ _ (by rw [V_length]; exact Nat.le_refl _), V_length, Nat.sub_self]
  simp [V, zw, List.replicate_succ]

theorem word_eq {x0 x1 x2 x3 : Nat} (h0 : x0 < 256) (h1 : x1 < 256) (h2 : x2 < 256) (h3 : x3 < 256) :
    bits BinOp.or IntKind.u32 (bits BinOp.or IntKind.u32 (bits BinOp.or IntKind.u32 ((x0 : Int) * 16777216) ((x1 : Int) * 65536)) ((x2 : Int) * 256)) (x3 : Int) = ((UInt32.ofNat (x0 * 16777216 + x1 * 65536 + x2 * 256 + x3)).toNat : Int) := by
  have e0 : (x0 : Int) * 16777216 = ((x0 * 16777216 : Nat) : Int) := by omega
  have e1 : (x1 : Int) * 65536 = ((x1 * 65536 : Nat) : Int) := by omega
  have e2 : (x2 : Int) * 256 = ((x2 * 256 : Nat) : Int) := by omega
  have o1 : x0 * 16777216 ||| x1 * 65536 = x0 * 16777216 + x1 * 65536 := by
    have := Nat.two_pow_add_eq_or_of_lt (i := 24) (b := x1 * 65536) (by omega) x0
    rw [Nat.mul_comm] at this; exact this.symm
  have o2 : (x0 * 16777216 + x1 * 65536) ||| x2 * 256 = x0 * 16777216 + x1 * 65536 + x2 * 256 := by
    have := Nat.two_pow_add_eq_or_of_lt (i := 16) (b := x2 * 256) (by omega) (x0 * 256 + x1)
    rw [show 2 ^ 16 * (x0 * 256 + x1) = x0 * 16777216 + x1 * 65536 by omega] at this; exact this.symm
  have o3 : (x0 * 16777216 + x1 * 65536 + x2 * 256) ||| x3 = x0 * 16777216 + x1 * 65536 + x2 * 256 + x3 := by
    have := Nat.two_pow_add_eq_or_of_lt (i := 8) (b := x3) (by omega) (x0 * 65536 + x1 * 256 + x2)
    rw [show 2 ^ 8 * (x0 * 65536 + x1 * 256 + x2) = x0 * 16777216 + x1 * 65536 + x2 * 256 by omega] at this; exact this.symm
  rw [e0, e1, e2, u32_or_nat _ _ (by omega) (by omega), o1, u32_or_nat _ _ (by omega) (by omega), o2, u32_or_nat _ _ (by omega) (by omega), o3, toNat32 (by omega)]

/-- what the loops keep: the block's bytes, the result's place, the words so far -/
def WInv (w : World) (bs : List UInt8) (L : List Value) (wr : World) : Prop := Blk wr w.heap.size 85 (U bs) ∧ Blk wr (w.heap.size + 1) 108 (zw 64) ∧ Blk wr (w.heap.size + 1 + 1) 108 L ∧ Below w.heap.size w wr
theorem WInv.store {w wr : World} {bs : List UInt8} {L : List Value} (h : WInv w bs L wr) (t : Nat) (v : Value) : WInv w bs (L.set t v) (wr.setCell ⟨w.heap.size + 1 + 1, t, none⟩ v) :=
  ⟨h.1.other (by simp; omega) v, h.2.1.other (by simp) v, h.2.2.1.set t v, h.2.2.2.setCell (by simp; omega) v⟩
theorem WInv.draw {w wr : World} {bs : List UInt8} {L : List Value} (h : WInv w bs L wr) : WInv w bs L wr.drew := ⟨h.1, h.2.1, h.2.2.1, h.2.2.2.drew⟩
theorem WInv.drawN {w wr : World} {bs : List UInt8} {L : List Value} (h : WInv w bs L wr) (n : Nat) : WInv w bs L (wr.drewN n) := ⟨h.1, h.2.1, h.2.2.1, below_drewN h.2.2.2 n⟩

set_option maxHeartbeats 1000000 in
set_option maxRecDepth 100000 in
theorem wordsOf_is (bs : List UInt8) (Y : Array Value) (hb : bs.length = 64) (hY : Y = (U bs).toArray) (w : World) :
    Calls Tryd.prog 63 #[.agg Y] w fun e w' => e = .returned (.agg (V (wordsOf bs)).toArray) ∧ Below w.heap.size w w' := by
  have HY : Hid (Y = (U bs).toArray) := hY
  have HLB : Hid (bs.length = 64) := hb
  clear hY hb
  go_enter Tryd.func63, Tryd.ntmps63
  go_wp2_with fail
  go_loopw [6] (fun i wr => ∃ t : Nat, i = .int .i64 t ∧ t ≤ 16 ∧ Hid (WInv w bs (V (firstTo bs t) ++ zw (64 - t)) wr)) (fun i _ => 16 - (intOf i).toNat)
  case atStart =>
    obtain ⟨hA, hB, hC, hbw⟩ := three w _ _ _ _ rfl
    exact ⟨0, rfl, by omega, hA.trans (by rw [HY.out]), hB, hC, hbw⟩
  case round =>
    obtain ⟨t, rfl, ht, hr⟩ := hrel
    by_cases hlt : t = 16
    · have q1 : (16 : Int) ≤ (t : Int) := by omega
      subst hlt
      clear ht
      go_wp2_with fail
      go_loopw [5] (fun i wr => ∃ u : Nat, i = .int .i64 ((u : Int) + 16) ∧ u ≤ 48 ∧ Hid (WInv w bs (V (moreTo bs u) ++ zw (64 - (u + 16))) wr)) (fun i _ => 64 - (intOf i).toNat)
      case atStart => exact ⟨0, rfl, by omega, hr.out⟩
      case round =>
        clear hr
        obtain ⟨u, rfl, hu, hr⟩ := hrel
        by_cases hlt : u = 48
        · have q2 : (48 : Int) ≤ (u : Int) := by omega
          subst hlt
          have hsz : (Tryd.prog.info? 108).map (·.size) = some 64 := by kernel_rfl
          have HL : Hid ((V (moreTo bs 48)).length = 64) := by show _ = _; rw [V_length, moreTo_length]
          have HB2 : Hid (wr.heap[w.heap.size + 1 + 1]? = some (.cells (V (moreTo bs 48)).toArray 108 (0, 0))) := by
            have e := hr.out.2.2.1
            have ez : zw (64 - (48 + 16)) = [] := rfl
            rw [ez, List.append_nil] at e
            exact e
          clear q2
          go_wp2_with (first
            | (refine wpList_load_row rfl 108 (.tmp 3) rfl (w.heap.size + 1 + 1) rfl 108 (V (moreTo bs 48)).toArray (0, 0) _ HB2.out Tryd.underlying108 rfl (by rw [hsz, List.size_toArray, HL.out]) ?_)
            | (refine wpList_store_blk rfl 108 (.tmp 2) (.tmp 68) rfl (w.heap.size + 1) 0 108 (zw 64) (V (moreTo bs 48)) rfl rfl hr.out.2.1 (by rw [HL.out, zw_length]; omega) (by rw [hsz, HL.out]) ?_ ?_))
          · intro v hv
            simp only [V, List.mem_map] at hv
            obtain ⟨x, _, rfl⟩ := hv
            rfl
          · intro w9 hB9 hG9
            have HR : Hid (w9.heap[w.heap.size + 1]? = some (.cells (V (moreTo bs 48)).toArray 108 (0, 0))) := by
              have e := hB9.out
              rw [List.drop_eq_nil_of_le (by rw [zw_length, HL.out]; omega), List.append_nil] at e
              exact e
            go_wp2
            refine bodyPost_ret (v := .agg (V (moreTo bs 48)).toArray) (results_cell_row rfl _ _ (w.heap.size + 1) 108 _ (0, 0) _ rfl HR.out Tryd.underlying108 rfl (by rw [hsz, List.size_toArray, HL.out])) rfl ⟨rfl, ?_⟩
            exact hr.out.2.2.2.grown hG9.out hr.out.2.2.2.size (by intro k hk; simp at hk; omega)
        · have q2 : (u : Int) < 48 := by omega
          have HL : Hid ((moreTo bs u).length = u + 16) := by show _ = _; rw [moreTo_length]; omega
          obtain ⟨y0, h0⟩ : ∃ y, y = (moreTo bs u).getD (u + 14) 0 := ⟨_, rfl⟩
          obtain ⟨y1, h1⟩ : ∃ y, y = (moreTo bs u).getD (u + 9) 0 := ⟨_, rfl⟩
          obtain ⟨y2, h2⟩ : ∃ y, y = (moreTo bs u).getD (u + 1) 0 := ⟨_, rfl⟩
          obtain ⟨y3, h3⟩ : ∃ y, y = (moreTo bs u).getD u 0 := ⟨_, rfl⟩
          have gb : ∀ i, i < u + 16 → wr.cell? ⟨w.heap.size + 1 + 1, i, none⟩ = some (.int .u32 (((moreTo bs u).getD i 0).toNat : Int)) := by
            intro i hi
            refine hr.out.2.2.1.cell ?_
            rw [List.getElem?_append_left (by rw [V_length, HL.out]; exact hi)]
            exact V_get _ i (by rw [HL.out]; exact hi)
          have c0 : wr.cell? ⟨w.heap.size + 1 + 1, u + 14, none⟩ = some (.int .u32 (y0.toNat : Int)) := by rw [h0]; exact gb _ (by omega)
          have c1 : wr.cell? ⟨w.heap.size + 1 + 1, u + 9, none⟩ = some (.int .u32 (y1.toNat : Int)) := by rw [h1]; exact gb _ (by omega)
          have c2 : wr.cell? ⟨w.heap.size + 1 + 1, u + 1, none⟩ = some (.int .u32 (y2.toNat : Int)) := by rw [h2]; exact gb _ (by omega)
          have c3 : wr.cell? ⟨w.heap.size + 1 + 1, u, none⟩ = some (.int .u32 (y3.toNat : Int)) := by rw [h3]; exact gb _ (by omega)
          have c4 : wr.cell? ⟨w.heap.size + 1 + 1, u + 16, none⟩ = some (.int .u32 0) := by
            refine hr.out.2.2.1.cell ?_
            rw [List.getElem?_append_right (by rw [V_length, HL.out]; exact Nat.le_refl _), V_length, HL.out, Nat.sub_self, zw, List.getElem?_replicate, if_pos (by omega)]
          have c5 : wr.frozen? ⟨w.heap.size + 1 + 1, u + 16, none⟩ = false := hr.out.2.2.1.free _
          have HN : Hid (next (moreTo bs u) = spread y0 17 19 10 + y1 + spread y2 7 18 3 + y3) := by
            show _ = _; unfold next; rw [HL.out, show u + 16 - 2 = u + 14 by omega, show u + 16 - 7 = u + 9 by omega, show u + 16 - 15 = u + 1 by omega, show u + 16 - 16 = u by omega, h0, h1, h2, h3]
          have k2 : IntKind.i64.wrap ((u : Int) + 16 - 2) = (u : Int) + 14 := by rw [IntKind.wrap_i64]; omega
          have r2 : (0 : Int) ≤ (u : Int) + 14 := by omega
          have s2 : (u : Int) + 14 < 64 := by omega
          have v2 : ((u : Int) + 14).toNat = u + 14 := by omega
          have k7 : IntKind.i64.wrap ((u : Int) + 16 - 7) = (u : Int) + 9 := by rw [IntKind.wrap_i64]; omega
          have r7 : (0 : Int) ≤ (u : Int) + 9 := by omega
          have s7 : (u : Int) + 9 < 64 := by omega
          have v7 : ((u : Int) + 9).toNat = u + 9 := by omega
          have k15 : IntKind.i64.wrap ((u : Int) + 16 - 15) = (u : Int) + 1 := by rw [IntKind.wrap_i64]; omega
          have r15 : (0 : Int) ≤ (u : Int) + 1 := by omega
          have s15 : (u : Int) + 1 < 64 := by omega
          have v15 : ((u : Int) + 1).toNat = u + 1 := by omega
          have k16 : IntKind.i64.wrap (u : Int) = (u : Int) := by rw [IntKind.wrap_i64]; omega
          have s16 : (u : Int) < 64 := by omega
          have s0 : (u : Int) + 16 < 64 := by omega
          have p0 : (0 : Int) ≤ (u : Int) + 16 := by omega
          have v0 : ((u : Int) + 16).toNat = u + 16 := by omega
          clear gb h0 h1 h2 h3 hlt
          go_wp2_with fail
          go_region_held (fun w' => w'.cell? ⟨w.heap.size + 1 + 1, u + 14, none⟩ = some (.int .u32 (y0.toNat : Int)) ∧ w'.cell? ⟨w.heap.size + 1 + 1, u + 9, none⟩ = some (.int .u32 (y1.toNat : Int)) ∧ w'.cell? ⟨w.heap.size + 1 + 1, u + 1, none⟩ = some (.int .u32 (y2.toNat : Int)) ∧ w'.cell? ⟨w.heap.size + 1 + 1, u, none⟩ = some (.int .u32 (y3.toNat : Int))) (first | (simp [*]; done) | (refine ⟨?_, ?_, ?_, ?_⟩ <;> (rw [World.cell?_setCell_other _ _ _ _ (by simp)]; simp [*])))
            (first
            | (go_at_call_of 75 (Value.int IntKind.i64 17); refine (spread_is y0 17 19 10 _ (by omega) (by omega) (by omega) (by omega) (by omega) (by omega)).mono ?_; rintro e w1 ⟨rfl, n1, rfl⟩)
            | (go_at_call_of 75 (Value.int IntKind.i64 7); refine (spread_is y2 7 18 3 _ (by omega) (by omega) (by omega) (by omega) (by omega) (by omega)).mono ?_; rintro e w1 ⟨rfl, n1, rfl⟩))
          go_wp2
          go_roundw
          case rel =>
            rw [addm, addm, addm, ← HN.out]
            have st := fun n => (hr.out.drawN n).store (u + 16) (.int .u32 ((next (moreTo bs u)).toNat : Int))
            have ap := app_set (moreTo bs u) (63 - (u + 16)) (u + 16) (next (moreTo bs u)) HL.out.symm (by omega)
            rw [ap, show u + 16 + 1 = u + 1 + 16 by omega] at st
            (repeat apply Exists.intro)
            exact ⟨⟨u + 1, by go_num, by omega, st _⟩, rfl⟩
          case measure => simp [intOf]; omega
    · have q1 : (t : Int) < 16 := by omega
      have HT : Hid (t < 16) := by show t < 16; omega
      obtain ⟨x0, h0⟩ : ∃ x, x = (bs.getD (4 * t) 0).toNat := ⟨_, rfl⟩
      obtain ⟨x1, h1⟩ : ∃ x, x = (bs.getD (4 * t + 1) 0).toNat := ⟨_, rfl⟩
      obtain ⟨x2, h2⟩ : ∃ x, x = (bs.getD (4 * t + 2) 0).toNat := ⟨_, rfl⟩
      obtain ⟨x3, h3⟩ : ∃ x, x = (bs.getD (4 * t + 3) 0).toNat := ⟨_, rfl⟩
      have gb : ∀ i, i < 64 → wr.cell? ⟨w.heap.size, i, none⟩ = some (.int .u8 ((bs.getD i 0).toNat : Int)) := by
        intro i hi
        refine hr.out.1.cell ?_
        rw [U_get bs i (by have := HLB.out; omega)]
        simp [List.getD, show i < bs.length by have := HLB.out; omega]
      have c0 : wr.cell? ⟨w.heap.size, 4 * t, none⟩ = some (.int .u8 (x0 : Int)) := by rw [h0]; exact gb _ (by omega)
      have c1 : wr.cell? ⟨w.heap.size, 4 * t + 1, none⟩ = some (.int .u8 (x1 : Int)) := by rw [h1]; exact gb _ (by omega)
      have c2 : wr.cell? ⟨w.heap.size, 4 * t + 2, none⟩ = some (.int .u8 (x2 : Int)) := by rw [h2]; exact gb _ (by omega)
      have c3 : wr.cell? ⟨w.heap.size, 4 * t + 3, none⟩ = some (.int .u8 (x3 : Int)) := by rw [h3]; exact gb _ (by omega)
      have c4 : wr.cell? ⟨w.heap.size + 1 + 1, t, none⟩ = some (.int .u32 0) := by
        refine hr.out.2.2.1.cell ?_
        rw [List.getElem?_append_right (by rw [V_length, firstTo_length]; omega), V_length, firstTo_length, Nat.sub_self]
        rw [zw, List.getElem?_replicate, if_pos (by omega)]
      have c5 : wr.frozen? ⟨w.heap.size + 1 + 1, t, none⟩ = false := hr.out.2.2.1.free _
      have b0 : x0 < 256 := by rw [h0]; exact UInt8.toNat_lt _
      have b1 : x1 < 256 := by rw [h1]; exact UInt8.toNat_lt _
      have b2 : x2 < 256 := by rw [h2]; exact UInt8.toNat_lt _
      have b3 : x3 < 256 := by rw [h3]; exact UInt8.toNat_lt _
      have HWD : Hid (word bs t = UInt32.ofNat (x0 * 16777216 + x1 * 65536 + x2 * 256 + x3)) := by show _ = _; unfold word; rw [h0, h1, h2, h3]
      have q2 : (0 : Int) ≤ 4 * (t : Int) := by omega
      have q3 : 4 * (t : Int) < 64 := by omega
      have q4 : 4 * (t : Int) + 1 < 64 := by omega
      have q5 : 4 * (t : Int) + 2 < 64 := by omega
      have q6 : 4 * (t : Int) + 3 < 64 := by omega
      clear gb h0 h1 h2 h3 hlt
      go_wp2_with fail
      go_region
      go_wp2
      go_roundw
      case rel =>
        rw [word_eq b0 b1 b2 b3, ← HWD.out]
        refine ⟨t + 1, by go_num, by omega, ?_⟩
        have st := (hr.out.store t (.int .u32 ((word bs t).toNat : Int))).draw
        rw [app_set (firstTo bs t) (63 - t) t (word bs t) (firstTo_length bs t).symm (by omega)] at st
        exact st
      case measure => simp [intOf]; omega

#print axioms wordsOf_is
end Go.Proofs.YtjeahlfmapacfaaDoor.Oct
