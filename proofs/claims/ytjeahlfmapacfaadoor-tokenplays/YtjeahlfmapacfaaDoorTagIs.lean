/-
  Layer 3 (mac): the closure within 'Tag', and 'Tag'.
-/
import Derived.Test.YtjeahlfmapacfaaDoorBlockOf
namespace Go.Proofs.YtjeahlfmapacfaaDoor.Oct
open Go.RowKit Sha

theorem xored_take (B : List UInt8) (x : UInt8) (t : Nat) (ht : t < B.length) : xored (B.take (t + 1)) x = xored (B.take t) x ++ [B[t] ^^^ x] := by
  unfold xored
  rw [List.take_succ_eq_append_getElem ht, List.map_append]
  rfl
theorem xor8 (x c : UInt8) : bits BinOp.xor IntKind.u8 (x.toNat : Int) (c.toNat : Int) = ((x ^^^ c).toNat : Int) := by
  rw [u8_xor_nat _ _ x.toNat_lt c.toNat_lt, ← UInt8.toNat_xor]
theorem byte_set64 (L : List UInt8) (n t : Nat) (x : UInt8) (ht : t = L.length) (hn : n + 1 = 64 - t) : (U L ++ zb (64 - t)).set t (.int .u8 (x.toNat : Int)) = U (L ++ [x]) ++ zb (64 - (t + 1)) := by
  subst ht
  rw [← hn, show 64 - (L.length + 1) = n by omega, List.set_append_right _ _ (by rw [U_length]; exact Nat.le_refl _), U_length, Nat.sub_self]
  simp [U, zb, List.replicate_succ]
/-- what the loop keeps: the block of the result, the block that is filled -/
def DInv (w : World) (L : List Value) (wr : World) : Prop := Blk wr w.heap.size 67 (zb 32) ∧ Blk wr (w.heap.size + 1) 85 L ∧ Below w.heap.size w wr ∧ wr.heap.size = w.heap.size + 2
theorem new2 (w : World) (C1 C2 : Array Value) (t1 t2 : TypeId) : Blk ((w.alloc (.cells C1 t1)).alloc (.cells C2 t2)) w.heap.size t1 C1.toList ∧ Blk ((w.alloc (.cells C1 t1)).alloc (.cells C2 t2)) (w.heap.size + 1) t2 C2.toList ∧ Below w.heap.size w ((w.alloc (.cells C1 t1)).alloc (.cells C2 t2)) ∧ ((w.alloc (.cells C1 t1)).alloc (.cells C2 t2)).heap.size = w.heap.size + 2 := by
  refine ⟨(Blk.new w C1 t1).alloc _, ?_, ((Below.refl _ w).alloc (Nat.le_refl _) _).alloc (by simp) _, by simp⟩
  have e := Blk.new (w.alloc (.cells C1 t1)) C2 t2
  simpa using e

theorem index34 {C : Array Value} {v : Value} (t : Nat) (ht : t < 64) (h : C[t]? = some v) (W : World) : (Instr.index  85 (.agg C) (.int .i64 (t : Int))).run Tryd.prog W = .ok v W := by
  obtain ⟨i, hi, hsz⟩ := Option.map_eq_some_iff.1 size5
  have h1 : (0 : Int) ≤ (t : Int) ∧ (t : Int) < 64 := by omega
  simp [Instr.index, asIntOf, run_underlying Tryd.underlying85, h1, sizeOf, typeInfo, hi, hsz, part, isAgg, run_underlying Tryd.underlying5, h]
  intro h'
  omega

set_option maxHeartbeats 1000000 in
set_option maxRecDepth 100000 in
theorem digest_is (B l D : List UInt8) (x : UInt8) (hD : sum (xored B x ++ l) = D) (bb : Nat) (a : Option Addr) (n cp : Nat) (w : World) (hk : KT w) (hs : ST w) (hb : Blk w bb 85 (U B)) (hBl : B.length = 64) (hl : In w a n cp l) (hm : n ≤ 100000) :
    Calls Tryd.prog 45 #[.int .u8 (x.toNat : Int), .slice a n cp, .pointer (some ⟨bb, 0, none⟩)] w fun e w' => e = .returned (.agg (U D).toArray) ∧ Hid (Below w.heap.size w w') := by
  have HIN : Hid (In w a n cp l) := hl
  have HK : Hid (KT w) := hk
  have HS : Hid (ST w) := hs
  have HD : Hid (sum (xored B x ++ l) = D) := hD
  have HB : Hid (w.heap[bb]? = some (.cells (U B).toArray 85 (0, 0))) := hb
  have HBL : Hid (B.length = 64) := hBl
  have HUL : Hid ((U B).length = 64) := by show _ = _; rw [U_length]; exact hBl
  have HM : Hid (n ≤ 100000) := hm
  have HBB : Hid (bb < w.heap.size) := hb.lt
  have h34 := slice34
  clear hl hk hs hD hm hb hBl
  obtain ⟨C, hC⟩ : ∃ C, C = (U B).toArray := ⟨_, rfl⟩
  have HC : Hid (C = (U B).toArray) := hC
  have HCS : Hid (C.size = 64) := by show _ = _; rw [hC, List.size_toArray]; exact HUL.out
  rw [← hC] at HB
  have HCG : Hid (∀ t, t < 64 → C[t]? = some (.int .u8 ((B.getD t 0).toNat : Int))) := by
    intro t ht
    rw [hC, List.getElem?_toArray, U_get B t (by rw [HBL.out]; exact ht), List.getD_eq_getElem?_getD, List.getElem?_eq_getElem (by rw [HBL.out]; exact ht)]
    rfl
  clear hC
  go_enter Tryd.func45, Tryd.ntmps45
  go_wp2_with (first
    | (with_reducible change wpList _ _ _ ({ dst := some 10, op := _, type := _, pos := _, after := _, guard := _ } :: _) _ (World.alloc _ _)
       generalize hW : World.alloc (World.alloc w _) _ = W2
       have HALL : Hid (DInv w (zb 64) W2) := by subst hW; exact new2 w (zb 32).toArray (zb 64).toArray 67 85
       clear hW)
    | (with_reducible change wpList _ _ _ ({ dst := some 10, op := _, type := _, pos := _, after := _, guard := _ } :: _) _ _
       refine wpList_load_row rfl 85 (.tmp 2) rfl bb rfl 85 C (0, 0) _ ((HALL.out.2.2.1.block bb HBB.out).trans HB.out) Tryd.underlying85 rfl (by rw [size34, HCS.out]) ?_))
  go_loopw [11] (fun i wr => ∃ t : Nat, i = .int .i64 t ∧ t ≤ 64 ∧ Hid (DInv w (U (xored (B.take t) x) ++ zb (64 - t)) wr)) (fun i _ => 64 - (intOf i).toNat)
  case atStart =>
    exact ⟨0, rfl, by omega, HALL.out⟩
  case round =>
    obtain ⟨t, rfl, ht, hr⟩ := hrel
    by_cases hlt : t = 64
    · have q1 : (64 : Int) ≤ (t : Int) := by omega
      subst hlt
      have HB2 : Hid (Blk wr (w.heap.size + 1) 85 (U (xored B x))) := by
        have e := hr.out.2.1
        rw [List.take_of_length_le (by rw [HBL.out]; omega), Nat.sub_self, show zb 0 = [] from rfl, List.append_nil] at e
        exact e
      have HXL : Hid ((xored B x).length = 64) := by show _ = _; rw [xored_len, HBL.out]
      obtain ⟨X, hX⟩ : ∃ X, X = xored B x := ⟨_, rfl⟩
      rw [← hX] at HB2 HXL HD
      have HR : Hid (Blk wr w.heap.size 67 (zb 32)) := hr.out.1
      have HBW : Hid (Below w.heap.size w wr) := hr.out.2.2.1
      have HSZ : Hid (wr.heap.size = w.heap.size + 2) := hr.out.2.2.2
      clear hr hX HCG HCS HC HB HUL HALL q1
      have HIX : Hid (In wr (some ⟨w.heap.size + 1, 0, none⟩) 64 64 X) := by
        have e := in_blk HB2.out (by rw [HXL.out]; omega)
        rw [HXL.out] at e; exact e
      go_wp2_with fail
      refine (new_is wr (HS.out.below HBW.out)).mono ?_
      rintro e w2 ⟨rfl, hd2, hw2⟩
      have HD2 : Hid (Dig w2 wr.heap.size []) := hd2
      have HW2 : Hid (Below wr.heap.size wr w2) := hw2
      have HLT : Hid (wr.heap.size < w2.heap.size) := HD2.out.choose_spec.2.lt
      have HX2 : Hid (InX wr.heap.size w2 (some ⟨w.heap.size + 1, 0, none⟩) 64 64 X) := by
        refine ⟨HIX.out.below HW2.out, fun _ y e => ?_⟩
        have := Option.some.inj e
        subst this
        have := HSZ.out
        show w.heap.size + 1 ≠ _
        omega
      have HL2 : Hid (InX wr.heap.size w2 a n cp l) := by
        refine ⟨(HIN.out.below HBW.out).below HW2.out, fun hp y e => ?_⟩
        obtain ⟨b, off, e1, e2, -⟩ := HIN.out.2.2.2.2 hp
        rw [e1] at e
        have := Option.some.inj e
        subst this
        have := HSZ.out
        show b ≠ _
        omega
      have HK2 : Hid (KT w2) := (HK.out.below HBW.out).below HW2.out
      have HW1 : Hid (2 < w.heap.size) := HK.out.1
      clear hd2 hw2
      generalize wr.heap.size = d at *
      go_wp2_with fail
      refine (write_is d [] X _ 64 64 w2 HK2.out (by have := HW1.out; have := HSZ.out; omega) HD2.out HX2.out (by simp)).mono ?_
      rintro e w3 ⟨rfl, hd3, hg3⟩
      have HD3 : Hid (Dig w3 d X) := hd3
      have HG3 : Hid (w2.grownBy w3 (some d)) := hg3
      have HL3 : Hid (InX d w3 a n cp l) := HL2.out.grown hg3
      have HK3 : Hid (KT w3) := HK2.out.grown hg3 (by have := HW1.out; have := HSZ.out; omega)
      clear hd3 hg3
      go_wp2_with fail
      refine (write_is d X l a n cp w3 HK3.out (by have := HW1.out; have := HSZ.out; omega) HD3.out HL3.out (by have := HXL.out; have := HM.out; omega)).mono ?_
      rintro e w4 ⟨rfl, hd4, hg4⟩
      have HD4 : Hid (Dig w4 d (X ++ l)) := hd4
      have HG4 : Hid (w2.grownBy w4 (some d)) := grown_tr HG3.out hg4
      have HK4 : Hid (KT w4) := HK3.out.grown hg4 (by have := HW1.out; have := HSZ.out; omega)
      have HSL : Hid ((X ++ l).length < 900000000000) := by show _ < _; rw [List.length_append, HXL.out, HIN.out.1]; have := HM.out; omega
      clear hd4 hg4
      go_wp2_with fail
      refine (dsum_is d (X ++ l) w4 HK4.out HD4.out HSL.out).mono ?_
      rintro e w5 ⟨rfl, hw5⟩
      rw [HD.out]
      have HW5 : Hid (Below w4.heap.size w4 w5) := hw5
      have HDL : Hid ((U D).length = 32) := by show _ = _; rw [← HD.out, U_length, sum_length]
      have HR4 : Hid (Blk w4 w.heap.size 67 (zb 32)) := Blk.kept (HR.out.below HW2.out (by have := HSZ.out; omega)) HG4.out (by intro e; have := Option.some.inj e; have := HSZ.out; omega)
      have HR5 : Hid (Blk w5 w.heap.size 67 (zb 32)) := HR4.out.below HW5.out HR4.out.lt
      clear hw5
      go_wp2_with (first
        | (with_reducible change wpList _ _ _ ({ dst := none, op := Op.store 67 _ _, type := _, pos := _, after := _, guard := _ } :: _) _ _
           refine wpList_store_blk rfl 67 (.tmp 5) (.tmp 29) rfl w.heap.size 0 67 (zb 32) (U D) rfl rfl HR5.out (by rw [HDL.out, zb_length]; omega) (by rw [size25, HDL.out]) (U_one _) ?_
           intro w6 hB6 hG6))
      have HRR : Hid (w6.heap[w.heap.size]? = some (.cells (U D).toArray 67 (0, 0))) := by
        have e := hB6.out
        rw [List.drop_eq_nil_of_le (by rw [zb_length, HDL.out]; omega), List.append_nil] at e
        exact e
      refine bodyPost_ret (v := .agg (U D).toArray) (results_cell_row rfl _ _ w.heap.size 67 _ (0, 0) _ rfl HRR.out Tryd.underlying67 rfl (by rw [size25, List.size_toArray, HDL.out])) rfl ⟨rfl, ?_⟩
      have h1 := HSZ.out
      have h2 := HLT.out
      have h3 := HG4.out.size
      have h4 := HW5.out.size
      refine (((HBW.out.trans (HW2.out.mono (by omega))).grown HG4.out (by omega) ?_).trans (HW5.out.mono (by omega))).grown hG6.out (by omega) ?_
      · intro k hk; have := Option.some.inj hk; omega
      · intro k hk; have := Option.some.inj hk; omega
    · have q1 : (t : Int) < 64 := by omega
      have q2 : t < 64 := by omega
      obtain ⟨c, hc⟩ : ∃ c, c = B.getD t 0 := ⟨_, rfl⟩
      have hcell : C[t]? = some (.int .u8 (c.toNat : Int)) := by rw [hc]; exact HCG.out t q2
      have hget := index34 t q2 hcell
      have hx := xor8 c x
      have c4 : wr.cell? ⟨w.heap.size + 1, t, none⟩ = some (.int .u8 0) := by
        refine hr.out.2.1.cell ?_
        have hlx : (U (xored (B.take t) x)).length = t := by rw [U_length, xored_len, List.length_take, HBL.out]; omega
        rw [List.getElem?_append_right (by omega), hlx, Nat.sub_self, zb, List.getElem?_replicate, if_pos (by omega)]
      have c5 : wr.frozen? ⟨w.heap.size + 1, t, none⟩ = false := hr.out.2.1.free _
      have HX : Hid (c = B.getD t 0) := hc
      clear hc hlt hcell
      go_wp2_with fail
      go_roundw
      case rel =>
        refine ⟨t + 1, by go_num, by omega, ?_⟩
        have st : DInv w ((U (xored (B.take t) x) ++ zb (64 - t)).set t (.int .u8 ((c ^^^ x).toNat : Int))) (wr.setCell ⟨w.heap.size + 1, t, none⟩ (.int .u8 ((c ^^^ x).toNat : Int))) :=
          ⟨hr.out.1.other (by simp) _, hr.out.2.1.set t _, hr.out.2.2.1.setCell (by simp) _, by simpa using hr.out.2.2.2⟩
        have hlx : t = (xored (B.take t) x).length := by rw [xored_len, List.length_take, HBL.out]; omega
        rw [byte_set64 (xored (B.take t) x) (63 - t) t (c ^^^ x) hlx (by omega), HX.out, List.getD_eq_getElem?_getD, List.getElem?_eq_getElem (by rw [HBL.out]; exact q2), Option.getD_some, ← xored_take B x t (by rw [HBL.out]; exact q2)] at st
        rw [HX.out, List.getD_eq_getElem?_getD, List.getElem?_eq_getElem (by rw [HBL.out]; exact q2), Option.getD_some]
        exact st
      case measure => simp [intOf]; omega
#print axioms digest_is
end Go.Proofs.YtjeahlfmapacfaaDoor.Oct
