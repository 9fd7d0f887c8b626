/-
  Layer 2 (hash): a state's bytes.
-/
import Derived.Test.YtjeahlfmapacfaaDoorAfter
import Derived.Test.YtjeahlfmapacfaaDoorBlk
namespace Go.Proofs.YtjeahlfmapacfaaDoor.Oct
open Go.RowKit Sha

def zb (n : Nat) : List Value := List.replicate n (Value.int .u8 0)
theorem zb_length (n : Nat) : (zb n).length = n := by simp [zb]
def bytesTo (s : St) (t : Nat) : List UInt8 := (List.range t).map (byteAt s)
theorem bytesTo_length (s : St) (t : Nat) : (bytesTo s t).length = t := by simp [bytesTo]
theorem bytesTo_succ (s : St) (t : Nat) : bytesTo s (t + 1) = bytesTo s t ++ [byteAt s t] := by simp [bytesTo, List.range_succ]
theorem byte_set (L : List UInt8) (n t : Nat) (x : UInt8) (ht : t = L.length) (hn : n + 1 = 32 - t) : (U L ++ zb (32 - t)).set t (.int .u8 (x.toNat : Int)) = U (L ++ [x]) ++ zb (32 - (t + 1)) := by
  subst ht
  rw [← hn, show 32 - (L.length + 1) = n by omega, List.set_append_right _ _ (by rw [U_length]; exact Nat.le_refl _), U_length, Nat.sub_self]
  simp [U, zb, List.replicate_succ]
def BInv (w : World) (S : List Value) (L : List Value) (wr : World) : Prop := Blk wr w.heap.size 104 S ∧ Blk wr (w.heap.size + 1) 67 (zb 32) ∧ Blk wr (w.heap.size + 1 + 1) 67 L ∧ Below w.heap.size w wr

set_option maxHeartbeats 1000000 in
set_option maxRecDepth 100000 in
theorem bytes_is (s : St) (w : World) :
    Calls Tryd.prog 65 #[.agg #[.int .u32 (s.a.toNat : Int), .int .u32 (s.b.toNat : Int), .int .u32 (s.c.toNat : Int), .int .u32 (s.d.toNat : Int), .int .u32 (s.e.toNat : Int), .int .u32 (s.f.toNat : Int), .int .u32 (s.g.toNat : Int), .int .u32 (s.h.toNat : Int)]] w
      fun e w' => e = .returned (.agg (U (digest s)).toArray) ∧ Below w.heap.size w w' := by
  go_enter Tryd.func65, Tryd.ntmps65
  go_wp2_with fail
  go_loopw [5] (fun i wr => ∃ t : Nat, i = .int .i64 t ∧ t ≤ 32 ∧ Hid (BInv w (V s.words) (U (bytesTo s t) ++ zb (32 - t)) wr)) (fun i _ => 32 - (intOf i).toNat)
  case atStart =>
    obtain ⟨hA, hB, hC, hbw⟩ := three w _ _ _ _ rfl
    exact ⟨0, rfl, by omega, hA, hB, hC, hbw⟩
  case round =>
    obtain ⟨t, rfl, ht, hr⟩ := hrel
    by_cases hlt : t = 32
    · have q1 : (32 : Int) ≤ (t : Int) := by omega
      subst hlt
      have hsz : (Tryd.prog.info? 67).map (·.size) = some 32 := by kernel_rfl
      have HL : Hid ((U (bytesTo s 32)).length = 32) := by show _ = _; rw [U_length, bytesTo_length]
      have HB2 : Hid (wr.heap[w.heap.size + 1 + 1]? = some (.cells (U (bytesTo s 32)).toArray 67 (0, 0))) := by
        have e := hr.out.2.2.1
        have ez : zb (32 - 32) = [] := rfl
        rw [ez, List.append_nil] at e
        exact e
      go_wp2_with (first
        | (refine wpList_load_row rfl 67 (.tmp 3) rfl (w.heap.size + 1 + 1) rfl 67 (U (bytesTo s 32)).toArray (0, 0) _ HB2.out Tryd.underlying67 rfl (by rw [hsz, List.size_toArray, HL.out]) ?_)
        | (refine wpList_store_blk rfl 67 (.tmp 2) (.tmp 21) rfl (w.heap.size + 1) 0 67 (zb 32) (U (bytesTo s 32)) rfl rfl hr.out.2.1 (by rw [HL.out, zb_length]; omega) (by rw [hsz, HL.out]) (U_one _) ?_))
      intro w9 hB9 hG9
      have HR : Hid (w9.heap[w.heap.size + 1]? = some (.cells (U (bytesTo s 32)).toArray 67 (0, 0))) := by
        have e := hB9.out
        rw [List.drop_eq_nil_of_le (by rw [zb_length, HL.out]; omega), List.append_nil] at e
        exact e
      go_wp2
      refine bodyPost_ret (v := .agg (U (bytesTo s 32)).toArray) (results_cell_row rfl _ _ (w.heap.size + 1) 67 _ (0, 0) _ rfl HR.out Tryd.underlying67 rfl (by rw [hsz, List.size_toArray, HL.out])) rfl ⟨rfl, ?_⟩
      exact hr.out.2.2.2.grown hG9.out hr.out.2.2.2.size (by intro k hk; simp at hk; omega)
    · have q1 : (t : Int) < 32 := by omega
      obtain ⟨x, hx⟩ : ∃ x, x = s.words.getD (t / 4) 0 := ⟨_, rfl⟩
      have c0 : wr.cell? ⟨w.heap.size, t / 4, none⟩ = some (.int .u32 (x.toNat : Int)) := by
        rw [hx]; exact hr.out.1.cell (V_get s.words (t / 4) (by show t / 4 < 8; omega))
      have c4 : wr.cell? ⟨w.heap.size + 1 + 1, t, none⟩ = some (.int .u8 0) := by
        refine hr.out.2.2.1.cell ?_
        rw [List.getElem?_append_right (by rw [U_length, bytesTo_length]; exact Nat.le_refl _), U_length, bytesTo_length, Nat.sub_self, zb, List.getElem?_replicate, if_pos (by omega)]
      have c5 : wr.frozen? ⟨w.heap.size + 1 + 1, t, none⟩ = false := hr.out.2.2.1.free _
      have q2 : (t : Int) / 4 < 8 := by omega
      have q3 : (0 : Int) ≤ (t : Int) / 4 := by omega
      have q4 : (0 : Int) ≤ 24 - 8 * ((t : Int) % 4) := by omega
      have HX : Hid (x = s.words.getD (t / 4) 0) := hx
      clear hlt hx
      have HV : Hid ((x.toNat : Int) / 2 ^ (24 - 8 * (t % 4)) % 256 = ((byteAt s t).toNat : Int)) := by
        show _ = _
        unfold byteAt
        rw [← HX.out, UInt8.toNat_ofNat']
        simp
      go_wp2_with fail
      go_roundw
      case rel =>
        rw [HV.out]
        refine ⟨t + 1, by go_num, by omega, ?_⟩
        have st : BInv w (V s.words) ((U (bytesTo s t) ++ zb (32 - t)).set t (.int .u8 ((byteAt s t).toNat : Int))) (wr.setCell ⟨w.heap.size + 1 + 1, t, none⟩ (.int .u8 ((byteAt s t).toNat : Int))) :=
          ⟨hr.out.1.other (by simp; omega) _, hr.out.2.1.other (by simp) _, hr.out.2.2.1.set t _, hr.out.2.2.2.setCell (by simp; omega) _⟩
        rw [byte_set (bytesTo s t) (31 - t) t (byteAt s t) (bytesTo_length s t).symm (by omega), ← bytesTo_succ] at st
        exact st
      case measure => simp [intOf]; omega

#print axioms bytes_is

end Go.Proofs.YtjeahlfmapacfaaDoor.Oct
