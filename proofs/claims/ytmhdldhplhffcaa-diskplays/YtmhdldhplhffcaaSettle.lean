/-
  Layer 5 (disk): a sector handed out in memory of its own; a write made sure.
-/
import Derived.Test.YtmhdldhplhffcaaCells
import Derived.Stop.BytesEq
namespace Go.Proofs.Ytmhdldhplhffcaa.Oct
open Go.RowKit Go.Maps

theorem arr72 : Try.prog.underlying 72 = some (.array 256 5) := by kernel_rfl
theorem size5 : (Try.prog.info? 5).map (·.size) = some 1 := by kernel_rfl
theorem slice72 (b o : Nat) (W : World) : (Instr.sliceAt 72 (.pointer (some ⟨b, o, none⟩)) none none none).run Try.prog W = .ok (.slice (some ⟨b, o, none⟩) 256 256) W := by
  obtain ⟨i, hi, _⟩ := Option.map_eq_some_iff.1 size5
  simp [Instr.sliceAt, Instr.sureAddr, run_underlying arr72, Instr.sliceBounds, sizeOf, typeInfo, hi, Addr.add_lit]

/-- 'copied': a sector's bytes in memory of their own -/
theorem copied_is (Y : Array Value) (w : World) :
    Calls Try.prog 43 #[.agg Y] w fun e w' => e = .returned (.slice (some ⟨w.heap.size, 0, none⟩) 256 256) ∧ w' = w.alloc (.cells Y 72) := by
  have h72 := slice72
  go_enter Try.func43, Try.ntmps43
  go_wp2
  go_ret
  exact ⟨rfl, rfl⟩

theorem built72 : Try.prog.built 72 [] = some (U zeros).toArray := by kernel_rfl
theorem size72 : (Try.prog.info? 72).map (·.size) = some 256 := by kernel_rfl
theorem eql72 (l r : List UInt8) (hl : l.length = 256) (hr : r.length = 256) (W : World) : (binOp .eql 72 (.agg (U l).toArray) (.agg (U r).toArray)).run Try.prog W = .ok (.bool (l == r)) W :=
  run_eql_bytes W 72 5 256 arr72 Try.underlying5 (fun w => by kernel_rfl) l r hl hr

/-- what settling a write leaves -/
def Settled (w w' : World) (bs nS : Nat) (f : Nat → List UInt8) : Prop :=
  ∃ DS', w'.ownsMap Try.prog 3 RS bs (nS + 1) DS' ∧ (∀ i : Nat, DS'.atKey (kl i) (sd zeros) = sd (f i)) ∧ Keep (fun k => k = bs) w w'

set_option maxHeartbeats 1000000 in
set_option maxRecDepth 100000 in
theorem settle_is (d bs nS : Nat) (DS : DataW Unit) (f : Nat → List UInt8) (x : Nat × List UInt8) (Y : Array Value) (hY : Y = (wc x).toArray) (hx : x.1 < 9223372036854775808) (hl : x.2.length = 256) (w : World)
    (c1 : w.cell? ⟨d, 1, none⟩ = some (.map (some bs))) (hd : d < w.heap.size) (hne : d ≠ bs) (hown : w.ownsMap Try.prog 3 RS bs nS DS) (hlk : ∀ i : Nat, DS.atKey (kl i) (sd zeros) = sd (f i)) (hn : nS < maxLen) :
    Calls Try.prog 42 #[.pointer (some ⟨d, 0, none⟩), .agg Y] w fun e w' => e = .returned (.tuple #[]) ∧ Settled w w' bs nS (put f x) := by
  obtain ⟨A, hA⟩ : ∃ A, A = (U x.2).toArray := ⟨_, rfl⟩
  obtain ⟨Z, hZ⟩ : ∃ Z, Z = (U zeros).toArray := ⟨_, rfl⟩
  have hr1 : (w.alloc (.cells Y 75)).rangeAt w.heap.size 1 (U x.2) := by
    have hb : Blk (w.alloc (.cells Y 75)) w.heap.size 75 (wc x) := by have := Blk.new w Y 75; rw [hY] at this ⊢; exact this
    intro j v hj
    refine hb.cell ?_
    rw [Nat.add_comm]
    exact hj
  have cb0 : (w.alloc (.cells Y 75)).cell? ⟨w.heap.size, 0, none⟩ = some (.int .i64 (x.1 : Int)) := by
    have hb : Blk (w.alloc (.cells Y 75)) w.heap.size 75 (wc x) := by have := Blk.new w Y 75; rw [hY] at this ⊢; exact this
    exact hb.cell rfl
  have ho1 := hown.alloc (.cells Y 75)
  have hEQ := eql72 x.2 zeros hl zeros_length
  rw [← hA, ← hZ] at hEQ
  have HR1 : Hid ((w.alloc (.cells Y 75)).rangeAt w.heap.size 1 (U x.2)) := hr1
  have HS : Hid ((Try.prog.info? 72).map (·.size) = some (U x.2).length) := by show _ = _; rw [U_length, hl]; exact size72
  have HB : Hid (Try.prog.built 72 [] = some Z) := by rw [hZ]; exact built72
  have HA : Hid (A = (U x.2).toArray) := hA
  have HX : Hid (x.1 < 9223372036854775808 ∧ x.2.length = 256 ∧ d < w.heap.size ∧ d ≠ bs) := ⟨hx, hl, hd, hne⟩
  have HLK : Hid (∀ i : Nat, DS.atKey (kl i) (sd zeros) = sd (f i)) := hlk
  have HO : Hid ((w.alloc (.cells Y 75)).ownsMap Try.prog 3 RS bs nS DS) := ho1
  have HK1 : Hid (Keep (fun k => k = bs) w (w.alloc (.cells Y 75))) := Keep.below ((Below.refl _ w).alloc (Nat.le_refl _) _)
  have c1' : (w.alloc (.cells Y 75)).cell? ⟨d, 1, none⟩ = some (.map (some bs)) := by rw [World.cell?_alloc_some _ _ _ (by rw [c1]; rfl)]; exact c1
  have HI : Hid (IsMap DS) := hown.isMap
  have HL : Hid (bs < w.heap.size) := hown.lt
  clear hY hA hZ hr1 ho1 hown hlk hx hl hd hne c1
  by_cases hz : x.2 = zeros
  · have hq : (x.2 == zeros) = true := by simp [hz]
    rw [hq] at hEQ
    have HZ : Hid (x.2 = zeros) := hz
    clear hz hq
    obtain ⟨w2, hrun, hm2, hg2⟩ := World.ownsMap.drop (show (w.alloc (.cells Y 75)).drew.ownsMap Try.prog 3 RS bs nS DS from HO.out) keyed (t := 57) (e := 72) Try.underlying57 (key_of x.1 HX.out.1) 0
    have HM2 : Hid (w2.ownsMap Try.prog 3 RS bs nS (DS.del (kl x.1))) := hm2
    have HG2 : Hid ((w.alloc (.cells Y 75)).drew.grownBy w2 (some bs)) := hg2.grown
    clear hm2 hg2
    go_enter Try.func42, Try.ntmps42
    go_wp2_with (first
      | (refine wpList_load_mid rfl 72 (.tmp 4) rfl w.heap.size 1 rfl (U x.2) _ HR1.out arr72 rfl HS.out ?_; rw [← HA.out])
      | (refine wpList_built rfl 72 _ rfl Z (by simp; exact HB.out) ?_))
    have k1 : w2.cell? ⟨d, 1, none⟩ = some (.map (some bs)) := HG2.out.cell c1' (by simpa using HX.out.2.2.2)
    have k0 : w2.cell? ⟨w.heap.size, 0, none⟩ = some (.int .i64 (x.1 : Int)) := HG2.out.cell cb0 (by have := HL.out; simp; omega)
    go_region_held (fun w' => w'.cell? ⟨d, 1, none⟩ = some (.map (some bs)) ∧ w'.cell? ⟨w.heap.size, 0, none⟩ = some (.int .i64 (x.1 : Int))) (first | exact ⟨c1', cb0⟩ | exact ⟨k1, k0⟩) (fail)
    go_wp2
    refine bodyPost_ret (results_none rfl _ _ _) rfl ?_
    refine ⟨rfl, DS.del (kl x.1), HM2.out.mono (Nat.le_succ _), fun i => ?_, HK1.out.drew.trans (Keep.grown HG2.out (S := fun k => k = bs) rfl) (fun j hj _ => hj)⟩
    unfold put
    split
    · rename_i e
      subst e
      rw [atKey_del_same, HZ.out]
    · rename_i e
      rw [atKey_del_other (kl_ne e)]
      exact HLK.out i
  · have hq : (x.2 == zeros) = false := by simp [hz]
    rw [hq] at hEQ
    clear hz hq
    obtain ⟨w2, hrun, hm2, hg2⟩ := World.ownsMap.update (show (w.alloc (.cells Y 75)).drew.ownsMap Try.prog 3 RS bs nS DS from HO.out) keyed (t := 57) (e := 72) Try.underlying57 hn (key_of x.1 HX.out.1) (RS_mk x.2 HX.out.2.1)
    have HM2 : Hid (w2.ownsMap Try.prog 3 RS bs (nS + 1) (DS.put (kl x.1) (sd x.2))) := hm2
    have HG2 : Hid ((w.alloc (.cells Y 75)).drew.grownBy w2 (some bs)) := hg2
    clear hm2 hg2
    have u72 := arr72
    have s72 : (Try.prog.info? 72).map (·.size) = some (U x.2).length := HS.out
    go_enter Try.func42, Try.ntmps42
    go_wp2_with (first
      | (refine wpList_load_mid rfl 72 (.tmp 4) rfl w.heap.size 1 rfl (U x.2) _ HR1.out arr72 rfl HS.out ?_; rw [← HA.out])
      | (refine wpList_built rfl 72 _ rfl Z (by simp; exact HB.out) ?_))
    have k1 : w2.cell? ⟨d, 1, none⟩ = some (.map (some bs)) := HG2.out.cell c1' (by simpa using HX.out.2.2.2)
    have k0 : w2.cell? ⟨w.heap.size, 0, none⟩ = some (.int .i64 (x.1 : Int)) := HG2.out.cell cb0 (by have := HL.out; simp; omega)
    have k2 : w2.rangeAt w.heap.size 1 (U x.2) := fun j v hj => HG2.out.cell (HR1.out j v hj) (by have := HL.out; simp; omega)
    go_region_held (fun w' => w'.cell? ⟨d, 1, none⟩ = some (.map (some bs)) ∧ w'.cell? ⟨w.heap.size, 0, none⟩ = some (.int .i64 (x.1 : Int)) ∧ w'.rangeAt w.heap.size 1 (U x.2)) (first | exact ⟨c1', cb0, HR1.out⟩ | exact ⟨k1, k0, k2⟩) (fail)
    go_wp2
    go_end0
    refine ⟨rfl, DS.put (kl x.1) (sd x.2), HM2.out, fun i => ?_, HK1.out.drew.trans (Keep.grown HG2.out (S := fun k => k = bs) rfl) (fun j hj _ => hj)⟩
    unfold put
    split
    · rename_i e
      subst e
      rw [atKey_put_same HI.out (kl_key _)]
    · rename_i e
      rw [atKey_put_other (kl_ne e)]
      exact HLK.out i
#print axioms copied_is
end Go.Proofs.Ytmhdldhplhffcaa.Oct
