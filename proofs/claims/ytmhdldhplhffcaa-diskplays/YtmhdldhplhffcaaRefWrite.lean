/-
  Layer 5 (disk): the reference: Write.
-/
import Derived.Test.YtmhdldhplhffcaaRefRead
namespace Go.Proofs.Ytmhdldhplhffcaa.Oct
open Go.RowKit Go.Lib

theorem info78 : (Try.prog.info? 78).map (fun i => (i.zero, i.size, i.bytes)) = some (some (.agg #[.int .i64 0, .string ⟨#[]⟩]), 2, 24) := by kernel_rfl
/-- what a call of the reference's disk leaves -/
def RCh (w : World) (r : Nat) (sv pv : Value) (D' : Disk) (w' : World) : Prop :=
  ∃ pv', RAt w' r sv pv' D' ∧ Keep (fun k => k = r ∨ sv.ownBlock = some k ∨ pv.ownBlock = some k) w w' ∧ ∀ g, pv'.ownBlock = some g → pv.ownBlock = some g ∨ w.heap.size ≤ g
theorem RCh.same {w : World} {r : Nat} {sv pv : Value} {D : Disk} (h : RAt w r sv pv D) : RCh w r sv pv D w := ⟨pv, h, Keep.refl _ _, fun _ hg => .inl hg⟩
theorem RCh.cells {w w' : World} {r : Nat} {sv pv : Value} {D' : Disk} (h : RAt w' r sv pv D') (hg : w.grownBy w' (some r)) : RCh w r sv pv D' w' := ⟨pv, h, Keep.grown hg (.inl rfl), fun _ hg => .inl hg⟩
theorem RAfter.of {w w' : World} {R : Nat → Prop} {r : Nat} {sv pv : Value} {D' : Disk} (h0 : ∀ k, R k → k < w.heap.size) (h1 : R r) (h2 : ∀ g, sv.ownBlock = some g → R g) (h3 : ∀ g, pv.ownBlock = some g → R g) (h : RCh w r sv pv D' w') : RAfter w R r D' w' := by
  obtain ⟨pv', hA, hk, hp⟩ := h
  have lt : ∀ {v : Value} {e sz n : Nat} {xs : List Value}, w'.ownsRow 0 e sz v n xs → ∀ g, v.ownBlock = some g → g < w'.heap.size := fun ho g hg => (ho.lt g hg).2
  refine ⟨fun k => R k ∨ pv'.ownBlock = some k, ⟨sv, pv', hA, .inl h1, fun g hg => .inl (h2 g hg), fun g hg => .inr hg, fun k hk' => ?_⟩, fun k hk' => ?_, hk.mono (fun j _ hj => ?_)⟩
  · rcases hk' with hk' | hk'
    · exact Nat.lt_of_lt_of_le (h0 k hk') hk.size
    · exact lt hA.pend k hk'
  · rcases hk' with hk' | hk'
    · exact .inl hk'
    · rcases hp k hk' with h | h
      · exact .inl (h3 k h)
      · exact .inr h
  · rcases hj with rfl | hj | hj
    · exact h1
    · exact h2 j hj
    · exact h3 j hj

set_option maxRecDepth 100000 in
set_option maxHeartbeats 1000000 in
theorem rwrite_is {w : World} {r : Nat} {sv pv : Value} {D : Disk} (h : RAt w r sv pv D) (hn : D.ops < 1000000000) (i : Int) (b : List UInt8) (hb : b.length ≤ 140737488355328) :
    Calls Try.prog 32 #[.pointer (some ⟨r, 0, none⟩), .int .i64 i, .string (strOf b)] w fun e w' => e = .returned (.int .i64 (D.write i b).1) ∧ RCh w r sv pv (D.write i b).2 w' := by
  have HU : Hid (RAt w r sv pv D) := h
  have c0 := h.c0
  have c2 := h.c2
  obtain ⟨g, c, rfl, hc, hg, _⟩ := h.sureAt
  have hn2 := h.good.2.1
  have hw := h.good.write i b
  obtain ⟨S, hS⟩ : ∃ S, strOf b = S := ⟨_, rfl⟩
  have hsz : S.size = b.length := by rw [← hS]; simp [strOf, ByteArray.size]
  have HS : Hid (strOf b = S) := hS
  rw [hS]
  obtain ⟨L, hL⟩ : ∃ L, b.length = L := ⟨_, rfl⟩
  rw [hL] at hsz hb
  have HLL : Hid (b.length = L) := hL
  obtain ⟨nn, hnn⟩ : ∃ nn, D.n = nn := ⟨_, rfl⟩
  rw [hnn] at c0 hn2 HU ⊢
  have HNN : Hid (D.n = nn) := hnn
  clear hnn
  have q0 : (nn : Int) ≤ 4096 := by omega
  have qL : (L : Int) ≤ 140737488355328 := by omega
  have HW : Hid (Good (D.write i b).2) := hw
  clear h hw hc hg hS
  by_cases hd : D.down = true
  · rw [hd] at c2
    have e : D.write i b = (50, D) := by simp [Disk.write, hd]
    rw [e]
    clear e
    go_enter Try.func32, Try.ntmps32
    go_wp2
    go_ret
    exact ⟨rfl, RCh.same HU.out⟩
  · have hd' : D.down = false := by simpa using hd
    rw [hd'] at c2
    by_cases hbad : ¬ (0 ≤ i ∧ i < D.n) ∨ b.length ≠ 256
    · have e : D.write i b = (2, D) := by simp only [Disk.write, hd', Bool.false_eq_true, if_false]; rw [if_pos hbad]
      rw [e]
      clear e
      by_cases h1 : i < 0
      · go_enter Try.func32, Try.ntmps32
        go_wp2
        go_ret
        exact ⟨rfl, RCh.same HU.out⟩
      · by_cases h2 : (nn : Int) ≤ i
        · go_enter Try.func32, Try.ntmps32
          go_wp2
          go_ret
          exact ⟨rfl, RCh.same HU.out⟩
        · have q3 : ((L : Int) != 256) = true := by have := HNN.out; simp; omega
          clear hbad hL
          go_enter Try.func32, Try.ntmps32
          go_wp2
          go_ret
          exact ⟨rfl, RCh.same HU.out⟩
    · have hi : (0 ≤ i ∧ i < D.n) ∧ b.length = 256 := ⟨Classical.byContradiction fun c => hbad (.inl c), Classical.byContradiction fun c => hbad (.inr c)⟩
      have q1 : ¬ i < 0 := by omega
      have q2 : ¬ (nn : Int) ≤ i := by have := HNN.out; omega
      have q3 : ((L : Int) != 256) = false := by simp; omega
      have HI : Hid (i.toNat < D.n ∧ ((i.toNat : Nat) : Int) = i) := ⟨by omega, by omega⟩
      cases ho : D.out with
      | true =>
        have e : D.write i b = (50, D.off) := by simp only [Disk.write, hd', Bool.false_eq_true, if_false]; rw [if_neg hbad, ho]; rfl
        rw [e]
        clear e hbad hi hL
        have HD := rdoes_out HU.out ho
        have HD' : Hid (Calls Try.prog 46 #[.pointer (some ⟨r, 0, none⟩)] w fun e w' => e = .returned (.bool false) ∧ RAt w' r _ pv D.off ∧ w.grownBy w' (some r)) := HD
        clear HD ho
        go_enter Try.func32, Try.ntmps32
        go_wp2_with fail
        refine HD'.out.mono ?_
        rintro e w1 ⟨rfl, hA, hg⟩
        have HA : Hid (RCh w r _ pv D.off w1) := RCh.cells hA hg
        clear hA hg
        go_wp2
        go_ret
        exact ⟨rfl, HA.out⟩
      | false =>
        have e : D.write i b = (0, { D.spent with pend := D.pend ++ [(i.toNat, b)] }) := by simp only [Disk.write, hd', Bool.false_eq_true, if_false]; rw [if_neg hbad, ho]; rfl
        rw [e] at HW ⊢
        clear e hbad hi hL
        have HD' : Hid (Calls Try.prog 46 #[.pointer (some ⟨r, 0, none⟩)] w fun e w' => e = .returned (.bool true) ∧ RAt w' r _ pv D.spent ∧ w.grownBy w' (some r)) := rdoes_on HU.out (by omega) ho
        clear ho
        go_enter Try.func32, Try.ntmps32
        go_wp2_with fail
        refine HD'.out.mono ?_
        rintro e w1 ⟨rfl, hA, hg⟩
        have HA : Hid (RAt w1 r (.slice (some ⟨g, 0, none⟩) nn c) pv D.spent ∧ w.grownBy w1 (some r)) := ⟨hA, hg⟩
        clear hA hg
        have c1 := HA.out.1.c1
        obtain ⟨a, cp, hpv, hcp, _⟩ := HA.out.1.pendAt
        obtain ⟨m, hm⟩ : ∃ m, D.pend.length = m := ⟨_, rfl⟩
        have hm' : D.spent.pend.length = m := hm
        rw [hm'] at hpv hcp
        have HM : Hid (D.pend.length = m ∧ m < 1000000000) := ⟨hm, by have := HU.out.room; omega⟩
        subst hpv
        obtain ⟨i0, hi78, hz0, hz1, hz2⟩ := info_parts info78
        have HOW : Hid ((w1.alloc (.cells #[.int .i64 i, .string S] 78)).ownsRow 0 78 2 (.slice a m cp) m (puts D.pend)) := by
          have := own_below HA.out.1.pend ((Below.refl _ w1).alloc (Nat.le_refl _) (.cells #[.int .i64 i, .string S] 78))
          rw [hm'] at this
          exact this
        have HNW : Hid (∀ j u, [Value.int .i64 i, .string S][j]? = some u → (w1.alloc (.cells #[.int .i64 i, .string S] 78)).cell? ((⟨w1.heap.size, 0, none⟩ : Addr).add j) = some u) := fun j u hj => by
          rw [Addr.add_lit, Nat.zero_add]
          exact (Blk.new w1 #[.int .i64 i, .string S] 78).cell hj
        clear hm hm' hcp
        go_wp2_with (first
          | (with_reducible change wpList _ _ _ ({ dst := some 39, op := Op.call _, type := _, pos := _, after := _, guard := _ } :: _) _ _
             refine Hid.out ?_)
          | fail)
        show wpList _ _ _ _ _ _
        refine wpList_append_own_at _ rfl (.tmp 34) (.tmp 38) 66 rfl 0 78 i0 (.agg #[.int .i64 0, .string ⟨#[]⟩]) 2 24 Try.underlying66 hi78 hz0 hz1 hz2 rfl (by omega) (.slice a m cp) m (puts D.pend) rfl HOW.out ⟨w1.heap.size, 0, none⟩ 1 1 [.int .i64 i, .string S] rfl rfl HNW.out (by intro u hu; simp at hu; rcases hu with rfl | rfl <;> rfl) (by have := HM.out.2; unfold maxLen; omega) (by have := HM.out.2; omega) (Nat.zero_le _) ?_
        intro v5 w5 ho5 hg5 _ hob
        obtain ⟨a5, c5, hv5⟩ : ∃ a5 c5, v5 = .slice a5 (m + 1) c5 := by
          rcases ho5.2 with ⟨_, e⟩ | ⟨g', cap', cur, e, _⟩
          · omega
          · exact ⟨_, _, e⟩
        subst hv5
        have HB5 : Hid (Blk w5 r 68 (rc D.spent (.slice (some ⟨g, 0, none⟩) nn c) (.slice a m cp))) := (HA.out.1.blk.alloc _).kept hg5 (fun e => blk_row_ne HA.out.1.blk HA.out.1.pend (by omega) e.symm)
        have d1 : w5.cell? ⟨r, 1, none⟩ = some (.slice a m cp) := HB5.out.cell rfl
        have f1 := HB5.out.free 1
        have HF : Hid (RCh w r (.slice (some ⟨g, 0, none⟩) nn c) (.slice a m cp) { D.spent with pend := D.pend ++ [(i.toNat, b)] } (w5.setCell ⟨r, 1, none⟩ (.slice a5 (m + 1) c5))) := by
          have hbl := HB5.out.set 1 (.slice a5 (m + 1) c5)
          have hne : (Value.slice a5 (m + 1) c5).ownBlock ≠ some r := by
            intro e
            rcases hob with e2 | e2
            · rw [e2] at e; exact blk_row_ne HA.out.1.blk HA.out.1.pend (by omega) e
            · rw [e2] at e
              have h7 := Option.some.inj e
              have := HA.out.1.blk.lt
              simp at h7
              omega
          have k5 : Keep (fun k => k = r) w5 (w5.setCell ⟨r, 1, none⟩ (.slice a5 (m + 1) c5)) := Keep.grown (grown_setCell w5 r 1 _) rfl
          refine ⟨.slice a5 (m + 1) c5, ⟨?_, ?_, ?_, HW.out, ?_⟩, ?_, fun k hk => ?_⟩
          · exact hbl
          · have h1 := HA.out.1.sure
            have h2 := own_below h1 ((Below.refl _ w1).alloc (Nat.le_refl _) (.cells #[.int .i64 i, .string S] 78))
            have h3 : w5.ownsRow 0 9 1 (.slice (some ⟨g, 0, none⟩) nn c) D.spent.n (strs D.spent.sure D.spent.n) := row_kept (S := fun k => (Value.slice a m cp).ownBlock = some k) (Keep.grownO hg5 (fun _ e => e)) h2 (fun g' e1 e2 => rows_ne h2 HOW.out (by omega) e1 e2)
            exact row_kept k5 h3 (fun g' e1 e2 => by subst e2; exact blk_row_ne HB5.out h3 (by omega) e1)
          · have h3 := row_kept k5 ho5 (fun g' e1 e2 => by subst e2; exact hne e1)
            have e1 : (D.pend ++ [(i.toNat, b)]).length = m + 1 := by simp [HM.out.1]
            show World.ownsRow _ _ _ _ _ (D.pend ++ [(i.toNat, b)]).length (puts (D.pend ++ [(i.toNat, b)]))
            rw [e1, puts_snoc, HI.out.2, HS.out]
            exact h3
          · have := HU.out.room
            show (D.pend ++ [(i.toNat, b)]).length ≤ D.ops + 1
            simp
            omega
          · refine ((Keep.grown HA.out.2 (.inl rfl)).trans (Keep.below (S := fun k => k = r ∨ (Value.slice (some (⟨g, 0, none⟩ : Addr)) nn c).ownBlock = some k ∨ (Value.slice a m cp).ownBlock = some k) ((Below.refl _ w1).alloc (Nat.le_refl _) (.cells #[.int .i64 i, .string S] 78))) (fun j hj _ => hj)).trans ((Keep.grownO (S := fun k => k = r ∨ (Value.slice (some (⟨g, 0, none⟩ : Addr)) nn c).ownBlock = some k ∨ (Value.slice a m cp).ownBlock = some k) hg5 (fun _ e => .inr (.inr e))).trans (k5.mono (fun j _ hj => .inl hj)) (fun j hj _ => hj)) (fun j hj _ => hj)
          · rcases hob with e2 | e2
            · exact .inl (by rw [← e2]; exact hk)
            · rw [e2] at hk
              have := Option.some.inj hk
              have h6 := HA.out.2.size
              simp at this
              exact .inr (by omega)
        clear ho5 hg5 hob
        simp only [Act.put, List.setIfInBounds_toArray, List.set_cons_zero, List.set_cons_succ]
        go_wp2
        go_ret
        exact ⟨rfl, HF.out⟩
#print axioms rwrite_is
end Go.Proofs.Ytmhdldhplhffcaa.Oct
