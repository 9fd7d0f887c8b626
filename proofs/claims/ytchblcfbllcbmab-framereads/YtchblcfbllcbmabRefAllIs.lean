/-
  Layer 4 (frame): the reference's 'All', walked.
-/
import Derived.Test.YtchblcfbllcbmabRefAll
namespace Go.Proofs.Ytchblcfbllcbmab.Oct
open Go.RowKit Go.Shelf
attribute [local go_sem] Oper.semAt_some

set_option maxRecDepth 100000 in
set_option maxHeartbeats 2000000 in
theorem refAll_is (l : List UInt8) (a : Option Addr) (n cp : Nat) (w : World) (hl : In w a n cp l) (hn : n ≤ 1000000) :
    Calls Try.prog 9 #[.slice a n cp] w fun e w' => ∃ t s ao co vs, e = .returned (.slice ao t co) ∧ Hid (RAll w l n t s (.slice ao t co) vs w') ∧ Hid (errOf (l.drop s) ≠ 0) := by
  have HL : Hid (In w a n cp l) := hl
  have HLL : Hid (l.length = n) := hl.1
  have HN : Hid (n ≤ 1000000) := hn
  clear hl hn
  refine (callsIn_wide (n := 9)).1 ?_
  refine callsIn_of_wp Try.func9 rfl trivial ?_ rfl
  simp only [Try.ntmps9, List.size_toArray, List.length_cons, List.length_nil, Nat.reduceAdd, Nat.reduceSub, Array.replicate_succ, Array.replicate_zero, List.push_toArray, List.append_toArray, List.nil_append, List.cons_append]
  obtain ⟨i22, hi22, hz0, hz1, hz2⟩ := info_parts info22
  gi_wp2_with fail
  gi_loopw [0, 3] (fun x v wr => ∃ (t s : Nat) (ab : Option Addr) (cb : Nat) (ao : Option Addr) (co : Nat) (vs : List Value), x = .slice ab (n - s) cb ∧ v = .slice ao t co ∧ Hid (In w ab (n - s) cb (l.drop s)) ∧ Hid (RAll w l n t s v vs wr)) (fun x _ _ => lenOf x)
  case atStart =>
    refine ⟨0, 0, a, cp, none, 0, [], rfl, rfl, HL.out, ?_⟩
    exact ⟨rfl, Nat.zero_le _, Nat.le_refl _, fun i hi => absurd hi (by omega), World.ownsRow_nil _ _ _ _, fun i hi => absurd hi (by omega), Below.refl _ _⟩
  case round =>
    obtain ⟨t, s, ab, cb, ao, co, vs, rfl, rfl, HIN, HR⟩ := hrel
    by_cases hg : errOf (l.drop s) = 0
    · have hgo := good_of hg
      have hld : (l.drop s).length = n - s := HIN.out.1
      have hle := HR.out.le
      obtain ⟨b, off, rfl, -, -⟩ := HIN.out.2.2.2.2 (by omega)
      obtain ⟨m, hm⟩ : ∃ m, num4 (l.drop s) = m := ⟨_, rfl⟩
      have HG : Hid (errOf (l.drop s) = 0) := hg
      have HM : Hid (num4 (l.drop s) = m) := hm
      obtain ⟨r, hr⟩ : ∃ r, r = n - s := ⟨_, rfl⟩
      have HRR : Hid (r = n - s) := hr
      rw [← hr] at HIN hld ⊢
      obtain ⟨m12, hm12⟩ : ∃ m12, m12 = m + 12 := ⟨_, rfl⟩
      have HM12 : Hid (m12 = m + 12) := hm12
      have q1 : (m : Int) + 12 = (m12 : Int) := by omega
      have hmr : m12 ≤ r := by rw [hm] at hgo; omega
      have HMR : Hid (m12 ≤ r) := hmr
      have HM65 : Hid (m ≤ 65536) := by show _ ≤ _; rw [hm] at hgo; omega
      have HT : Hid (12 * t ≤ 1000000) := by show _ ≤ _; have h1 := HR.out.few; have h2 := HN.out; omega
      obtain ⟨a5, hsl, hin5, -⟩ := slice_from HIN.out m12 hmr
      have HSL : Hid (∀ W, (Instr.slice 22 (.slice (some ⟨b, off, none⟩) r cb) (some (.int .i64 (m12 : Int))) none none).run Try.prog W = .ok (.slice a5 (r - m12) (cb - m12)) W) := hsl
      have HI5 : Hid (In w a5 (r - m12) (cb - m12) ((l.drop s).drop m12)) := hin5
      have HLE : Hid (s ≤ n) := hle
      clear hg hgo hld hle hm hr hm12 hmr hsl hin5
      gi_wp2_with (first
        | (refine ⟨trivial, ?_⟩; gi_at_call 8; refine (callsIn_wide.2 (refUnframe_ok (l.drop s) b off r cb m wr (HIN.out.below HR.out.below) HG.out HM.out)).mono ?_; rintro e w1 ⟨a1, c1, rfl, HO1, HB1⟩)
        | (with_reducible change wpListIn _ _ _ _ _ ({ dst := some 19, op := _, type := _, pos := _, after := _, guard := _ } :: _) _ _
           refine wpListIn_append_own _ rfl (.tmp 16) (.tmp 18) 29 rfl w.heap.size 22 i22 (.slice none 0 0) 1 24 Try.underlying29 hi22 hz0 hz1 hz2 rfl (by decide) _ t vs rfl (World.ownsRow.alloc (row_drew HR.out.row HB1.out) _) ⟨w1.heap.size, 0, none⟩ 1 1 [.slice a1 m c1] rfl rfl (cell_new_row w1 22 (.slice a1 m c1)) (by simp [Value.oneCell']) (by have := HT.out; unfold maxLen; omega) (by have := HT.out; omega) (by have h1 := HR.out.below.size; have h2 := HB1.out.size; simp; omega) ?_
           intro v4 w4 ho4 hg4 _
           obtain ⟨ao4, co4, hv4⟩ := row_shape ho4 (by omega)
           subst hv4
           have HO4 : Hid (w4.ownsRow w.heap.size 22 1 (.slice ao4 (t + 1) co4) (t + 1) (vs ++ [.slice a1 m c1])) := ho4
           have HG4 : Hid ((w1.alloc (.cells #[.slice a1 m c1] 22)).grownBy w4 (Value.slice ao t co).ownBlock) := hg4
           clear ho4 hg4)
        | (with_reducible change wpListIn _ _ _ _ _ ({ dst := some 22, op := _, type := _, pos := _, after := _, guard := _ } :: _) _ _
           refine wpListIn_slice_from rfl (.tmp 20) (.tmp 21) rfl _ (.slice a5 (r - m12) (cb - m12)) m12 rfl rfl HSL.out ?_)
        | fail)
      have hnx := HR.out.next HLL.out HG.out HM.out HB1.out HO1.out HO4.out HG4.out
      have e1 : s + m + 12 = s + m12 := by rw [HM12.out]; omega
      rw [e1] at hnx
      have e2 : r - m12 = n - (s + m12) := by rw [HRR.out]; omega
      have hi6 := HI5.out
      rw [List.drop_drop, e2] at hi6
      refine ⟨⟨t + 1, s + m12, a5, cb - m12, ao4, co4, _, by rw [e2], rfl, hi6, hnx⟩, ?_⟩
      have h1 := HMR.out
      have h2 := HM12.out
      simp only [lenOf]
      omega
    · have HG : Hid (errOf (l.drop s) ≠ 0) := hg
      obtain ⟨E, hE⟩ : ∃ E, E = errOf (l.drop s) := ⟨_, rfl⟩
      have hE0 : ¬ (E : Int) = 0 := by omega
      have HC : Hid (Calls Try.prog 8 #[.slice ab (n - s) cb] wr fun e w' => e = .returned (.tuple #[.slice none 0 0, .int .i64 0, .int .i64 (E : Int)]) ∧ ∃ k, w' = wr.drewN k) := by
        rw [hE]; exact refUnframe_none (l.drop s) ab (n - s) cb wr (HIN.out.below HR.out.below) hg
      clear hg hE
      gi_wp2_with (first
        | (refine ⟨trivial, ?_⟩; gi_at_call 8; refine (callsIn_wide.2 HC.out).mono ?_; rintro e w1 ⟨rfl, k, rfl⟩)
        | fail)
      refine bodyPost_ret (results_tmp rfl _ _ _) rfl ?_
      have hr := HR.out
      exact ⟨t, s, ao, co, vs, rfl, ⟨hr.pos, hr.le, hr.few, hr.good, hr.row, hr.each, hr.below.trans (below_drewN _ _ k)⟩, HG⟩
end Go.Proofs.Ytchblcfbllcbmab.Oct
