/-
  Layer 5 (disk): bytes as a sector (the reference's Whole).
-/
import Derived.Test.YtmhdldhplhffcaaActs
import Derived.Test.YtmhdldhplhffcaaLives
namespace Go.Proofs.Ytmhdldhplhffcaa.Oct
open Go.RowKit Go.Lib

/-- bytes, cut or filled up to a sector -/
def whole (b : List UInt8) : List UInt8 := (b ++ List.replicate (256 - b.length) 0).take 256
theorem whole_length (b : List UInt8) : (whole b).length = 256 := by
  unfold whole
  rw [List.length_take, List.length_append, List.length_replicate]
  omega

theorem elem30 : Try.prog.underlying 30 = some (.slice (Try.prog.elem 30)) := by kernel_rfl
theorem size30 : (Try.prog.info? (Try.prog.elem 30)).map (·.size) = some 1 := by kernel_rfl
theorem slice_to (g n cp : Nat) (hn : 256 ≤ cp) (W : World) : (Instr.slice 30 (.slice (some ⟨g, 0, none⟩) n cp) none (some (.int .i64 256)) none).run Try.prog W = .ok (.slice (some ⟨g, 0, none⟩) 256 cp) W := by
  obtain ⟨i, hi, _⟩ := Option.map_eq_some_iff.1 size30
  simp [Instr.slice, run_underlying elem30, Instr.sliceBounds, Instr.sliceBound, asIntOf, sizeOf, typeInfo, hi, Addr.add_lit, show (256 : Int) ≤ (cp : Int) by omega]
theorem own_slice {e : TypeId} {B : Nat} {w : World} {v : Value} {l : List UInt8} (h : Own e B w v l) : ∃ ao cp, v = .slice ao l.length cp := by
  rcases h.2 with ⟨rfl, e⟩ | ⟨g, cap, cur, rfl, _⟩
  · exact ⟨none, 0, by rw [e]⟩
  · exact ⟨_, cap, rfl⟩
def slen : Value → Nat
  | .slice _ n _ => n
  | _ => 0
theorem own_cut {B : Nat} {w : World} {g cp : Nat} {l : List UInt8} (h : Own 5 B w (.slice (some ⟨g, 0, none⟩) l.length cp) l) (hl : 256 ≤ l.length) : In w (some ⟨g, 0, none⟩) 256 cp (l.take 256) := by
  rcases h.2 with ⟨e, _⟩ | ⟨g', cap', cur, e, _, hb, h1, _⟩
  · cases e
  · cases e
    refine ⟨by rw [List.length_take]; omega, by omega, by omega, by simp, fun _ => ⟨g, 0, rfl, lt_of_block hb, fun i c hi => ?_⟩⟩
    have hlt : i < 256 := by
      have := (List.getElem?_eq_some_iff.1 hi).1
      rw [List.length_take] at this; omega
    rw [List.getElem?_take, if_pos hlt] at hi
    have := World.ownsRow.cellAt h i (by omega)
    rw [Nat.zero_add, this]
    simp [U, hi]
theorem whole_of (b : List UInt8) (k : Nat) (h : k = 0 ∨ b.length + k ≤ 256) (hk : 256 ≤ b.length + k) : (b ++ List.replicate k 0).take 256 = whole b := by
  unfold whole
  rcases h with rfl | h
  · rw [show 256 - b.length = 0 by omega]
  · rw [show 256 - b.length = k by omega]
theorem own_first {w w0 w1 : World} {v1 : Value} {b : List UInt8} {n c : Nat} (ho : Own 5 w.heap.size w1 v1 ([] ++ b)) (h0 : Below w.heap.size w w0) (hg : w0.grownBy w1 (Value.slice (some ⟨w.heap.size, 0, none⟩) n c).ownBlock) : Own 5 w.heap.size w1 v1 b ∧ Below w.heap.size w w1 :=
  ⟨by simpa using ho, h0.grown hg h0.size (by intro k hk; simp [Value.ownBlock] at hk; omega)⟩

set_option maxHeartbeats 1000000 in
set_option maxRecDepth 100000 in
theorem whole_is (b : List UInt8) (a : Option Addr) (len cap : Nat) (w : World) (hin : In w a len cap b) :
    Calls Try.prog 19 #[.slice a len cap] w fun e w' => e = .returned (.string (strOf (whole b))) ∧ Below w.heap.size w w' := by
  obtain ⟨i0, hi, hz0, hz1, hz2⟩ := info_parts info5
  have HIN : Hid (In w a len cap b) := hin
  have HL : Hid (len ≤ 140737488355328 ∧ b.length = len) := ⟨hin.2.2.1, hin.1⟩
  have HM : Hid ((w.alloc (.cells #[] 5)).ownsRow w.heap.size 5 1 (.slice (some ⟨w.heap.size, 0, none⟩) 0 0) 0 (U [])) := World.ownsRow_made w #[] 0 (Nat.le_refl _) (Nat.zero_le _) (by simp)
  have HB0 : Hid (Below w.heap.size w (w.alloc (.cells #[] 5))) := (Below.refl _ w).alloc (Nat.le_refl _) _
  have HI0 : Hid (In (w.alloc (.cells #[] 5)) a len cap b) := hin.below HB0.out
  clear hin
  go_enter Try.func19, Try.ntmps19
  go_wp2_with (with_reducible change wpList _ _ _ ({ dst := some 6, op := Op.call _, type := _, pos := _, after := _, guard := _ } :: _) _ _
               refine wpList_append_in _ rfl (.tmp 4) (.tmp 5) 30 rfl w.heap.size 5 i0 Try.underlying30 hi hz0 hz1 hz2 _ [] 0 rfl rfl HM.out a len cap b rfl HI0.out (by have := HL.out.1; omega) (by simp) ?_
               intro v1 w1 ho1 hg1
               have HO1 : Hid (Own 5 w.heap.size w1 v1 b ∧ Below w.heap.size w w1) := own_first ho1 HB0.out hg1
               clear ho1 hg1)
  go_loopw [3] (fun v wr => ∃ (k : Nat) (ao : Option Addr) (cp : Nat), v = .slice ao (len + k) cp ∧ Hid (k = 0 ∨ len + k ≤ 256) ∧ Hid (Own 5 w.heap.size wr (.slice ao (len + k) cp) (b ++ List.replicate k 0) ∧ Below w.heap.size w wr)) (fun v _ => 256 - slen v)
  case atStart =>
    obtain ⟨ao, cp, hv⟩ := own_slice HO1.out.1
    rw [HL.out.2] at hv
    refine ⟨0, ao, cp, by rw [hv]; rfl, .inl rfl, ?_, HO1.out.2⟩
    have := HO1.out.1
    rw [hv] at this
    simpa using this
  case round =>
    obtain ⟨k, ao, cp, rfl, hk, ho⟩ := hrel
    have HLE : Hid ((b ++ List.replicate k 0).length = len + k) := by show _ = _; rw [List.length_append, List.length_replicate, HL.out.2]
    by_cases hlt : len + k < 256
    · have q1 : ((len : Int) + (k : Int)) < 256 := by omega
      have HQ : Hid (len + k < 256) := hlt
      have HO' : Hid ((wr.alloc (.cells #[.int .u8 0] 5)).ownsRow w.heap.size 5 1 (.slice ao (len + k) cp) (len + k) (U (b ++ List.replicate k 0))) := by
        have hb := ho.out.1.below ((Below.refl wr.heap.size wr).alloc (Nat.le_refl _) (.cells #[.int .u8 0] 5)) (Nat.le_refl _)
        exact own_size HLE.out hb
      have HN : Hid (In (wr.alloc (.cells #[.int .u8 0] 5)) (some ⟨wr.heap.size, 0, none⟩) 1 1 [0]) := in_new wr 5 [0] (by simp)
      have HBA : Hid (Below w.heap.size w (wr.alloc (.cells #[.int .u8 0] 5))) := ho.out.2.alloc ho.out.2.size _
      clear hlt
      go_wp2_with (with_reducible change wpList _ _ _ ({ dst := some 12, op := Op.call _, type := _, pos := _, after := _, guard := _ } :: _) _ _
                   refine wpList_append_in _ rfl (.tmp 10) (.tmp 11) 30 rfl w.heap.size 5 i0 Try.underlying30 hi hz0 hz1 hz2 _ (b ++ List.replicate k 0) (len + k) HLE.out rfl HO'.out (some ⟨wr.heap.size, 0, none⟩) 1 1 [0] rfl HN.out (by have := HQ.out; omega) (by have := ho.out.2.size; simp; omega) ?_
                   intro v2 w2 ho2 hg2
                   have HO2 : Hid (Own 5 w.heap.size w2 v2 (b ++ List.replicate k 0 ++ [0]) ∧ (wr.alloc (.cells #[.int .u8 0] 5)).grownBy w2 (Value.slice ao (len + k) cp).ownBlock) := ⟨ho2, hg2⟩
                   clear ho2 hg2)
      obtain ⟨ao2, cp2, hv2⟩ := own_slice HO2.out.1
      have e2 : (b ++ List.replicate k 0 ++ [0]).length = len + (k + 1) := by rw [List.length_append, HLE.out]; simp; omega
      rw [e2] at hv2
      subst hv2
      refine ⟨⟨k + 1, ao2, cp2, rfl, .inr (by have := HQ.out; omega), ?_, ?_⟩, by have := HQ.out; simp only [slen]; omega⟩
      · have := HO2.out.1
        rw [List.append_assoc, show List.replicate k (0 : UInt8) ++ [0] = List.replicate (k + 1) 0 by rw [List.replicate_succ']] at this
        exact this
      · refine HBA.out.grown HO2.out.2 HBA.out.size (fun j hj => ?_)
        have := World.ownsRow.lt ho.out.1 j hj
        exact this.1
    · have q1 : ¬ ((len : Int) + (k : Int)) < 256 := by omega
      have HQ : Hid (256 ≤ len + k) := by show _ ≤ _; omega
      obtain ⟨g, cp', hv, hgb, hgl, hcl, _⟩ := ho.out.1.shape (by rw [HLE.out]; omega)
      have hv' : ao = some ⟨g, 0, none⟩ := by simp at hv; exact hv.1
      subst hv'
      have hO := ho.out.1
      have hlen : (b ++ List.replicate k 0).length = len + k := HLE.out
      have hcp : 256 ≤ cp := by
        have := hv
        simp at this
        omega
      have hst := slice_to g (len + k) cp hcp
      have hcut := own_cut (l := b ++ List.replicate k 0) (by rw [hlen]; exact hO) (by rw [hlen]; exact HQ.out)
      have hcv := string_in (P := Try.prog) (e := 5) (t9 := 9) (t22 := 30) Try.underlying30 Try.underlying5 Try.underlying9 hcut
      rw [whole_of b k (by rw [HL.out.2]; exact hk.out) (by rw [HL.out.2]; exact HQ.out)] at hcv
      obtain ⟨s, hs⟩ : ∃ s, s = strOf (whole b) := ⟨_, rfl⟩
      have hcv' : (convert 30 9 (.slice (some ⟨g, 0, none⟩) 256 cp)).run Try.prog wr = .ok (.string s) wr := by rw [hs]; exact hcv
      have HS : Hid (s = strOf (whole b)) := hs
      have h31 := run_sliceAt_slice (P := Try.prog)
      clear hlt hv hO hcut hcv hs hlen h31
      go_wp2
      go_ret
      refine ⟨?_, ho.out.2⟩
      rw [← HS.out]
      rfl
#print axioms whole_is
end Go.Proofs.Ytmhdldhplhffcaa.Oct
