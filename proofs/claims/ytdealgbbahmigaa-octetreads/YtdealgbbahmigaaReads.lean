/-
  'OctetReads': a reader tells at each call what stands at its place, or the first thing that is wrong, and stays there: the law's walk.
-/
import Derived.Test.YtdealgbbahmigaaRefRead
import Derived.Test.YtdealgbbahmigaaRef
namespace Go.Proofs.Ytdealgbbahmigaa.Oct
open Go.RowKit

theorem elem22 : Try.prog.underlying 22 = some (.slice (Try.prog.elem 22)) := by kernel_rfl
theorem size22 : (Try.prog.info? (Try.prog.elem 22)).map (·.size) = some 1 := by kernel_rfl

/-- 'b[s:]' of bytes that came in -/
theorem slice_from {w : World} {a : Option Addr} {m cp : Nat} {l : List UInt8} (hin : In w a m cp l) (s : Nat) (hs : s ≤ m) :
    ∃ a', (∀ W, (Instr.slice 22 (.slice a m cp) (some (.int .i64 (s : Int))) none none).run Try.prog W = .ok (.slice a' (m - s) (cp - s)) W) ∧ In w a' (m - s) (cp - s) (l.drop s) := by
  obtain ⟨i, hi, hsz⟩ := Option.map_eq_some_iff.1 size22
  refine ⟨if cp = s then a else a.map (·.add s), fun W => ?_, ?_⟩
  · simp [Instr.slice, run_underlying elem22, Instr.sliceBounds, Instr.sliceBound, asIntOf, sizeOf, typeInfo, hi, hsz, hs]
  · have h1 := hin.1
    have h2 := hin.2.1
    refine ⟨by simp; omega, by omega, by have := hin.2.2.1; omega, ?_, fun hp => ?_⟩
    · intro e
      cases a with
      | none => have := hin.2.2.2.1 rfl; omega
      | some x => split at e <;> simp at e
    · obtain ⟨b, off, rfl, e2, e3⟩ := hin.2.2.2.2 (by omega)
      rw [if_neg (by omega)]
      refine ⟨b, off + s, by simp [Addr.add_lit], e2, fun i c hc => ?_⟩
      rw [List.getElem?_drop] at hc
      rw [Nat.add_assoc]
      exact e3 _ c hc

theorem wpList_slice_from {ops : Array Oper} {rest : List Oper} {o : Oper} {a : Act} {Q : Exit → Act → World → Prop} {w : World} (hgd : o.guard = none) (x lo : Operand) (hop : o.op = Op.slice 22 x (some lo) none none)
    (v v' : Value) (s : Nat) (hx : a.eval x = v) (hlo : a.eval lo = .int .i64 (s : Int)) (hrun : ∀ W, (Instr.slice 22 v (some (.int .i64 (s : Int))) none none).run Try.prog W = .ok v' W)
    (h : wpList Try.prog ops Q rest (a.put o.dst v') w) : wpList Try.prog ops Q (o :: rest) a w := by
  refine wpList_plain hgd fun K hK => ?_
  unfold Oper.wp
  simp [execOp, hop, hx, hlo, run_sliceAt_slice _ 22 _ _ _ _ elem22, hrun, Result.andThen]
  exact hK _ _ h

theorem txt_used (b : List UInt8) (most : Int) : (txt b most).2.1 ≤ b.length := by
  unfold txt
  have hu := dec_used b
  split
  · exact Nat.zero_le _
  · split
    · exact Nat.zero_le _
    · split
      · exact Nat.zero_le _
      · simp only; omega

/-- a list of looks that came in -/
def Looks (w : World) (a : Option Addr) (len : Nat) (K M : Nat → Int) : Prop :=
  0 < len → ∃ b off, a = some ⟨b, off, none⟩ ∧ b < w.heap.size ∧ ∀ i, i < len → w.cell? ⟨b, off + i * 2, none⟩ = some (.int .i64 (K i)) ∧ w.cell? ⟨b, off + i * 2 + 1, none⟩ = some (.int .i64 (M i)) ∧ -9223372036854775808 ≤ M i ∧ M i ≤ 9223372036854775807

theorem Own.form {B : Nat} {w : World} {v : Value} {l : List UInt8} (h : Own 5 B w v l) (hl : l.length ≤ 140737488355328) : ∃ ao cp, v = .slice ao l.length cp ∧ In w ao l.length cp l := by
  rcases h.2 with ⟨h1, h2⟩ | ⟨g, cap, cur, h1, _⟩
  · have : l = [] := List.eq_nil_of_length_eq_zero h2
    subst this
    exact ⟨none, 0, h1, In.nil w⟩
  · subst h1
    exact ⟨_, _, rfl, Own.toIn h hl⟩

theorem spoil_any (B n : Nat) (ao : Option Addr) (cp : Nat) (l : List UInt8) (w : World) (hn : l.length = n) (hown : Own 5 B w (.slice ao n cp) l) (hl : n ≤ 140737488355328) :
    Calls Try.prog 13 #[.slice ao n cp] w fun e w' => e = .returned (.tuple #[]) ∧ w.grownBy w' (Value.slice ao n cp).ownBlock := by
  rcases hown.2 with ⟨h1, h2⟩ | ⟨g, cap, cur, h1, _⟩
  · simp only [Value.slice.injEq] at h1
    obtain ⟨rfl, rfl, rfl⟩ := h1
    go_enter Try.func13, Try.ntmps13
    go_wp2_with fail
    refine wp_loop_rounds 1 ?_
    rw [rounds_succ]
    go_wp2
    go_end0
    exact ⟨rfl, World.grownBy.refl _ _⟩
  · simp only [Value.slice.injEq] at h1
    obtain ⟨rfl, _, _⟩ := h1
    exact spoil_is B g n cp l w (own_size hn hown) hl

section
variable {B : Nat} {w : World} {r g cap : Nat} {l : List UInt8} {k : Nat}
theorem RdAt.kept {w' : World} {row : Option Nat} (h : RdAt B w r g cap l k) (hg : w.grownBy w' row) (h1 : row ≠ some r) (h2 : row ≠ some g) : RdAt B w' r g cap l k :=
  ⟨h.hr, (hg.block r (lt_of_block h.blk) (fun e => h1 e.symm)).trans h.blk, World.ownsRow.kept h.own hg (.inr (by simp [Value.ownBlock]; exact fun e => h2 e.symm)), h.len, h.at_⟩
theorem RdAt.alloc (h : RdAt B w r g cap l k) (o : Obj) : RdAt B (w.alloc o) r g cap l k := h.below ((Below.refl _ _).alloc (Nat.le_refl _) o) (Nat.le_refl _)
theorem RdAt.gB (h : RdAt B w r g cap l k) : B ≤ g := by
  rcases h.own.2 with h2 | ⟨g', cap', cur, e1, e2, _⟩
  · simp at h2
  · simp only [Value.slice.injEq, Option.some.injEq, Addr.mk.injEq] at e1
    rw [e1.1.1]; exact e2
end

set_option maxHeartbeats 1000000 in
set_option maxRecDepth 100000 in
theorem reads_small (a : Option Addr) (len cap : Nat) (l : List UInt8) (a2 : Option Addr) (len2 cap2 : Nat) (K M : Nat → Int) (w : World) (hin : In w a len cap l) (hlk : Looks w a2 len2 K M) (hl : len ≤ 100000) (hl2 : len2 ≤ 1000) :
    Calls Try.prog 4 #[.slice a len cap, .slice a2 len2 cap2] w fun e w' => e = .returned (.bool true) ∧ Below w.heap.size w w' := by
  obtain ⟨i0, hi, hz0, hz1, hz2⟩ := info_parts info5
  have HIN : Hid (In w a len cap l) := hin
  have HLL : Hid (l.length = len) := hin.1
  have HLK : Hid (Looks w a2 len2 K M) := hlk
  clear hin hlk
  have q1 : (len : Int) ≤ 100000 := by omega
  have q2 : (len2 : Int) ≤ 1000 := by omega
  have H0 : Hid ((w.alloc (.cells #[] 5)).ownsRow w.heap.size 5 1 (.slice (some ⟨w.heap.size, 0, none⟩) 0 0) 0 (U [])) := World.ownsRow_made w #[] 0 (Nat.le_refl _) (by unfold maxLen; omega) rfl
  have HB0 : Hid (Below w.heap.size w (w.alloc (.cells #[] 5))) := (Below.refl _ _).alloc (Nat.le_refl _) _
  go_enter Try.func4, Try.ntmps4
  go_wp2_with (at_builtin; refine wpList_append_in _ rfl (.tmp 33) (.tmp 34) 22 rfl w.heap.size 5 i0 Try.underlying22 hi hz0 hz1 hz2 _ [] 0 rfl rfl H0.out a len cap l rfl (HIN.out.below HB0.out) (by omega) HB0.out.size ?_)
  intro v1 w1 hown1 hg1
  have hb1 := HB0.out.grown hg1 HB0.out.size (by intro b hb; simp [Value.ownBlock] at hb; omega)
  have HO1' : Own 5 w.heap.size w1 v1 l := hown1
  obtain ⟨ao, cp, rfl, hin1⟩ := HO1'.form (by have := HLL.out; omega)
  rw [HLL.out] at hin1 HO1' ⊢
  have HI1 : Hid (In w1 ao len cp l) := hin1
  have HO1 : Hid (Own 5 w.heap.size w1 (.slice ao len cp) l) := HO1'
  clear hown1 hg1 hin1 HO1'
  go_wp2_with fail
  refine (over_is _ _ _ _ _ HI1.out).mono ?_
  rintro e w2 ⟨r, g, rfl, hrd, hb2⟩
  have HR2 : Hid (RdAt w1.heap.size w2 r g len l 0) := hrd
  have hbb2 := hb1.trans (hb2.mono hb1.size)
  have HO2 : Hid (Own 5 w.heap.size w2 (.slice ao len cp) l) := HO1.out.below hb2 (Nat.le_refl _)
  clear hrd
  go_wp2_with fail
  refine (spoil_any _ len ao cp l _ HLL.out HO2.out (by omega)).mono ?_
  rintro e w3 ⟨rfl, hg3⟩
  have HR3 : Hid (RdAt w1.heap.size w3 r g len l 0) := HR2.out.kept hg3 (by intro e; have h1 := (HO1.out.lt r e).2; have h2 := HR2.out.hr; omega) (by intro e; have h1 := (HO1.out.lt g e).2; have h2 := HR2.out.gB; omega)
  have hbb3 := hbb2.grown hg3 hbb2.size (by intro b hb; exact (HO1.out.lt b hb).1)
  have HB1 : Hid (w.heap.size ≤ w1.heap.size) := hb1.size
  clear hg3 hb1 hb2 hbb2
  go_wp2_with fail
  go_loopw [7, 43] (fun lv i wr => ∃ (j k m : Nat) (a' : Option Addr) (cp' : Nat), i = .int .i64 j ∧ j ≤ len2 ∧ lv = .slice a' m cp' ∧ m ≤ 100000 ∧ Hid (k + m = len ∧ In w a' m cp' (l.drop k) ∧ RdAt w1.heap.size wr r g len l k ∧ Below w.heap.size w wr))
    (fun _ i _ => len2 - (intOf i).toNat)
  case atStart => exact ⟨0, 0, len, a, cap, rfl, by omega, rfl, by omega, by omega, HIN.out, HR3.out, hbb3⟩
  case round =>
    obtain ⟨j, k, m, a', cp', rfl, hj, rfl, hm, hr⟩ := hrel
    by_cases hend : j = len2
    · have q3 : (len2 : Int) ≤ (j : Int) := by omega
      clear hend
      go_wp2_with fail
      refine (leftIs hr.out.2.2.1).mono ?_
      rw [HLL.out, show (len : Int) - (k : Int) = (m : Int) by have := hr.out.1; omega]
      rintro e w4 ⟨rfl, n, rfl⟩
      go_wp2_with fail
      refine (lives _).mono ?_
      rintro e w5 ⟨rfl, hb5⟩
      go_wp2
      go_ret
      exact ⟨rfl, (below_drewN hr.out.2.2.2 n).trans (hb5.mono hr.out.2.2.2.size)⟩
    · have q3 : (j : Int) < (len2 : Int) := by omega
      obtain ⟨b2, off2, rfl, hb2l, hcells⟩ := HLK.out (by omega)
      obtain ⟨hk1, hm1, hm2, hm3⟩ := hcells j (by omega)
      have hk1' : wr.cell? ⟨b2, off2 + j * 2, none⟩ = some (.int .i64 (K j)) := (hr.out.2.2.2.cell (p := ⟨b2, off2 + j * 2, none⟩) hb2l).trans hk1
      have hm1' : wr.cell? ⟨b2, off2 + j * 2 + 1, none⟩ = some (.int .i64 (M j)) := (hr.out.2.2.2.cell (p := ⟨b2, off2 + j * 2 + 1, none⟩) hb2l).trans hm1
      generalize K j = kd at *
      generalize M j = mo at *
      clear hend hcells hk1 hm1
      by_cases h0 : kd = 0
      · subst h0
        have HU : Hid ((dec (l.drop k)).2.1 ≤ m) := by show _ ≤ _; have h1 := dec_used (l.drop k); have h2 := hr.out.1; have h3 := HLL.out; simp only [List.length_drop] at h1; omega
        obtain ⟨n0, s0, e0, hdd⟩ : ∃ n0 s0 e0, dec (l.drop k) = (n0, s0, e0) := ⟨_, _, _, rfl⟩
        rw [hdd] at HU
        have HDD : Hid (dec (l.drop k) = (n0, s0, e0)) := hdd
        clear hdd
        obtain ⟨a'', hsl, hin''⟩ := slice_from hr.out.2.1 s0 (by have := HU.out; omega)
        have HSL : Hid (∀ W, (Instr.slice 22 (.slice a' m cp') (some (.int .i64 ((s0 : Nat) : Int))) none none).run Try.prog W = .ok (.slice a'' (m - s0) (cp' - s0)) W) := hsl
        have HI'' : Hid (In w a'' (m - s0) (cp' - s0) (l.drop (k + s0))) := by show In _ _ _ _ _; rw [← List.drop_drop]; exact hin''
        clear hsl hin''
        go_wp2_with fail
        refine (uint_is (hr.out.2.2.1.alloc _)).mono ?_
        rw [HDD.out]
        rintro e w4 ⟨rfl, h4, hb4⟩
        have H4 : Hid (RdAt w1.heap.size w4 r g len l (k + s0)) := h4
        have HBw4 : Hid (Below w.heap.size w w4) := (hr.out.2.2.2.alloc hr.out.2.2.2.size _).trans (hb4.mono HB1.out)
        clear h4 hb4
        go_wp2_with fail
        refine (refUint _ _ _ _ _ (hr.out.2.1.below HBw4.out)).mono ?_
        rw [HDD.out]
        rintro e w5 ⟨rfl, rfl⟩
        go_wp2_with (refine wpList_slice_from rfl (.tmp 139) (.tmp 140) rfl _ _ s0 rfl rfl HSL.out ?_)
        refine (leftIs H4.out).mono ?_
        rw [HLL.out, show (len : Int) - ((k + s0 : Nat) : Int) = ((m - s0 : Nat) : Int) by have := hr.out.1; have := HU.out; omega]
        rintro e w6 ⟨rfl, n6, rfl⟩
        go_wp2
        go_roundw
        case rel => exact ⟨j + 1, k + s0, m - s0, a'', cp' - s0, by go_num, by omega, rfl, by omega, by have := hr.out.1; have := HU.out; omega, HI''.out, H4.out.drewN n6, below_drewN HBw4.out n6⟩
        case measure => simp [intOf]; omega
      · by_cases h1 : kd = 1
        · subst h1
          clear h0
          have HU : Hid ((txt (l.drop k) mo).2.1 ≤ m) := by show _ ≤ _; have h1 := txt_used (l.drop k) mo; have h2 := hr.out.1; have h3 := HLL.out; simp only [List.length_drop] at h1; omega
          obtain ⟨n0, s0, e0, hdd⟩ : ∃ n0 s0 e0, txt (l.drop k) mo = (n0, s0, e0) := ⟨_, _, _, rfl⟩
          rw [hdd] at HU
          have HDD : Hid (txt (l.drop k) mo = (n0, s0, e0)) := hdd
          obtain ⟨S0, hS0⟩ : ∃ S0 : ByteArray, S0 = ⟨n0.toArray⟩ := ⟨_, rfl⟩
          have HS0 : Hid ((⟨n0.toArray⟩ : ByteArray) = S0) := hS0.symm
          clear hdd hS0
          obtain ⟨a'', hsl, hin''⟩ := slice_from hr.out.2.1 s0 (by have := HU.out; omega)
          have HSL : Hid (∀ W, (Instr.slice 22 (.slice a' m cp') (some (.int .i64 ((s0 : Nat) : Int))) none none).run Try.prog W = .ok (.slice a'' (m - s0) (cp' - s0)) W) := hsl
          have HI'' : Hid (In w a'' (m - s0) (cp' - s0) (l.drop (k + s0))) := by show In _ _ _ _ _; rw [← List.drop_drop]; exact hin''
          clear hsl hin''
          go_wp2_with fail
          refine (text_isG mo hm2 hm3 (hr.out.2.2.1.alloc _)).mono ?_
          rw [HDD.out, HS0.out]
          rintro e w4 ⟨rfl, h4, hb4⟩
          have H4 : Hid (RdAt w1.heap.size w4 r g len l (k + s0)) := h4
          have HBw4 : Hid (Below w.heap.size w w4) := (hr.out.2.2.2.alloc hr.out.2.2.2.size _).trans (((hr.out.2.2.1.alloc _).keeps hb4).mono HB1.out)
          have hcm : w4.cell? ⟨wr.heap.size, 1, none⟩ = some (.int .i64 mo) := hb4.cell (by simp) (by have := lt_of_block hr.out.2.2.1.blk; simp; omega)
          clear h4 hb4
          go_wp2_with fail
          refine (refText _ _ _ _ mo hm2 hm3 _ (hr.out.2.1.below HBw4.out)).mono ?_
          rw [HDD.out, HS0.out]
          rintro e w5 ⟨rfl, rfl⟩
          go_wp2_with (refine wpList_slice_from rfl (.tmp 139) (.tmp 140) rfl _ _ s0 rfl rfl HSL.out ?_)
          refine (leftIs H4.out).mono ?_
          rw [HLL.out, show (len : Int) - ((k + s0 : Nat) : Int) = ((m - s0 : Nat) : Int) by have := hr.out.1; have := HU.out; omega]
          rintro e w6 ⟨rfl, n6, rfl⟩
          go_wp2
          go_roundw
          case rel => exact ⟨j + 1, k + s0, m - s0, a'', cp' - s0, by go_num, by omega, rfl, by omega, by have := hr.out.1; have := HU.out; omega, HI''.out, H4.out.drewN n6, below_drewN HBw4.out n6⟩
          case measure => simp [intOf]; omega
        · by_cases h2 : kd = 2
          · subst h2
            clear h0 h1
            by_cases hm0 : m = 0
            · have HU : Hid (0 ≤ m) := Nat.zero_le _
              have q5 : ((m : Int) == 0) = true := by rw [beq_iff_eq]; omega
              obtain ⟨a'', hsl, hin''⟩ := slice_from hr.out.2.1 0 (by have := HU.out; omega)
              have HSL : Hid (∀ W, (Instr.slice 22 (.slice a' m cp') (some (.int .i64 ((0 : Nat) : Int))) none none).run Try.prog W = .ok (.slice a'' (m - 0) (cp' - 0)) W) := hsl
              have HI'' : Hid (In w a'' (m - 0) (cp' - 0) (l.drop (k + 0))) := by show In _ _ _ _ _; rw [← List.drop_drop]; exact hin''
              clear hsl hin''
              go_wp2_with fail
              refine (byte_endG (hr.out.2.2.1.alloc _) (by have := hr.out.1; have := HLL.out; omega)).mono ?_
              rintro e w4 ⟨rfl, h4, hb4⟩
              have H4 : Hid (RdAt w1.heap.size w4 r g len l (k + 0)) := h4
              have HBw4 : Hid (Below w.heap.size w w4) := (hr.out.2.2.2.alloc hr.out.2.2.2.size _).trans (((hr.out.2.2.1.alloc _).keeps hb4).mono HB1.out)
              clear h4 hb4 hm0
              go_wp2_with (refine wpList_slice_from rfl (.tmp 139) (.tmp 140) rfl _ _ 0 rfl rfl HSL.out ?_)
              refine (leftIs H4.out).mono ?_
              rw [HLL.out, show (len : Int) - ((k + 0 : Nat) : Int) = ((m - 0 : Nat) : Int) by have := hr.out.1; have := HU.out; omega]
              rintro e w6 ⟨rfl, n6, rfl⟩
              go_wp2
              go_roundw
              case rel => exact ⟨j + 1, k + 0, m - 0, a'', cp' - 0, by go_num, by omega, rfl, by omega, by have := hr.out.1; have := HU.out; omega, HI''.out, H4.out.drewN n6, below_drewN HBw4.out n6⟩
              case measure => simp [intOf]; omega
            · have HU : Hid (1 ≤ m) := by show 1 ≤ m; omega
              have q5 : ((m : Int) == 0) = false := by rw [beq_eq_false_iff_ne]; omega
              have q6 : (0 : Int) < (m : Int) := by omega
              have hkl : k < l.length := by have := hr.out.1; have := HLL.out; omega
              obtain ⟨c, hc⟩ : ∃ c, c = l[k].toNat := ⟨_, rfl⟩
              have HC : Hid (c = l[k].toNat) := hc
              obtain ⟨a'', hsl, hin''⟩ := slice_from hr.out.2.1 1 (by have := HU.out; omega)
              have HSL : Hid (∀ W, (Instr.slice 22 (.slice a' m cp') (some (.int .i64 ((1 : Nat) : Int))) none none).run Try.prog W = .ok (.slice a'' (m - 1) (cp' - 1)) W) := hsl
              have HI'' : Hid (In w a'' (m - 1) (cp' - 1) (l.drop (k + 1))) := by show In _ _ _ _ _; rw [← List.drop_drop]; exact hin''
              clear hsl hin''
              obtain ⟨b3, off3, rfl, hb3, hcell3⟩ := hr.out.2.1.2.2.2.2 (by omega)
              have hc3 : w.cell? ⟨b3, off3, none⟩ = some (.int .u8 (c : Int)) := by
                have e := hcell3 0 l[k] (by rw [List.getElem?_drop, Nat.add_zero]; exact List.getElem?_eq_getElem hkl)
                rw [Nat.add_zero] at e
                rw [e, hc]
              have HC3 : Hid (w.cell? ⟨b3, off3, none⟩ = some (.int .u8 (c : Int))) := hc3
              have HB3 : Hid (b3 < w.heap.size) := hb3
              clear hcell3 hc hc3 hb3 hm0
              go_wp2_with fail
              refine (byte_isG (hr.out.2.2.1.alloc _) hkl c HC.out).mono ?_
              rintro e w4 ⟨rfl, h4, hb4⟩
              have H4 : Hid (RdAt w1.heap.size w4 r g len l (k + 1)) := h4
              have HBw4 : Hid (Below w.heap.size w w4) := (hr.out.2.2.2.alloc hr.out.2.2.2.size _).trans (((hr.out.2.2.1.alloc _).keeps hb4).mono HB1.out)
              have hc4 : w4.cell? ⟨b3, off3, none⟩ = some (.int .u8 (c : Int)) := (HBw4.out.cell (p := ⟨b3, off3, none⟩) HB3.out).trans HC3.out
              clear h4 hb4 HC hkl
              go_wp2_with (refine wpList_slice_from rfl (.tmp 139) (.tmp 140) rfl _ _ 1 rfl rfl HSL.out ?_)
              refine (leftIs H4.out).mono ?_
              rw [HLL.out, show (len : Int) - ((k + 1 : Nat) : Int) = ((m - 1 : Nat) : Int) by have := hr.out.1; have := HU.out; omega]
              rintro e w6 ⟨rfl, n6, rfl⟩
              go_wp2
              go_roundw
              case rel => exact ⟨j + 1, k + 1, m - 1, a'', cp' - 1, by go_num, by omega, rfl, by omega, by have := hr.out.1; have := HU.out; omega, HI''.out, H4.out.drewN n6, below_drewN HBw4.out n6⟩
              case measure => simp [intOf]; omega
          · have n0 : (kd == 0) = false := by simp [h0]
            have n1 : (kd == 1) = false := by simp [h1]
            have n2 : (kd == 2) = false := by simp [h2]
            clear h0 h1 h2
            have HU : Hid (0 ≤ m) := Nat.zero_le _
            obtain ⟨a'', hsl, hin''⟩ := slice_from hr.out.2.1 0 (by have := HU.out; omega)
            have HSL : Hid (∀ W, (Instr.slice 22 (.slice a' m cp') (some (.int .i64 ((0 : Nat) : Int))) none none).run Try.prog W = .ok (.slice a'' (m - 0) (cp' - 0)) W) := hsl
            have HI'' : Hid (In w a'' (m - 0) (cp' - 0) (l.drop (k + 0))) := by show In _ _ _ _ _; rw [← List.drop_drop]; exact hin''
            clear hsl hin''
            by_cases hm0 : m = 0
            · have q5 : ((m : Int) == 0) = true := by rw [beq_iff_eq]; omega
              have q6 : (m : Int) ≤ 0 := by omega
              have HE : Hid ((if k < l.length then (12 : Int) else 0) = 0) := if_neg (by have := hr.out.1; have := HLL.out; omega)
              go_wp2_with fail
              refine (end_is (hr.out.2.2.1.alloc _)).mono ?_
              rw [HE.out]
              rintro e w4 ⟨rfl, n4, hw4⟩
              have H4 : Hid (RdAt w1.heap.size w4 r g len l (k + 0)) := by show RdAt _ _ _ _ _ _ _; rw [hw4]; exact (hr.out.2.2.1.alloc _).drewN n4
              have HBw4 : Hid (Below w.heap.size w w4) := by show Below _ _ _; rw [hw4]; exact below_drewN (hr.out.2.2.2.alloc hr.out.2.2.2.size _) n4
              clear hm0 hw4
              go_wp2_with (refine wpList_slice_from rfl (.tmp 139) (.tmp 140) rfl _ _ 0 rfl rfl HSL.out ?_)
              refine (leftIs H4.out).mono ?_
              rw [HLL.out, show (len : Int) - ((k + 0 : Nat) : Int) = ((m - 0 : Nat) : Int) by have := hr.out.1; have := HU.out; omega]
              rintro e w6 ⟨rfl, n6, rfl⟩
              go_wp2
              go_roundw
              case rel => exact ⟨j + 1, k + 0, m - 0, a'', cp' - 0, by go_num, by omega, rfl, by omega, by have := hr.out.1; have := HU.out; omega, HI''.out, H4.out.drewN n6, below_drewN HBw4.out n6⟩
              case measure => simp [intOf]; omega
            · have q5 : ((m : Int) == 0) = false := by rw [beq_eq_false_iff_ne]; omega
              have q6 : (0 : Int) < (m : Int) := by omega
              have HE : Hid ((if k < l.length then (12 : Int) else 0) = 12) := if_pos (by have := hr.out.1; have := HLL.out; omega)
              go_wp2_with fail
              refine (end_is (hr.out.2.2.1.alloc _)).mono ?_
              rw [HE.out]
              rintro e w4 ⟨rfl, n4, hw4⟩
              have H4 : Hid (RdAt w1.heap.size w4 r g len l (k + 0)) := by show RdAt _ _ _ _ _ _ _; rw [hw4]; exact (hr.out.2.2.1.alloc _).drewN n4
              have HBw4 : Hid (Below w.heap.size w w4) := by show Below _ _ _; rw [hw4]; exact below_drewN (hr.out.2.2.2.alloc hr.out.2.2.2.size _) n4
              clear hm0 hw4
              go_wp2_with (refine wpList_slice_from rfl (.tmp 139) (.tmp 140) rfl _ _ 0 rfl rfl HSL.out ?_)
              refine (leftIs H4.out).mono ?_
              rw [HLL.out, show (len : Int) - ((k + 0 : Nat) : Int) = ((m - 0 : Nat) : Int) by have := hr.out.1; have := HU.out; omega]
              rintro e w6 ⟨rfl, n6, rfl⟩
              go_wp2
              go_roundw
              case rel => exact ⟨j + 1, k + 0, m - 0, a'', cp' - 0, by go_num, by omega, rfl, by omega, by have := hr.out.1; have := HU.out; omega, HI''.out, H4.out.drewN n6, below_drewN HBw4.out n6⟩
              case measure => simp [intOf]; omega

#print axioms reads_small
end Go.Proofs.Ytdealgbbahmigaa.Oct
