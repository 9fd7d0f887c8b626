/-
  Layer 5 (disk): the law DiskPlays.
-/
import Derived.Test.YtmhdldhplhffcaaPlay
import Derived.BigQuiet
import Derived.Lib.SlBytesConst
namespace Go.Proofs.Ytmhdldhplhffcaa.Oct
open Go.RowKit Go.Lib

theorem run_bx (W : World) : (Instr.buildSlice 30 1 #[(0, .int .u8 120)]).run Try.prog W = .ok (.slice (some ⟨W.heap.size, 0, none⟩) 1 1) (W.alloc (.cells #[.int .u8 120] 5)) := by kernel_rfl
theorem run_cx (W : World) : (convert 30 30 (.slice (some ⟨W.heap.size, 0, none⟩) 1 1)).run Try.prog (W.alloc (.cells #[.int .u8 120] 5)) = .ok (.slice (some ⟨W.heap.size, 0, none⟩) 1 1) (W.alloc (.cells #[.int .u8 120] 5 (1, 2))) := run_convert_bytes_const W 30 5 #[.int .u8 120] 1 1 Try.underlying30 Try.underlying5
theorem run_ax (W : World) (a : Option Addr) (n c : Nat) : (Instr.build 33 #[(0, .int .i64 0), (2, .slice a n c)]).run Try.prog W = .ok (.agg #[.int .i64 0, .int .i64 0, .slice a n c, .bool false, .slice none 0 0]) W := by kernel_rfl

set_option maxHeartbeats 2000000 in
set_option maxRecDepth 100000 in
/-- no disk: a count that is out of bounds -/
theorem plays_bad (n : Int) (hn : n < 1 ∨ 4096 < n) (a : Option Addr) (len cap : Nat) (w : World) :
    Calls Try.prog 3 #[.int .i64 n, .slice a len cap] w fun e w' => e = .returned (.bool true) ∧ Below w.heap.size w w' := by
  have HN : Hid (n < 1 ∨ 4096 < n) := hn
  rcases hn with hn | hn
  · have q1 : ¬ (64 : Int) < n := by omega
    clear hn
    go_enter Try.func3, Try.ntmps3
    go_wp2_with fail
    refine (new_bad n HN.out w).mono ?_
    rintro e w1 ⟨rfl, rfl⟩
    go_wp2_with fail
    refine (rnew_bad n HN.out w1).mono ?_
    rintro e w2 ⟨rfl, rfl⟩
    go_wp2_with fail
    go_loopw [9, 7] (fun u v wr => u = .int .i64 0 ∧ v = .pointer none ∧ wr = w2) (fun _ _ _ => 0)
    case atStart => exact ⟨rfl, rfl, rfl⟩
    case round =>
      obtain ⟨rfl, rfl, rfl⟩ := hrel
      by_cases hl : len = 0
      · subst hl
        go_wp2_with fail
        refine (lives_is wr).mono ?_
        rintro e w3 ⟨rfl, hb3⟩
        have HB3 : Hid (Below wr.heap.size wr w3) := hb3
        clear hb3
        go_wp2
        go_ret
        exact ⟨rfl, HB3.out⟩
      · have q5 : (0 : Int) < (len : Int) := by omega
        go_wp2_with fail
        refine (lives_is wr).mono ?_
        rintro e w3 ⟨rfl, hb3⟩
        have HB3 : Hid (Below wr.heap.size wr w3) := hb3
        clear hb3
        go_wp2
        go_ret
        exact ⟨rfl, HB3.out⟩
  · have q1 : (64 : Int) < n := by omega
    have q2 : ¬ n ≤ (4096 : Int) := by omega
    clear hn
    go_enter Try.func3, Try.ntmps3
    go_wp2_with fail
    refine (new_bad n HN.out w).mono ?_
    rintro e w1 ⟨rfl, rfl⟩
    go_wp2_with fail
    refine (rnew_bad n HN.out w1).mono ?_
    rintro e w2 ⟨rfl, rfl⟩
    go_wp2_with fail
    go_loopw [9, 7] (fun u v wr => u = .int .i64 0 ∧ v = .pointer none ∧ wr = w2) (fun _ _ _ => 0)
    case atStart => exact ⟨rfl, rfl, rfl⟩
    case round =>
      obtain ⟨rfl, rfl, rfl⟩ := hrel
      by_cases hl : len = 0
      · subst hl
        go_wp2_with fail
        refine (lives_is wr).mono ?_
        rintro e w3 ⟨rfl, hb3⟩
        have HB3 : Hid (Below wr.heap.size wr w3) := hb3
        clear hb3
        go_wp2
        go_ret
        exact ⟨rfl, HB3.out⟩
      · have q5 : (0 : Int) < (len : Int) := by omega
        go_wp2_with fail
        refine (lives_is wr).mono ?_
        rintro e w3 ⟨rfl, hb3⟩
        have HB3 : Hid (Below wr.heap.size wr w3) := hb3
        clear hb3
        go_wp2
        go_ret
        exact ⟨rfl, HB3.out⟩

set_option maxHeartbeats 2000000 in
set_option maxRecDepth 100000 in
theorem plays_good (n : Int) (h1 : 1 ≤ n) (h2 : n ≤ 4096) (l : List ActV) (a : Option Addr) (len cap : Nat) (w : World) (hin : ArgA w a len cap l) :
    Calls Try.prog 3 #[.int .i64 n, .slice a len cap] w fun e w' => e = .returned (.bool true) ∧ Below w.heap.size w w' := by
  have HIN : Hid (ArgA w a len cap l) := hin
  have qm : (len : Int) ≤ 9223372036854775807 := by have := hin.2.1; have := hin.2.2.1; unfold maxLen at this; omega
  clear hin
  by_cases hbig : 64 < n
  · have q1 : (64 : Int) < n := hbig
    have q2 : n ≤ (4096 : Int) := h2
    have HM : Hid (1 ≤ 64 ∧ 64 ≤ 4096) := ⟨by omega, by omega⟩
    clear h1 h2 hbig
    go_enter Try.func3, Try.ntmps3
    go_wp2_with fail
    refine (new_is 64 HM.out.1 HM.out.2 w).mono ?_
    rintro e w1 ⟨rfl, hd1, hb1⟩
    have HD1 : Hid (Dk w1 (fun k => w.heap.size ≤ k ∧ k < w1.heap.size) (w.heap.size + 1 + 1) (fresh 64) ∧ Below w.heap.size w w1) := ⟨hd1, hb1⟩
    obtain ⟨d0, hd0⟩ : ∃ d0, w.heap.size + 1 + 1 = d0 := ⟨_, rfl⟩
    rw [hd0] at HD1 ⊢
    clear hd1 hb1 hd0
    go_wp2_with fail
    refine (rnew_is 64 HM.out.1 HM.out.2 w1).mono ?_
    rintro e w2 ⟨rfl, hr1, hb2⟩
    have HP0 : Hid (PInv w 0 d0 w1.heap.size w2) := by
      refine ⟨_, _, fresh 64, ⟨HD1.out.1.below hb2, hr1, fun k hs hr => by have := hs.2; have := hr.1; omega⟩, Nat.le_refl _, fun k hk => ?_, HD1.out.2.trans (hb2.mono HD1.out.2.size)⟩
      have := HD1.out.2.size
      rcases hk with hk | hk
      · exact hk.1
      · have := hk.1; omega
    obtain ⟨r0, hr0⟩ : ∃ r0, w1.heap.size = r0 := ⟨_, rfl⟩
    rw [hr0] at HP0 ⊢
    clear hr1 hb2 hr0 HD1
    go_wp2_with fail
    go_loopw [9, 5, 7] (fun u a5 a7 wr => ∃ t d r : Nat, u = .int .i64 (t : Int) ∧ a5 = .pointer (some ⟨d, 0, none⟩) ∧ a7 = .pointer (some ⟨r, 0, none⟩) ∧ Hid (t ≤ len ∧ t ≤ 100 ∧ PInv w t d r wr)) (fun u _ _ _ => len - (intOf u).toNat)
    case atStart => exact ⟨0, d0, r0, rfl, rfl, rfl, ⟨Nat.zero_le _, by omega, HP0.out⟩⟩
    case round =>
      obtain ⟨t, d, r, rfl, rfl, rfl, HP⟩ := hrel
      by_cases hlt : t = len
      · have q3 : ¬ (t : Int) < (len : Int) := by omega
        clear hlt
        go_wp2_with fail
        refine (lives_is wr).mono ?_
        rintro e w3 ⟨rfl, hb3⟩
        have HB3 : Hid (Below w.heap.size w w3) := (HP.out.2.2.base).trans (hb3.mono HP.out.2.2.base.size)
        clear hb3
        go_wp2
        go_ret
        exact ⟨rfl, HB3.out⟩
      by_cases h100 : t = 100
      · have q3 : (t : Int) < (len : Int) := by have := HP.out.1; omega
        have q4 : ¬ (t : Int) < (100 : Int) := by omega
        clear hlt h100
        go_wp2_with fail
        refine (lives_is wr).mono ?_
        rintro e w3 ⟨rfl, hb3⟩
        have HB3 : Hid (Below w.heap.size w w3) := (HP.out.2.2.base).trans (hb3.mono HP.out.2.2.base.size)
        clear hb3
        go_wp2
        go_ret
        exact ⟨rfl, HB3.out⟩
      · have q3 : (t : Int) < (len : Int) := by have := HP.out.1; omega
        have q4 : (t : Int) < (100 : Int) := by have := HP.out.2.1; omega
        have HT : Hid (t < len ∧ t < 100) := ⟨by have := HP.out.1; omega, by have := HP.out.2.1; omega⟩
        obtain ⟨b, off, hab, hbl, hacts⟩ := HIN.out.2.2.2 (by have := HT.out.1; omega)
        subst hab
        obtain ⟨x, hx⟩ : ∃ x, l[t]? = some x := ⟨_, List.getElem?_eq_getElem (by rw [HIN.out.1]; exact HT.out.1)⟩
        obtain ⟨A, L, C, KA, KL, KC, hrng, hpart, c0⟩ := act_parts (hacts t x hx) HP.out.2.2.base hbl
        obtain ⟨M, hM⟩ : ∃ M, M = ac x A L C KA KL KC := ⟨_, rfl⟩
        rw [← hM] at hrng
        have HRG : Hid (wr.rangeAt b (off + t * 5) M) := hrng
        have HM5 : Hid (M = ac x A L C KA KL KC) := hM
        have HMS : Hid ((Try.prog.info? 33).map (·.size) = some M.length) := by show _ = _; rw [hM]; exact size33
        have HX : Hid (Parts wr w.heap.size x A L C KA KL KC) := hpart
        have HP1 : Hid (PInv w t d r wr) := HP.out.2.2
        clear hlt h100 hacts hx hbl hrng hM hpart HP HP0
        by_cases hk : x.kind = 5
        · have hk5 : (x.kind == 5) = true := by simpa using hk
          clear hk
          go_wp2_with fail
          refine (HP1.out.clone (by have := HT.out; omega)).mono ?_
          rintro e w3 ⟨rfl, hp3⟩
          have HP3 : Hid (POne w t d r wr.heap.size w3) := hp3
          obtain ⟨c, hc⟩ : ∃ c, wr.heap.size = c := ⟨_, rfl⟩
          rw [hc] at HP3 ⊢
          clear hp3 hc c0
          go_wp2_with fail
          refine (HP3.out.clone (by have := HT.out; omega)).mono ?_
          rintro e w4 ⟨rfl, hp4⟩
          have HP4 : Hid (PTwo w t t d r c w3.heap.size w4) := hp4
          obtain ⟨o, ho⟩ : ∃ o, w3.heap.size = o := ⟨_, rfl⟩
          rw [ho] at HP4 ⊢
          clear hp4 ho HP3
          have hbx := run_bx
          have hcx := run_cx
          have hax := run_ax
          go_wp2_with fail
          refine (HP4.out.sameC (by have := HT.out; omega)).mono ?_
          rintro e w5 ⟨rfl, hp5⟩
          have HP5 : Hid (PTwo w t t d r c o (w5.alloc (.cells #[.int .u8 120] 5 (1, 2)))) := hp5.below ((Below.refl _ w5).alloc (Nat.le_refl _) _)
          clear hp5 HP4
          go_wp2_with fail
          refine (HP5.out.act (by have := HT.out; omega) (xAct_parts w w5)).mono ?_
          rintro e w6 ⟨rfl, hp6⟩
          have HP6 : Hid (PTwo w t (t + 1) d r c o w6) := hp6
          clear hp6 HP5 hbx hcx hax
          go_wp2_with fail
          refine (HP6.out.sameD (by have := HT.out; omega)).mono ?_
          rintro e w7 ⟨rfl, hp7⟩
          have HP7 : Hid (PInv w (t + 1) c o w7) := hp7.drop.more (by omega)
          clear hp7 HP6
          go_wp2_with fail
          refine (HP7.out.same (by have := HT.out; omega)).mono ?_
          rintro e w8 ⟨rfl, hp8⟩
          have HP8 : Hid (PInv w (t + 1) c o w8) := hp8
          clear hp8
          go_wp2
          exact ⟨⟨t + 1, c, o, by simp, rfl, rfl, ⟨by have := HT.out; omega, by have := HT.out; omega, HP8.out⟩⟩, by have := HT.out; simp only [intOf]; omega⟩
        · have hk5 : (x.kind == 5) = false := by simpa using hk
          clear hk
          go_wp2_with (first
            | (with_reducible change wpList _ _ _ ({ dst := some 92, op := Op.load 33 _, type := _, pos := _, after := _, guard := _ } :: _) _ _; refine wpList_load_mid rfl 33 (.tmp 91) rfl b (off + t * 5) rfl M _ HRG.out Try.underlying33 rfl HMS.out ?_)
            | fail)
          rw [HM5.out]
          refine (HP1.out.act (by have := HT.out; omega) HX.out).mono ?_
          rintro e w7 ⟨rfl, hp7⟩
          have HP7 : Hid (PInv w (t + 1) d r w7) := hp7
          clear hp7 c0
          go_wp2_with fail
          refine (HP7.out.same (by have := HT.out; omega)).mono ?_
          rintro e w8 ⟨rfl, hp8⟩
          have HP8 : Hid (PInv w (t + 1) d r w8) := hp8
          clear hp8
          go_wp2
          exact ⟨⟨t + 1, d, r, by simp, rfl, rfl, ⟨by have := HT.out; omega, by have := HT.out; omega, HP8.out⟩⟩, by have := HT.out; simp only [intOf]; omega⟩
  · have q1 : ¬ (64 : Int) < n := hbig
    obtain ⟨m, rfl⟩ : ∃ m : Nat, n = (m : Int) := ⟨n.toNat, by omega⟩
    have HM : Hid (1 ≤ m ∧ m ≤ 4096) := ⟨by omega, by omega⟩
    clear h1 h2 hbig
    go_enter Try.func3, Try.ntmps3
    go_wp2_with fail
    refine (new_is m HM.out.1 HM.out.2 w).mono ?_
    rintro e w1 ⟨rfl, hd1, hb1⟩
    have HD1 : Hid (Dk w1 (fun k => w.heap.size ≤ k ∧ k < w1.heap.size) (w.heap.size + 1 + 1) (fresh m) ∧ Below w.heap.size w w1) := ⟨hd1, hb1⟩
    obtain ⟨d0, hd0⟩ : ∃ d0, w.heap.size + 1 + 1 = d0 := ⟨_, rfl⟩
    rw [hd0] at HD1 ⊢
    clear hd1 hb1 hd0
    go_wp2_with fail
    refine (rnew_is m HM.out.1 HM.out.2 w1).mono ?_
    rintro e w2 ⟨rfl, hr1, hb2⟩
    have HP0 : Hid (PInv w 0 d0 w1.heap.size w2) := by
      refine ⟨_, _, fresh m, ⟨HD1.out.1.below hb2, hr1, fun k hs hr => by have := hs.2; have := hr.1; omega⟩, Nat.le_refl _, fun k hk => ?_, HD1.out.2.trans (hb2.mono HD1.out.2.size)⟩
      have := HD1.out.2.size
      rcases hk with hk | hk
      · exact hk.1
      · have := hk.1; omega
    obtain ⟨r0, hr0⟩ : ∃ r0, w1.heap.size = r0 := ⟨_, rfl⟩
    rw [hr0] at HP0 ⊢
    clear hr1 hb2 hr0 HD1
    go_wp2_with fail
    go_loopw [9, 5, 7] (fun u a5 a7 wr => ∃ t d r : Nat, u = .int .i64 (t : Int) ∧ a5 = .pointer (some ⟨d, 0, none⟩) ∧ a7 = .pointer (some ⟨r, 0, none⟩) ∧ Hid (t ≤ len ∧ t ≤ 100 ∧ PInv w t d r wr)) (fun u _ _ _ => len - (intOf u).toNat)
    case atStart => exact ⟨0, d0, r0, rfl, rfl, rfl, ⟨Nat.zero_le _, by omega, HP0.out⟩⟩
    case round =>
      obtain ⟨t, d, r, rfl, rfl, rfl, HP⟩ := hrel
      by_cases hlt : t = len
      · have q3 : ¬ (t : Int) < (len : Int) := by omega
        clear hlt
        go_wp2_with fail
        refine (lives_is wr).mono ?_
        rintro e w3 ⟨rfl, hb3⟩
        have HB3 : Hid (Below w.heap.size w w3) := (HP.out.2.2.base).trans (hb3.mono HP.out.2.2.base.size)
        clear hb3
        go_wp2
        go_ret
        exact ⟨rfl, HB3.out⟩
      by_cases h100 : t = 100
      · have q3 : (t : Int) < (len : Int) := by have := HP.out.1; omega
        have q4 : ¬ (t : Int) < (100 : Int) := by omega
        clear hlt h100
        go_wp2_with fail
        refine (lives_is wr).mono ?_
        rintro e w3 ⟨rfl, hb3⟩
        have HB3 : Hid (Below w.heap.size w w3) := (HP.out.2.2.base).trans (hb3.mono HP.out.2.2.base.size)
        clear hb3
        go_wp2
        go_ret
        exact ⟨rfl, HB3.out⟩
      · have q3 : (t : Int) < (len : Int) := by have := HP.out.1; omega
        have q4 : (t : Int) < (100 : Int) := by have := HP.out.2.1; omega
        have HT : Hid (t < len ∧ t < 100) := ⟨by have := HP.out.1; omega, by have := HP.out.2.1; omega⟩
        obtain ⟨b, off, hab, hbl, hacts⟩ := HIN.out.2.2.2 (by have := HT.out.1; omega)
        subst hab
        obtain ⟨x, hx⟩ : ∃ x, l[t]? = some x := ⟨_, List.getElem?_eq_getElem (by rw [HIN.out.1]; exact HT.out.1)⟩
        obtain ⟨A, L, C, KA, KL, KC, hrng, hpart, c0⟩ := act_parts (hacts t x hx) HP.out.2.2.base hbl
        obtain ⟨M, hM⟩ : ∃ M, M = ac x A L C KA KL KC := ⟨_, rfl⟩
        rw [← hM] at hrng
        have HRG : Hid (wr.rangeAt b (off + t * 5) M) := hrng
        have HM5 : Hid (M = ac x A L C KA KL KC) := hM
        have HMS : Hid ((Try.prog.info? 33).map (·.size) = some M.length) := by show _ = _; rw [hM]; exact size33
        have HX : Hid (Parts wr w.heap.size x A L C KA KL KC) := hpart
        have HP1 : Hid (PInv w t d r wr) := HP.out.2.2
        clear hlt h100 hacts hx hbl hrng hM hpart HP HP0
        by_cases hk : x.kind = 5
        · have hk5 : (x.kind == 5) = true := by simpa using hk
          clear hk
          go_wp2_with fail
          refine (HP1.out.clone (by have := HT.out; omega)).mono ?_
          rintro e w3 ⟨rfl, hp3⟩
          have HP3 : Hid (POne w t d r wr.heap.size w3) := hp3
          obtain ⟨c, hc⟩ : ∃ c, wr.heap.size = c := ⟨_, rfl⟩
          rw [hc] at HP3 ⊢
          clear hp3 hc c0
          go_wp2_with fail
          refine (HP3.out.clone (by have := HT.out; omega)).mono ?_
          rintro e w4 ⟨rfl, hp4⟩
          have HP4 : Hid (PTwo w t t d r c w3.heap.size w4) := hp4
          obtain ⟨o, ho⟩ : ∃ o, w3.heap.size = o := ⟨_, rfl⟩
          rw [ho] at HP4 ⊢
          clear hp4 ho HP3
          have hbx := run_bx
          have hcx := run_cx
          have hax := run_ax
          go_wp2_with fail
          refine (HP4.out.sameC (by have := HT.out; omega)).mono ?_
          rintro e w5 ⟨rfl, hp5⟩
          have HP5 : Hid (PTwo w t t d r c o (w5.alloc (.cells #[.int .u8 120] 5 (1, 2)))) := hp5.below ((Below.refl _ w5).alloc (Nat.le_refl _) _)
          clear hp5 HP4
          go_wp2_with fail
          refine (HP5.out.act (by have := HT.out; omega) (xAct_parts w w5)).mono ?_
          rintro e w6 ⟨rfl, hp6⟩
          have HP6 : Hid (PTwo w t (t + 1) d r c o w6) := hp6
          clear hp6 HP5 hbx hcx hax
          go_wp2_with fail
          refine (HP6.out.sameD (by have := HT.out; omega)).mono ?_
          rintro e w7 ⟨rfl, hp7⟩
          have HP7 : Hid (PInv w (t + 1) c o w7) := hp7.drop.more (by omega)
          clear hp7 HP6
          go_wp2_with fail
          refine (HP7.out.same (by have := HT.out; omega)).mono ?_
          rintro e w8 ⟨rfl, hp8⟩
          have HP8 : Hid (PInv w (t + 1) c o w8) := hp8
          clear hp8
          go_wp2
          exact ⟨⟨t + 1, c, o, by simp, rfl, rfl, ⟨by have := HT.out; omega, by have := HT.out; omega, HP8.out⟩⟩, by have := HT.out; simp only [intOf]; omega⟩
        · have hk5 : (x.kind == 5) = false := by simpa using hk
          clear hk
          go_wp2_with (first
            | (with_reducible change wpList _ _ _ ({ dst := some 92, op := Op.load 33 _, type := _, pos := _, after := _, guard := _ } :: _) _ _; refine wpList_load_mid rfl 33 (.tmp 91) rfl b (off + t * 5) rfl M _ HRG.out Try.underlying33 rfl HMS.out ?_)
            | fail)
          rw [HM5.out]
          refine (HP1.out.act (by have := HT.out; omega) HX.out).mono ?_
          rintro e w7 ⟨rfl, hp7⟩
          have HP7 : Hid (PInv w (t + 1) d r w7) := hp7
          clear hp7 c0
          go_wp2_with fail
          refine (HP7.out.same (by have := HT.out; omega)).mono ?_
          rintro e w8 ⟨rfl, hp8⟩
          have HP8 : Hid (PInv w (t + 1) d r w8) := hp8
          clear hp8
          go_wp2
          exact ⟨⟨t + 1, d, r, by simp, rfl, rfl, ⟨by have := HT.out; omega, by have := HT.out; omega, HP8.out⟩⟩, by have := HT.out; simp only [intOf]; omega⟩

theorem plays_law (n : Int) (l : List ActV) (a : Option Addr) (len cap : Nat) (w : World) (hin : ArgA w a len cap l) :
    Calls Try.prog 3 #[.int .i64 n, .slice a len cap] w fun e w' => e = .returned (.bool true) ∧ Below w.heap.size w w' := by
  by_cases h : n < 1 ∨ 4096 < n
  · exact plays_bad n h a len cap w
  · exact plays_good n (by omega) (by omega) l a len cap w hin
#print axioms plays_law
end Go.Proofs.Ytmhdldhplhffcaa.Oct
