/-
  Layer 5 (disk): a disk of four sectors behind calls (the laws' written).
-/
import Derived.Test.YtmhdldhplhffcaaWhole
import Derived.Laws.IdiomCopy
import Derived.Lib.LazyBuf
namespace Go.Proofs.Ytmhdldhplhffcaa.Oct
open Go.RowKit Go.Maps Go.Lib

/-- a number's sector -/
def sec (n : Int) : Nat := (n % 4).toNat
theorem sec_lt (n : Int) : sec n < 4 := by unfold sec; omega
/-- what a call makes of a disk -/
def Disk.does (D : Disk) (x : ActV) : Disk :=
  if x.kind = 0 then (D.write (sec x.n) (whole x.bytes)).2 else if x.kind = 1 then D.flush.2 else if x.kind = 2 then (D.arm ((sec x.n : Int) * 3)).2 else D
def wrote (l : List ActV) : Disk := l.foldl Disk.does (fresh 4)
theorem wrote_snoc (l : List ActV) (x : ActV) : wrote (l ++ [x]) = (wrote l).does x := by simp [wrote]

theorem Disk.write_ops (D : Disk) (i : Int) (b : List UInt8) : (D.write i b).2.ops ≤ D.ops + 1 ∧ (D.write i b).2.n = D.n := by
  unfold Disk.write
  split
  · exact ⟨Nat.le_succ _, rfl⟩
  split
  · exact ⟨Nat.le_succ _, rfl⟩
  split
  · exact ⟨Nat.le_succ _, rfl⟩
  · exact ⟨Nat.le_refl _, rfl⟩
theorem Disk.flush_ops (D : Disk) : D.flush.2.ops ≤ D.ops + 1 ∧ D.flush.2.n = D.n := by
  unfold Disk.flush
  split
  · exact ⟨Nat.le_succ _, rfl⟩
  split
  · exact ⟨Nat.le_succ _, rfl⟩
  · exact ⟨Nat.le_refl _, rfl⟩
theorem Disk.arm_ops (D : Disk) (i : Int) : (D.arm i).2.ops = D.ops ∧ (D.arm i).2.n = D.n := by
  unfold Disk.arm
  split
  · exact ⟨rfl, rfl⟩
  split
  · exact ⟨rfl, rfl⟩
  · exact ⟨rfl, rfl⟩
theorem Disk.restart_ops (D : Disk) (k : List Int) : (D.restart k).2.ops = D.ops ∧ (D.restart k).2.n = D.n := by
  unfold Disk.restart
  split
  · exact ⟨rfl, rfl⟩
  · exact ⟨rfl, rfl⟩
theorem Disk.does_ops (D : Disk) (x : ActV) : (D.does x).ops ≤ D.ops + 1 ∧ (D.does x).n = D.n := by
  unfold Disk.does
  split
  · exact D.write_ops _ _
  split
  · exact D.flush_ops
  split
  · exact ⟨by rw [(D.arm_ops _).1]; omega, (D.arm_ops _).2⟩
  · exact ⟨Nat.le_succ _, rfl⟩
theorem wrote_ops (l : List ActV) : (wrote l).ops ≤ l.length ∧ (wrote l).n = 4 := by
  suffices h : ∀ (l : List ActV) (D : Disk), (l.foldl Disk.does D).ops ≤ D.ops + l.length ∧ (l.foldl Disk.does D).n = D.n by
    have := h l (fresh 4)
    simpa [wrote, fresh] using this
  intro l
  induction l with
  | nil => intro D; exact ⟨Nat.le_refl _, rfl⟩
  | cons x l ih =>
    intro D
    obtain ⟨h1, h2⟩ := ih (D.does x)
    obtain ⟨g1, g2⟩ := D.does_ops x
    exact ⟨by simp only [List.foldl_cons, List.length_cons]; omega, by simp only [List.foldl_cons]; rw [h2, g2]⟩

/-- a string's bytes in new memory -/
theorem conv_str (l : List UInt8) (hl : l.length = 256) (w : World) : ∃ cap W, (convert 9 30 (.string (strOf l))).run Try.prog w = .ok (.slice (some ⟨w.heap.size, 0, none⟩) 256 cap) W ∧ In W (some ⟨w.heap.size, 0, none⟩) 256 cap l ∧ Below w.heap.size w W := by
  have hs : (strOf l).size = 256 := by show l.toArray.size = 256; rw [List.size_toArray, hl]
  have hge := grownCap_ge w (strOf l).size 0 5
  have hrun := run_bytes_of_string (P := Try.prog) w 9 30 5 (strOf l) Try.underlying9 Try.underlying30 Try.underlying5
  rw [hs] at hrun hge
  refine ⟨_, _, hrun, ⟨hl, hge, by omega, by simp, fun _ => ⟨w.heap.size, 0, rfl, by simp, fun i c hc => ?_⟩⟩, ?_⟩
  · have hlt : i < (strOf l).data.size := by have := (List.getElem?_eq_some_iff.1 hc).1; show i < l.toArray.size; rwa [List.size_toArray]
    have e1 := World.cell?_alloc_mark w.drew (bytesRow (strOf l) (grownCap w 256 0 5)) 5 ((bytesRow (strOf l) (grownCap w 256 0 5)).size, (bytesRow (strOf l) (grownCap w 256 0 5)).size + 1) i
    rw [Nat.zero_add]
    refine e1.trans ?_
    rw [bytesRow_at (strOf l) _ i hlt]
    have e2 : (strOf l).data[i] = c := by
      have := (List.getElem?_eq_some_iff.1 hc).2
      simpa [strOf] using this
    rw [e2]
  · have h := (Below.refl w.heap.size w.drew).alloc (Nat.le_refl _) (.cells (bytesRow (strOf l) (grownCap w 256 0 5)) 5 ((bytesRow (strOf l) (grownCap w 256 0 5)).size, (bytesRow (strOf l) (grownCap w 256 0 5)).size + 1))
    exact ⟨h.os, h.tape, h.output, h.size, h.block⟩
theorem wpList_conv {P : Program} {w w' : World} {ops : Array Oper} {rest : List Oper} {o : Oper} {a : Act} {Q : Exit → Act → World → Prop} (hw : Region.wanted o (yielded ops a.tmps) = true) (x : Operand) (src dst : TypeId) (ho : o.op = .convert src dst x) (v v' : Value) (hx : a.eval x = v)
    (hrun : (convert src dst v).run P w = .ok v' w') (h : wpList P ops Q rest (a.put o.dst v') w') : wpList P ops Q (o :: rest) a w := by
  refine Go.BigFrame.wpList_want hw fun K hK => ?_
  unfold Oper.wp
  simp [execOp, ho, hx, hrun, Result.andThen]
  exact hK _ _ h
theorem sec_is (n : Int) : (IntKind.u64.wrap n).tmod 4 = ((sec n : Nat) : Int) := by
  rw [IntKind.wrap_u64, Int.tmod_eq_emod_of_nonneg (Int.emod_nonneg _ (by omega))]
  unfold sec
  omega

/-- a call's cells -/
def ac (x : ActV) (A : Option Addr) (L C : Nat) (KA : Option Addr) (KL KC : Nat) : List Value := [.int .i64 x.kind, .int .i64 x.n, .slice A L C, .bool x.short, .slice KA KL KC]
theorem size33 : (Try.prog.info? 33).map (·.size) = some 5 := by kernel_rfl
theorem ac_one (x : ActV) (A : Option Addr) (L C : Nat) (KA : Option Addr) (KL KC : Nat) : ∀ v ∈ ac x A L C KA KL KC, v.oneCell' = true := by
  intro v hv
  simp only [ac, List.mem_cons, List.mem_nil_iff, or_false] at hv
  rcases hv with rfl | rfl | rfl | rfl | rfl <;> rfl
theorem copied33 {w : World} {b : Nat} {L cells : List Value} (hl : cells.length = 5) (hL : L.length = 5) (h : Blk w b 33 (L.take 0 ++ cells ++ L.drop (0 + cells.length))) : Blk w b 33 cells := by
  rw [List.drop_eq_nil_of_le (by omega)] at h
  simpa using h
theorem act_range {w : World} {b off : Nat} {x : ActV} (h : ActAt w b off x) : ∃ A L C KA KL KC, w.rangeAt b off (ac x A L C KA KL KC) ∧ In w A L C x.bytes ∧ InI w KA KL KC x.keep ∧ KL ≤ 17592186044416 ∧ (-9223372036854775808 ≤ x.n ∧ x.n ≤ 9223372036854775807) := by
  obtain ⟨A, L, C, KA, KL, KC, h0, h1, h2, h3, h4, h5, h6, h7, h8⟩ := h
  refine ⟨A, L, C, KA, KL, KC, fun j v hj => ?_, h5, h6, h7, h8⟩
  have hlt : j < 5 := (List.getElem?_eq_some_iff.1 hj).1
  have : j = 0 ∨ j = 1 ∨ j = 2 ∨ j = 3 ∨ j = 4 := by omega
  rcases this with rfl | rfl | rfl | rfl | rfl
  · simp [ac] at hj; rw [← hj]; exact h0
  · simp [ac] at hj; rw [← hj]; exact h1
  · simp [ac] at hj; rw [← hj]; exact h2
  · simp [ac] at hj; rw [← hj]; exact h3
  · simp [ac] at hj; rw [← hj]; exact h4

def WInv (w : World) (l : List ActV) (t d : Nat) (wr : World) : Prop := DkB wr w.heap.size d (wrote (l.take t)) ∧ Below w.heap.size w wr

set_option maxHeartbeats 2000000 in
set_option maxRecDepth 100000 in
theorem written_is (l : List ActV) (a : Option Addr) (len cap : Nat) (w : World) (hin : ArgA w a len cap l) :
    Calls Try.prog 14 #[.slice a len cap] w fun e w' => ∃ d, e = .returned (.pointer (some ⟨d, 0, none⟩)) ∧ DkB w' w.heap.size d (wrote (l.take 60)) ∧ Below w.heap.size w w' := by
  have HIN : Hid (ArgA w a len cap l) := hin
  have qm : (len : Int) ≤ 9223372036854775807 := by have := hin.2.1; have := hin.2.2.1; unfold maxLen at this; omega
  clear hin
  go_enter Try.func14, Try.ntmps14
  go_wp2_with fail
  refine (new_is 4 (by omega) (by omega) w).mono ?_
  rintro e w1 ⟨rfl, hd1, hb1⟩
  obtain ⟨d, hd⟩ : ∃ d, d = w.heap.size + 1 + 1 := ⟨_, rfl⟩
  rw [← hd] at hd1 ⊢
  have HW1 : Hid (WInv w l 0 d w1) := ⟨⟨_, hd1, fun k hk => hk.1⟩, hb1⟩
  clear hd1 hb1 hd
  go_wp2_with fail
  go_loopw [14] (fun i wr => ∃ t : Nat, i = .int .i64 t ∧ t ≤ len ∧ Hid (t ≤ 60 ∧ WInv w l t d wr)) (fun i _ => len - (intOf i).toNat)
  case atStart => exact ⟨0, rfl, Nat.zero_le _, by omega, HW1.out⟩
  case round =>
    obtain ⟨t, rfl, ht, hr⟩ := hrel
    by_cases hlt : t = len
    · have q1 : ¬ ((t : Int) < (len : Int)) := by omega
      have HE : Hid (l.take t = l.take 60) := by
        show _ = _
        have h1 := HIN.out.1
        have h2 := hr.out.1
        rw [List.take_of_length_le (by omega), List.take_of_length_le (by omega)]
      go_wp2
      go_ret
      refine ⟨d, rfl, ?_, hr.out.2.2⟩
      have := hr.out.2.1
      rwa [HE.out] at this
    · have q1 : (t : Int) < (len : Int) := by omega
      obtain ⟨b, off, hab, hbl, hacts⟩ := HIN.out.2.2.2 (by omega)
      subst hab
      obtain ⟨x, hx⟩ : ∃ x, l[t]? = some x := ⟨_, List.getElem?_eq_getElem (by rw [HIN.out.1]; omega)⟩
      have hA := (hacts t x hx).below hr.out.2.2 hbl
      obtain ⟨A, L, C, KA, KL, KC, hrng, hbytes, _, _, hwf⟩ := act_range hA
      obtain ⟨M, hM⟩ : ∃ M, M = ac x A L C KA KL KC := ⟨_, rfl⟩
      rw [← hM] at hrng
      have HRG : Hid (wr.rangeAt b (off + t * 5) M) := hrng
      have HM : Hid (M = ac x A L C KA KL KC) := hM
      have HML : Hid (M.length = 5 ∧ ∀ v ∈ M, v.oneCell' = true) := by rw [hM]; exact ⟨rfl, ac_one x A L C KA KL KC⟩
      have HMS : Hid ((Try.prog.info? 33).map (·.size) = some M.length) := by show _ = _; rw [HML.out.1]; exact size33
      have HBY : Hid (In wr A L C x.bytes) := hbytes
      have HTK : Hid (l.take (t + 1) = l.take t ++ [x]) := by show _ = _; rw [List.take_add_one, hx]; rfl
      have HLT : Hid (t < len) := by show _ < _; omega
      have hw : IntKind.i64.wrap ((t : Int) + 1) = (t : Int) + 1 := wrapi (by omega) (by omega)
      have hzero : ∀ W, (zeroValue 33).run Try.prog W = .ok (.agg #[.int .i64 0, .int .i64 0, .slice none 0 0, .bool false, .slice none 0 0]) W := fun W => by kernel_rfl
      have hsec := sec_is x.n
      obtain ⟨q, hq⟩ : ∃ q, q = sec x.n := ⟨_, rfl⟩
      rw [← hq] at hsec
      have hql : q < 4 := by rw [hq]; exact sec_lt _
      have hw3 : IntKind.i64.wrap ((q : Int) * 3) = (q : Int) * 3 := wrapi (by omega) (by omega)
      have hwq : IntKind.i64.wrap (q : Int) = (q : Int) := wrapi (by omega) (by omega)
      have HQ : Hid (q = sec x.n ∧ q < 4) := ⟨hq, hql⟩
      have HDO : Hid ((wrote (l.take t)).ops ≤ 60 ∧ (wrote (l.take t)).n = 4) := ⟨Nat.le_trans (wrote_ops _).1 (by rw [List.length_take]; have := hr.out.1; omega), (wrote_ops _).2⟩
      clear hlt ht hx hacts hbytes qm hrng hM hA hwf hq hql
      by_cases h60 : t = 60
      · have q60 : (60 : Int) ≤ (t : Int) := by omega
        have HE : Hid (l.take t = l.take 60) := by rw [h60]; exact rfl
        clear h60
        go_wp2_with (first
          | (with_reducible change wpList _ _ _ ({ dst := some 18, op := Op.load 33 _, type := _, pos := _, after := _, guard := _ } :: _) _ _; refine wpList_load_mid rfl 33 (.tmp 17) rfl b (off + t * 5) rfl M _ HRG.out Try.underlying33 rfl HMS.out ?_)
          | (with_reducible change wpList _ _ _ ({ dst := none, op := Op.store 33 _ _, type := _, pos := _, after := _, guard := _ } :: _) _ _
             refine wpList_store_blk rfl 33 (.tmp 6) (.tmp 18) rfl wr.heap.size 0 33 _ M rfl rfl (Blk.new wr _ 33) (by rw [HML.out.1]; simp) HMS.out HML.out.2 ?_
             intro w2 hb2 hg2
             have HK2 : Hid (Keep (fun _ => False) wr w2) := keep_new hg2.out
             clear hb2 hg2))
        go_ret
        refine ⟨d, rfl, ?_, hr.out.2.2.trans (HK2.out.none_below.mono hr.out.2.2.size)⟩
        have := hr.out.2.1.below HK2.out.none_below
        rwa [HE.out] at this
      · have q60 : ¬ (60 : Int) ≤ (t : Int) := by have := hr.out.1; omega
        have HT6 : Hid (t < 60) := by have := hr.out.1; show _ < _; omega
        clear h60
        by_cases hk0 : x.kind = 0
        · have HD : Hid ((wrote (l.take (t + 1))) = ((wrote (l.take t)).write (q : Int) (whole x.bytes)).2) := by
            show _ = _
            rw [HTK.out, wrote_snoc]
            unfold Disk.does
            rw [if_pos hk0, HQ.out.1]
          go_wp2_with (first
            | (with_reducible change wpList _ _ _ ({ dst := some 18, op := Op.load 33 _, type := _, pos := _, after := _, guard := _ } :: _) _ _; refine wpList_load_mid rfl 33 (.tmp 17) rfl b (off + t * 5) rfl M _ HRG.out Try.underlying33 rfl HMS.out ?_)
            | (with_reducible change wpList _ _ _ ({ dst := none, op := Op.store 33 _ _, type := _, pos := _, after := _, guard := _ } :: _) _ _
               refine wpList_store_blk rfl 33 (.tmp 6) (.tmp 18) rfl wr.heap.size 0 33 _ M rfl rfl (Blk.new wr _ 33) (by rw [HML.out.1]; simp) HMS.out HML.out.2 ?_
               intro w2 hb2 hg2
               have HK2 : Hid (Keep (fun _ => False) wr w2) := keep_new hg2.out
               have HB2 : Hid (Blk w2 wr.heap.size 33 M) := copied33 HML.out.1 rfl hb2.out
               have d0 : w2.cell? ⟨wr.heap.size, 0, none⟩ = some (.int .i64 x.kind) := HB2.out.cell (by rw [HM.out]; rfl)
               have d1 : w2.cell? ⟨wr.heap.size, 1, none⟩ = some (.int .i64 x.n) := HB2.out.cell (by rw [HM.out]; rfl)
               have d2 : w2.cell? ⟨wr.heap.size, 2, none⟩ = some (.slice A L C) := HB2.out.cell (by rw [HM.out]; rfl)
               have HW2 : Hid (WInv w l t d w2) := ⟨hr.out.2.1.below HK2.out.none_below, hr.out.2.2.trans (HK2.out.none_below.mono hr.out.2.2.size)⟩
               clear hb2 hg2 q1))
          refine (whole_is x.bytes A L C w2 (HBY.out.below HK2.out.none_below)).mono ?_
          rintro e w3 ⟨rfl, hb3⟩
          obtain ⟨cp4, w4, hcv, hin4, hb4⟩ := conv_str (whole x.bytes) (whole_length _) w3
          obtain ⟨sw, hsw⟩ : ∃ sw, sw = strOf (whole x.bytes) := ⟨_, rfl⟩
          rw [← hsw] at hcv ⊢
          have HB34 : Hid (Below w2.heap.size w2 w4) := hb3.trans (hb4.mono hb3.size)
          have HW4 : Hid (WInv w l t d w4) := ⟨HW2.out.1.below HB34.out, HW2.out.2.trans (HB34.out.mono HW2.out.2.size)⟩
          have HI4 : Hid (In w4 (some ⟨w3.heap.size, 0, none⟩) 256 cp4 (whole x.bytes)) := hin4
          have HCV : Hid ((convert 9 30 (.string sw)).run Try.prog w3 = .ok (.slice (some ⟨w3.heap.size, 0, none⟩) 256 cp4) w4) := hcv
          clear hcv hb3 hb4 hin4 hsw
          go_wp2_with (with_reducible change wpList _ _ _ ({ dst := some 39, op := _, type := _, pos := _, after := _, guard := _ } :: _) _ _; refine wpList_conv rfl (.tmp 38) 9 30 rfl (.string sw) _ rfl HCV.out ?_)
          obtain ⟨S, hS, hSB⟩ := HW4.out.1
          refine (write_dk hS (by have := HDO.out.1; omega) (q : Int) _ 256 cp4 (whole x.bytes) HI4.out).mono ?_
          rintro e w5 ⟨rfl, ha⟩
          rw [← HD.out] at ha
          obtain ⟨hd5, hb5⟩ := ha.toB hSB HW4.out.2.size
          have HW5 : Hid (WInv w l (t + 1) d w5) := ⟨hd5, HW4.out.2.trans hb5⟩
          clear hS hSB ha hd5 hb5
          go_wp2
          exact ⟨⟨t + 1, by simp, by have := HLT.out; omega, by have := HT6.out; omega, HW5.out⟩, by have := HLT.out; simp only [intOf]; omega⟩
        · by_cases hk1 : x.kind = 1
          · have HD : Hid ((wrote (l.take (t + 1))) = (wrote (l.take t)).flush.2) := by
              show _ = _
              rw [HTK.out, wrote_snoc]
              unfold Disk.does
              rw [if_neg hk0, if_pos hk1]
            go_wp2_with (first
              | (with_reducible change wpList _ _ _ ({ dst := some 18, op := Op.load 33 _, type := _, pos := _, after := _, guard := _ } :: _) _ _; refine wpList_load_mid rfl 33 (.tmp 17) rfl b (off + t * 5) rfl M _ HRG.out Try.underlying33 rfl HMS.out ?_)
              | (with_reducible change wpList _ _ _ ({ dst := none, op := Op.store 33 _ _, type := _, pos := _, after := _, guard := _ } :: _) _ _
                 refine wpList_store_blk rfl 33 (.tmp 6) (.tmp 18) rfl wr.heap.size 0 33 _ M rfl rfl (Blk.new wr _ 33) (by rw [HML.out.1]; simp) HMS.out HML.out.2 ?_
                 intro w2 hb2 hg2
                 have HK2 : Hid (Keep (fun _ => False) wr w2) := keep_new hg2.out
                 have HB2 : Hid (Blk w2 wr.heap.size 33 M) := copied33 HML.out.1 rfl hb2.out
                 have d0 : w2.cell? ⟨wr.heap.size, 0, none⟩ = some (.int .i64 x.kind) := HB2.out.cell (by rw [HM.out]; rfl)
                 have d1 : w2.cell? ⟨wr.heap.size, 1, none⟩ = some (.int .i64 x.n) := HB2.out.cell (by rw [HM.out]; rfl)
                 have d2 : w2.cell? ⟨wr.heap.size, 2, none⟩ = some (.slice A L C) := HB2.out.cell (by rw [HM.out]; rfl)
                 have HW2 : Hid (WInv w l t d w2) := ⟨hr.out.2.1.below HK2.out.none_below, hr.out.2.2.trans (HK2.out.none_below.mono hr.out.2.2.size)⟩
                 clear hb2 hg2 q1))
            obtain ⟨S, hS, hSB⟩ := HW2.out.1
            refine (flush_dk hS (by have := HDO.out.1; omega)).mono ?_
            rintro e w5 ⟨rfl, ha⟩
            rw [← HD.out] at ha
            obtain ⟨hd5, hb5⟩ := ha.toB hSB HW2.out.2.size
            have HW5 : Hid (WInv w l (t + 1) d w5) := ⟨hd5, HW2.out.2.trans hb5⟩
            clear hS hSB ha hd5 hb5
            go_wp2
            exact ⟨⟨t + 1, by simp, by have := HLT.out; omega, by have := HT6.out; omega, HW5.out⟩, by have := HLT.out; simp only [intOf]; omega⟩
          · by_cases hk2 : x.kind = 2
            · have HD : Hid ((wrote (l.take (t + 1))) = ((wrote (l.take t)).arm ((q : Int) * 3)).2) := by
                show _ = _
                rw [HTK.out, wrote_snoc]
                unfold Disk.does
                rw [if_neg hk0, if_neg hk1, if_pos hk2, HQ.out.1]
              go_wp2_with (first
                | (with_reducible change wpList _ _ _ ({ dst := some 18, op := Op.load 33 _, type := _, pos := _, after := _, guard := _ } :: _) _ _; refine wpList_load_mid rfl 33 (.tmp 17) rfl b (off + t * 5) rfl M _ HRG.out Try.underlying33 rfl HMS.out ?_)
                | (with_reducible change wpList _ _ _ ({ dst := none, op := Op.store 33 _ _, type := _, pos := _, after := _, guard := _ } :: _) _ _
                   refine wpList_store_blk rfl 33 (.tmp 6) (.tmp 18) rfl wr.heap.size 0 33 _ M rfl rfl (Blk.new wr _ 33) (by rw [HML.out.1]; simp) HMS.out HML.out.2 ?_
                   intro w2 hb2 hg2
                   have HK2 : Hid (Keep (fun _ => False) wr w2) := keep_new hg2.out
                   have HB2 : Hid (Blk w2 wr.heap.size 33 M) := copied33 HML.out.1 rfl hb2.out
                   have d0 : w2.cell? ⟨wr.heap.size, 0, none⟩ = some (.int .i64 x.kind) := HB2.out.cell (by rw [HM.out]; rfl)
                   have d1 : w2.cell? ⟨wr.heap.size, 1, none⟩ = some (.int .i64 x.n) := HB2.out.cell (by rw [HM.out]; rfl)
                   have d2 : w2.cell? ⟨wr.heap.size, 2, none⟩ = some (.slice A L C) := HB2.out.cell (by rw [HM.out]; rfl)
                   have HW2 : Hid (WInv w l t d w2) := ⟨hr.out.2.1.below HK2.out.none_below, hr.out.2.2.trans (HK2.out.none_below.mono hr.out.2.2.size)⟩
                   clear hb2 hg2 q1))
              obtain ⟨S, hS, hSB⟩ := HW2.out.1
              refine (arm_dk hS ((q : Int) * 3) (by have := HQ.out.2; omega)).mono ?_
              rintro e w5 ⟨rfl, ha⟩
              rw [← HD.out] at ha
              obtain ⟨hd5, hb5⟩ := ha.toB hSB HW2.out.2.size
              have HW5 : Hid (WInv w l (t + 1) d w5) := ⟨hd5, HW2.out.2.trans hb5⟩
              clear hS hSB ha hd5 hb5
              go_wp2
              exact ⟨⟨t + 1, by simp, by have := HLT.out; omega, by have := HT6.out; omega, HW5.out⟩, by have := HLT.out; simp only [intOf]; omega⟩
            · have HD : Hid ((wrote (l.take (t + 1))) = wrote (l.take t)) := by
                show _ = _
                rw [HTK.out, wrote_snoc]
                unfold Disk.does
                rw [if_neg hk0, if_neg hk1, if_neg hk2]
              go_wp2_with (first
                | (with_reducible change wpList _ _ _ ({ dst := some 18, op := Op.load 33 _, type := _, pos := _, after := _, guard := _ } :: _) _ _; refine wpList_load_mid rfl 33 (.tmp 17) rfl b (off + t * 5) rfl M _ HRG.out Try.underlying33 rfl HMS.out ?_)
                | (with_reducible change wpList _ _ _ ({ dst := none, op := Op.store 33 _ _, type := _, pos := _, after := _, guard := _ } :: _) _ _
                   refine wpList_store_blk rfl 33 (.tmp 6) (.tmp 18) rfl wr.heap.size 0 33 _ M rfl rfl (Blk.new wr _ 33) (by rw [HML.out.1]; simp) HMS.out HML.out.2 ?_
                   intro w2 hb2 hg2
                   have HK2 : Hid (Keep (fun _ => False) wr w2) := keep_new hg2.out
                   have HB2 : Hid (Blk w2 wr.heap.size 33 M) := copied33 HML.out.1 rfl hb2.out
                   have d0 : w2.cell? ⟨wr.heap.size, 0, none⟩ = some (.int .i64 x.kind) := HB2.out.cell (by rw [HM.out]; rfl)
                   have d1 : w2.cell? ⟨wr.heap.size, 1, none⟩ = some (.int .i64 x.n) := HB2.out.cell (by rw [HM.out]; rfl)
                   have d2 : w2.cell? ⟨wr.heap.size, 2, none⟩ = some (.slice A L C) := HB2.out.cell (by rw [HM.out]; rfl)
                   have HW2 : Hid (WInv w l t d w2) := ⟨hr.out.2.1.below HK2.out.none_below, hr.out.2.2.trans (HK2.out.none_below.mono hr.out.2.2.size)⟩
                   clear hb2 hg2 q1))
              refine ⟨⟨t + 1, by simp, by have := HLT.out; omega, by have := HT6.out; omega, ?_⟩, by have := HLT.out; simp only [intOf]; omega⟩
              show DkB _ _ _ _ ∧ _
              rw [HD.out]
              exact HW2.out
#print axioms wrote_ops
end Go.Proofs.Ytmhdldhplhffcaa.Oct
