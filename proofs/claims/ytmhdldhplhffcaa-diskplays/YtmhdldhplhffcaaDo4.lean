/-
  Layer 5 (disk): do: Write.
-/
import Derived.Test.YtmhdldhplhffcaaDo3
namespace Go.Proofs.Ytmhdldhplhffcaa.Oct
open Go.RowKit Go.Lib

/-- a string's bytes in new memory, which may be written -/
theorem conv_wb (l : List UInt8) (hl : l.length = 256) (w : World) : ∃ cap W, (convert 9 30 (.string (strOf l))).run Try.prog w = .ok (.slice (some ⟨w.heap.size, 0, none⟩) 256 cap) W ∧ In W (some ⟨w.heap.size, 0, none⟩) 256 cap l ∧ Below w.heap.size w W ∧ WB W w.heap.size 256 := by
  have hs : (strOf l).size = 256 := by show l.toArray.size = 256; rw [List.size_toArray, hl]
  have hge := grownCap_ge w (strOf l).size 0 5
  have hrun := run_bytes_of_string (P := Try.prog) w 9 30 5 (strOf l) Try.underlying9 Try.underlying30 Try.underlying5
  rw [hs] at hrun hge
  have hcell : ∀ i c, l[i]? = some c → (w.drew.alloc (.cells (bytesRow (strOf l) (grownCap w 256 0 5)) 5 ((bytesRow (strOf l) (grownCap w 256 0 5)).size, (bytesRow (strOf l) (grownCap w 256 0 5)).size + 1))).cell? ⟨w.heap.size, i, none⟩ = some (.int .u8 (c.toNat : Int)) := by
    intro i c hc
    have hlt : i < (strOf l).data.size := by have := (List.getElem?_eq_some_iff.1 hc).1; show i < l.toArray.size; rwa [List.size_toArray]
    have e1 := World.cell?_alloc_mark w.drew (bytesRow (strOf l) (grownCap w 256 0 5)) 5 ((bytesRow (strOf l) (grownCap w 256 0 5)).size, (bytesRow (strOf l) (grownCap w 256 0 5)).size + 1) i
    refine e1.trans ?_
    rw [bytesRow_at (strOf l) _ i hlt]
    have e2 : (strOf l).data[i] = c := by
      have := (List.getElem?_eq_some_iff.1 hc).2
      simpa [strOf] using this
    rw [e2]
  refine ⟨_, _, hrun, ⟨hl, hge, by omega, by simp, fun _ => ⟨w.heap.size, 0, rfl, by simp, fun i c hc => ?_⟩⟩, ?_, fun k hk => ⟨⟨_, hcell k (l[k]'(by omega)) (List.getElem?_eq_getElem (by omega))⟩, ?_⟩⟩
  · rw [Nat.zero_add]
    exact hcell i c hc
  · have h := (Below.refl w.heap.size w.drew).alloc (Nat.le_refl _) (.cells (bytesRow (strOf l) (grownCap w 256 0 5)) 5 ((bytesRow (strOf l) (grownCap w 256 0 5)).size, (bytesRow (strOf l) (grownCap w 256 0 5)).size + 1))
    exact ⟨h.os, h.tape, h.output, h.size, h.block⟩
  · refine (World.frozen?_alloc_mark w.drew _ 5 _ _ k).trans ?_
    have hsz : 256 ≤ (bytesRow (strOf l) (grownCap w 256 0 5)).size := by
      have h1 := bytesRow_at (strOf l) (grownCap w 256 0 5) 255 (by show 255 < l.toArray.size; rw [List.size_toArray, hl]; omega)
      have h2 := (Array.getElem?_eq_some_iff.1 h1).1
      omega
    rw [decide_eq_false (by omega)]
    rfl
theorem own_wb {B : Nat} {w : World} {g n c : Nat} {l : List UInt8} (hl : l.length = n) (h : w.ownsRow B 5 1 (.slice (some ⟨g, 0, none⟩) n c) n (U l)) : WB w g n := by
  intro k hk
  refine ⟨⟨((l[k]'(by omega)).toNat : Int), ?_⟩, own_free h⟩
  rw [World.ownsRow.cellAt h k (by omega)]
  exact U_get l k (by omega)
theorem WB.lt {w : World} {g L : Nat} (h : WB w g L) (hp : 0 < L) : g < w.heap.size := by
  obtain ⟨⟨z, hz⟩, _⟩ := h 0 hp
  exact World.block_lt_of_cell? w _ hz
theorem In.keep {w w' : World} {a : Option Addr} {n c : Nat} {l : List UInt8} (h : In w a n c l) (hk : ∀ b off, a = some ⟨b, off, none⟩ → 0 < n → w'.heap[b]? = w.heap[b]?) : In w' a n c l := by
  obtain ⟨h1, h2, h3, h4, h5⟩ := h
  refine ⟨h1, h2, h3, h4, fun hp => ?_⟩
  obtain ⟨b, off, e, hb, hc⟩ := h5 hp
  have hh := hk b off e hp
  refine ⟨b, off, e, ?_, fun i x hx => ?_⟩
  · have h6 : w.heap[b]? = some w.heap[b] := Array.getElem?_eq_getElem hb
    rw [← hh] at h6
    exact (Array.getElem?_eq_some_iff.1 h6).1
  · rw [← hc i x hx]
    simp only [World.cell?, hh]
theorem run_bs30 (W : World) : (Instr.buildSlice 30 0 #[]).run Try.prog W = .ok (.slice (some ⟨W.heap.size, 0, none⟩) 0 0) (W.alloc (.cells #[] 5)) := by kernel_rfl
/-- the bytes that are to be written: of new memory -/
def Nw (W V : World) (a : Option Addr) (n c gb : Nat) (l : List UInt8) : Prop := Below W.heap.size W V ∧ In V a n c l ∧ (0 < n → a = some ⟨gb, 0, none⟩ ∧ W.heap.size ≤ gb ∧ WB V gb n)
#print axioms conv_wb

set_option maxRecDepth 100000 in
set_option maxHeartbeats 2000000 in
theorem do_write {w : World} {S R : Nat → Prop} {d r : Nat} {D : Disk} (h : Both w S R d r D D) (hn : D.ops < 1000000000) (N : Int) (A : Option Addr) (L C : Nat) (sh : Bool) (KA : Option Addr) (KL KC : Nat) (b : List UInt8) (hin : In w A L C b) :
    Calls Try.prog 12 #[.pointer (some ⟨d, 0, none⟩), .pointer (some ⟨r, 0, none⟩), .agg #[.int .i64 0, .int .i64 N, .slice A L C, .bool sh, .slice KA KL KC]] w fun e w' => e = .returned (.bool true) ∧ BAfter w S R d r (D.write N (if sh then b else whole b)).2 (D.write N (if sh then b else whole b)).2 w' := by
  obtain ⟨W, hW⟩ : ∃ W, w.alloc (.cells #[.int .i64 0, .int .i64 N, .slice A L C, .bool sh, .slice KA KL KC] 33) = W := ⟨_, rfl⟩
  have hb : Below w.heap.size w W := by rw [← hW]; exact (Below.refl _ w).alloc (Nat.le_refl _) _
  have H0 : Hid (Both W S R d r D D ∧ Below w.heap.size w W ∧ Both w S R d r D D ∧ w.heap.size < W.heap.size) := ⟨h.below hb, hb, h, by rw [← hW]; simp⟩
  have HX : Hid (Blk W w.heap.size 33 [.int .i64 0, .int .i64 N, .slice A L C, .bool sh, .slice KA KL KC]) := by
    show Blk _ _ _ _
    rw [← hW]
    simpa using Blk.new w #[.int .i64 0, .int .i64 N, .slice A L C, .bool sh, .slice KA KL KC] 33
  have HW : Hid (w.alloc (.cells #[.int .i64 0, .int .i64 N, .slice A L C, .bool sh, .slice KA KL KC] 33) = W) := hW
  have HN : Hid (D.ops < 1000000000) := hn
  have HIN : Hid (In W A L C b) := hin.below hb
  obtain ⟨i5, hi5, hz0, hz1, hz2⟩ := info_parts info5
  obtain ⟨l, hlw⟩ : ∃ l, (if sh then b else whole b) = l := ⟨_, rfl⟩
  rw [hlw]
  have HLW : Hid ((if sh then b else whole b) = l) := hlw
  clear h hb hn hW hin hlw
  go_enter Try.func12, Try.ntmps12
  go_wp2_with fail
  rw [HW.out]
  refine (whole_is b A L C W HIN.out).mono ?_
  rintro e w1 ⟨rfl, hb1⟩
  have HB1 : Hid (Below W.heap.size W w1) := hb1
  obtain ⟨cap2, w2, hrun2, hin2, hb2, hwb2⟩ := conv_wb (whole b) (whole_length b) w1
  have H2 : Hid (Below W.heap.size W w2 ∧ In w2 (some ⟨w1.heap.size, 0, none⟩) 256 cap2 (whole b) ∧ WB w2 w1.heap.size 256 ∧ W.heap.size ≤ w1.heap.size) := ⟨hb1.trans (hb2.mono hb1.size), hin2, hwb2, hb1.size⟩
  clear hb1 hin2 hb2 hwb2
  go_wp2_with (first
    | (with_reducible change wpList _ _ _ ({ dst := some 25, op := _, type := _, pos := _, after := _, guard := _ } :: _) _ _
       refine Hid.out ?_)
    | fail)
  show wpList _ _ _ _ _ _
  refine wpList_conv rfl (.tmp 24) 9 30 rfl _ _ rfl hrun2 ?_
  simp only [Act.put, List.setIfInBounds_toArray, List.set_cons_zero, List.set_cons_succ]
  clear hrun2
  have c3 : w2.cell? ⟨w.heap.size, 3, none⟩ = some (.bool sh) := (HX.out.below H2.out.1 HX.out.lt).cell rfl
  cases sh with
  | false =>
    have HV : Hid (Nw W w2 (some ⟨w1.heap.size, 0, none⟩) 256 cap2 w1.heap.size (whole b)) := ⟨H2.out.1, H2.out.2.1, fun _ => ⟨rfl, H2.out.2.2.2, H2.out.2.2.1⟩⟩
    have e0 : whole b = l := by simpa using HLW.out
    rw [e0] at HV
    generalize hgb : w1.heap.size = gb at HV ⊢
    clear H2 e0 hgb HB1 HLW
    have HBV : Hid (Both w2 S R d r D D) := H0.out.1.below HV.out.1
    have hconv : (convert 30 9 (.slice (some ⟨gb, 0, none⟩) 256 cap2)).run Try.prog w2 = .ok (.string (strOf l)) w2 := string_in Try.underlying30 Try.underlying5 Try.underlying9 HV.out.2.1
    have c1 : w2.cell? ⟨w.heap.size, 1, none⟩ = some (.int .i64 N) := (HX.out.below HV.out.1 HX.out.lt).cell rfl
    obtain ⟨T, hT⟩ : ∃ T, strOf l = T := ⟨_, rfl⟩
    have HT : Hid (strOf l = T) := hT
    rw [hT] at hconv
    clear hT
    go_wp2_with fail
    refine (write_dk HBV.out.dk (by have := HN.out; omega) N (some ⟨gb, 0, none⟩) 256 cap2 l HV.out.2.1).mono ?_
    rintro e V1 ⟨rfl, hA⟩
    obtain ⟨e1, he1⟩ : ∃ e1, (D.write N l).1 = e1 := ⟨_, rfl⟩
    have HE : Hid ((D.write N l).1 = e1) := he1
    rw [he1]
    have F1 : Hid (BAfter w2 S R d r (D.write N l).2 D V1) := BAfter.d HBV.out hA
    clear hA he1 hconv c1
    obtain ⟨S1, R1, hB1, hs1, hr1, hk1⟩ := F1.out
    have hnb : 0 < 256 → ¬ S gb ∧ ¬ R gb := fun hp => by
      have h1 := (HV.out.2.2 hp).2.1
      exact ⟨fun e => by have := H0.out.1.dk.lt gb e; omega, fun e => by have := H0.out.1.rk.lt gb e; omega⟩
    have hblk : 0 < 256 → V1.heap[gb]? = w2.heap[gb]? := fun hp => hk1.block gb ((HV.out.2.2 hp).2.2.lt hp) (fun e => e.elim (hnb hp).1 (hnb hp).2)
    have HIN1 : Hid (In V1 (some ⟨gb, 0, none⟩) 256 cap2 l ∧ (0 < 256 → WB V1 gb 256)) := by
      refine ⟨HV.out.2.1.keep (fun b' off' e hp => ?_), fun hp => (HV.out.2.2 hp).2.2.keep (hblk hp)⟩
      rw [(HV.out.2.2 hp).1] at e
      cases e
      exact hblk hp
    have HB1 : Hid (Both V1 S1 R1 d r (D.write N l).2 D ∧ (∀ k, S1 k → S k ∨ w2.heap.size ≤ k) ∧ (∀ k, R1 k → R k ∨ w2.heap.size ≤ k) ∧ Keep (fun k => S k ∨ R k) w2 V1) := ⟨hB1, hs1, hr1, hk1⟩
    clear hB1 hs1 hr1 hk1 hnb hblk F1
    have hconv : (convert 30 9 (.slice (some ⟨gb, 0, none⟩) 256 cap2)).run Try.prog V1 = .ok (.string T) V1 := by
      have := string_in Try.underlying30 Try.underlying5 Try.underlying9 HIN1.out.1
      rw [show (⟨l.toArray⟩ : ByteArray) = T from HT.out] at this
      exact this
    go_wp2
    go_loopw [45] (fun u wr => ∃ k : Nat, u = .int .i64 (k : Int) ∧ Hid (k ≤ 256 ∧ Keep (fun q => 0 < 256 ∧ q = gb) V1 wr ∧ (0 < 256 → WB wr gb 256))) (fun u _ => 256 - (intOf u).toNat)
    case atStart => exact ⟨0, rfl, ⟨Nat.zero_le _, Keep.refl _ _, HIN1.out.2⟩⟩
    case round =>
      obtain ⟨k, rfl, HK⟩ := hrel
      clear hconv
      by_cases hk : k < 256
      · have q4 : (k : Int) < 256 := by omega
        have HKK : Hid (k < 256) := hk
        obtain ⟨⟨z, c2⟩, f2⟩ := HK.out.2.2 (by omega) k hk
        skip
        have HN2 : Hid (∀ z', Keep (fun q => 0 < 256 ∧ q = gb) V1 (wr.setCell ⟨gb, k, none⟩ (.int .u8 z')) ∧ (0 < 256 → WB (wr.setCell ⟨gb, k, none⟩ (.int .u8 z')) gb 256)) := fun z' => ⟨HK.out.2.1.trans (Keep.grown (S := fun q => 0 < 256 ∧ q = gb) (grown_setCell wr gb k _) ⟨by have := HKK.out; omega, rfl⟩) (fun j hj _ => hj), fun hp => (HK.out.2.2 hp).set HKK.out z'⟩
        clear hk
        go_wp2
        refine ⟨⟨k + 1, by simp, ⟨HKK.out, HN2.out _⟩⟩, ?_⟩
        have := HKK.out; simp [intOf]; omega
      · have q4 : ¬ (k : Int) < 256 := by omega
        have HBr : Hid (Both wr S1 R1 d r (D.write N l).2 D ∧ Keep (fun k => S k ∨ R k) w wr) := by
          have hgS : ∀ j, 0 < 256 ∧ j = gb → ¬ (S1 j ∨ R1 j) ∧ w.heap.size ≤ j := by
            rintro j ⟨hp, rfl⟩
            have h1 := (HV.out.2.2 hp).2.1
            have h2 := (HV.out.2.2 hp).2.2.lt hp
            have h3 := H0.out.2.2.2
            refine ⟨fun e => ?_, by omega⟩
            rcases e with e | e
            · rcases HB1.out.2.1 j e with e2 | e2
              · have := H0.out.1.dk.lt j e2; omega
              · omega
            · rcases HB1.out.2.2.1 j e with e2 | e2
              · have := H0.out.1.rk.lt j e2; omega
              · omega
          refine ⟨HB1.out.1.keep HK.out.2.1 (fun j hj hT => (hgS j hT).1 hj), ?_⟩
          exact ((Keep.below (H0.out.2.1.trans (HV.out.1.mono H0.out.2.1.size))).trans HB1.out.2.2.2 (fun j hj _ => hj)).trans HK.out.2.1 (fun j hj hlt => by have := (hgS j hj).2; omega)
        have c1 : wr.cell? ⟨w.heap.size, 1, none⟩ = some (.int .i64 N) := by
          have hnS : ¬ (S w.heap.size ∨ R w.heap.size) := fun e => e.elim (fun e => by have := H0.out.2.2.1.dk.lt _ e; omega) (fun e => by have := H0.out.2.2.1.rk.lt _ e; omega)
          have h1 := HB1.out.2.2.2.blk (HX.out.below HV.out.1 HX.out.lt) hnS
          have h2 := HK.out.2.1.blk h1 (fun e => by have := (HV.out.2.2 e.1).2.1; have := H0.out.2.2.2; omega)
          exact h2.cell rfl
        clear hk
        go_wp2_with fail
        rw [← HT.out]
        refine (rwrite_dk HBr.out.1.rk HN.out N l (by have := HV.out.2.1.2.2.1; have := HV.out.2.1.1; omega)).mono ?_
        rintro e w9 ⟨rfl, hA2⟩
        have hsz : w.heap.size ≤ w2.heap.size := Nat.le_trans H0.out.2.1.size HV.out.1.size
        have F2 : Hid (BAfter w S R d r (D.write N l).2 (D.write N l).2 w9) := BAfter.two (fun k hk => (HB1.out.2.1 k hk).imp id (fun e => Nat.le_trans hsz e)) (fun k hk => (HB1.out.2.2.1 k hk).imp id (fun e => Nat.le_trans hsz e)) HBr.out.2 (BAfter.r HBr.out.1 hA2)
        rw [HE.out]
        clear hA2 hsz c1
        go_wp2
        go_ret
        exact ⟨rfl, F2.out⟩
  | true =>
    have c2 : (w2.alloc (.cells #[] 5)).cell? ⟨w.heap.size, 2, none⟩ = some (.slice A L C) := ((HX.out.below H2.out.1 HX.out.lt).alloc _).cell rfl
    have HO : Hid ((w2.alloc (.cells #[] 5)).ownsRow W.heap.size 5 1 (.slice (some ⟨w2.heap.size, 0, none⟩) 0 0) 0 (U []) ∧ Below W.heap.size W (w2.alloc (.cells #[] 5))) := ⟨own_made _ _ _ H2.out.1.size, H2.out.1.alloc H2.out.1.size _⟩
    have hbs := run_bs30
    go_wp2_with (first
      | (with_reducible change wpList _ _ _ ({ dst := some 31, op := Op.call _, type := _, pos := _, after := _, guard := _ } :: _) _ _
         refine Hid.out ?_)
      | fail)
    show wpList _ _ _ _ _ _
    refine wpList_append_in _ rfl (.tmp 28) (.tmp 30) 30 rfl W.heap.size 5 i5 Try.underlying30 hi5 hz0 hz1 hz2 _ [] 0 rfl rfl HO.out.1 A L C b rfl (HIN.out.below HO.out.2) (by have := HIN.out.2.2.1; omega) HO.out.2.size ?_
    intro v3 w3 ho3 hg3
    rw [List.nil_append] at ho3
    obtain ⟨a7, c7, rfl, hin7, hg7⟩ := own_in ho3 (by have := HIN.out.2.2.1; have := HIN.out.1; omega)
    obtain ⟨gb, hgb⟩ : ∃ gb, 0 < b.length → a7 = some ⟨gb, 0, none⟩ ∧ W.heap.size ≤ gb := by
      by_cases hp : 0 < b.length
      · obtain ⟨g, e, h1, _⟩ := hg7 hp
        exact ⟨g, fun _ => ⟨e, h1⟩⟩
      · exact ⟨0, fun h => absurd h hp⟩
    have HV : Hid (Nw W w3 a7 b.length c7 gb b) := by
      refine ⟨HO.out.2.grown hg3 HO.out.2.size (fun j hj => (World.ownsRow.lt HO.out.1 j hj).1), hin7, fun hp => ⟨(hgb hp).1, (hgb hp).2, ?_⟩⟩
      obtain ⟨e, _⟩ := hgb hp
      subst e
      exact own_wb rfl ho3
    generalize hl : b.length = n7 at HV ⊢
    have HBL : Hid (n7 ≤ 140737488355328) := by show _ ≤ _; rw [← hl]; have := HIN.out.2.2.1; have := HIN.out.1; omega
    have qn7 : (n7 : Int) ≤ 140737488355328 := by have := HBL.out; omega
    clear ho3 hg3 hin7 hg7 hgb H2 HB1 HO hbs c2 c3 hl
    have e0 : b = l := by simpa using HLW.out
    rw [e0] at HV
    clear e0 HLW
    simp only [Act.put, List.setIfInBounds_toArray, List.set_cons_zero, List.set_cons_succ]
    have HBV : Hid (Both w3 S R d r D D) := H0.out.1.below HV.out.1
    have hconv : (convert 30 9 (.slice a7 n7 c7)).run Try.prog w3 = .ok (.string (strOf l)) w3 := string_in Try.underlying30 Try.underlying5 Try.underlying9 HV.out.2.1
    have c1 : w3.cell? ⟨w.heap.size, 1, none⟩ = some (.int .i64 N) := (HX.out.below HV.out.1 HX.out.lt).cell rfl
    obtain ⟨T, hT⟩ : ∃ T, strOf l = T := ⟨_, rfl⟩
    have HT : Hid (strOf l = T) := hT
    rw [hT] at hconv
    clear hT
    go_wp2_with fail
    refine (write_dk HBV.out.dk (by have := HN.out; omega) N a7 n7 c7 l HV.out.2.1).mono ?_
    rintro e V1 ⟨rfl, hA⟩
    obtain ⟨e1, he1⟩ : ∃ e1, (D.write N l).1 = e1 := ⟨_, rfl⟩
    have HE : Hid ((D.write N l).1 = e1) := he1
    rw [he1]
    have F1 : Hid (BAfter w3 S R d r (D.write N l).2 D V1) := BAfter.d HBV.out hA
    clear hA he1 hconv c1
    obtain ⟨S1, R1, hB1, hs1, hr1, hk1⟩ := F1.out
    have hnb : 0 < n7 → ¬ S gb ∧ ¬ R gb := fun hp => by
      have h1 := (HV.out.2.2 hp).2.1
      exact ⟨fun e => by have := H0.out.1.dk.lt gb e; omega, fun e => by have := H0.out.1.rk.lt gb e; omega⟩
    have hblk : 0 < n7 → V1.heap[gb]? = w3.heap[gb]? := fun hp => hk1.block gb ((HV.out.2.2 hp).2.2.lt hp) (fun e => e.elim (hnb hp).1 (hnb hp).2)
    have HIN1 : Hid (In V1 a7 n7 c7 l ∧ (0 < n7 → WB V1 gb n7)) := by
      refine ⟨HV.out.2.1.keep (fun b' off' e hp => ?_), fun hp => (HV.out.2.2 hp).2.2.keep (hblk hp)⟩
      rw [(HV.out.2.2 hp).1] at e
      cases e
      exact hblk hp
    have HB1 : Hid (Both V1 S1 R1 d r (D.write N l).2 D ∧ (∀ k, S1 k → S k ∨ w3.heap.size ≤ k) ∧ (∀ k, R1 k → R k ∨ w3.heap.size ≤ k) ∧ Keep (fun k => S k ∨ R k) w3 V1) := ⟨hB1, hs1, hr1, hk1⟩
    clear hB1 hs1 hr1 hk1 hnb hblk F1
    have hconv : (convert 30 9 (.slice a7 n7 c7)).run Try.prog V1 = .ok (.string T) V1 := by
      have := string_in Try.underlying30 Try.underlying5 Try.underlying9 HIN1.out.1
      rw [show (⟨l.toArray⟩ : ByteArray) = T from HT.out] at this
      exact this
    go_wp2
    go_loopw [45] (fun u wr => ∃ k : Nat, u = .int .i64 (k : Int) ∧ Hid (k ≤ n7 ∧ Keep (fun q => 0 < n7 ∧ q = gb) V1 wr ∧ (0 < n7 → WB wr gb n7))) (fun u _ => n7 - (intOf u).toNat)
    case atStart => exact ⟨0, rfl, ⟨Nat.zero_le _, Keep.refl _ _, HIN1.out.2⟩⟩
    case round =>
      obtain ⟨k, rfl, HK⟩ := hrel
      clear hconv
      by_cases hk : k < n7
      · have q4 : (k : Int) < (n7 : Int) := by omega
        have HKK : Hid (k < n7) := hk
        obtain ⟨⟨z, c2⟩, f2⟩ := HK.out.2.2 (by omega) k hk
        obtain rfl := (HV.out.2.2 (by omega)).1
        have HN2 : Hid (∀ z', Keep (fun q => 0 < n7 ∧ q = gb) V1 (wr.setCell ⟨gb, k, none⟩ (.int .u8 z')) ∧ (0 < n7 → WB (wr.setCell ⟨gb, k, none⟩ (.int .u8 z')) gb n7)) := fun z' => ⟨HK.out.2.1.trans (Keep.grown (S := fun q => 0 < n7 ∧ q = gb) (grown_setCell wr gb k _) ⟨by have := HKK.out; omega, rfl⟩) (fun j hj _ => hj), fun hp => (HK.out.2.2 hp).set HKK.out z'⟩
        clear hk
        go_wp2
        refine ⟨⟨k + 1, by simp, ⟨HKK.out, HN2.out _⟩⟩, ?_⟩
        have := HKK.out; simp [intOf]; omega
      · have q4 : ¬ (k : Int) < (n7 : Int) := by omega
        have HBr : Hid (Both wr S1 R1 d r (D.write N l).2 D ∧ Keep (fun k => S k ∨ R k) w wr) := by
          have hgS : ∀ j, 0 < n7 ∧ j = gb → ¬ (S1 j ∨ R1 j) ∧ w.heap.size ≤ j := by
            rintro j ⟨hp, rfl⟩
            have h1 := (HV.out.2.2 hp).2.1
            have h2 := (HV.out.2.2 hp).2.2.lt hp
            have h3 := H0.out.2.2.2
            refine ⟨fun e => ?_, by omega⟩
            rcases e with e | e
            · rcases HB1.out.2.1 j e with e2 | e2
              · have := H0.out.1.dk.lt j e2; omega
              · omega
            · rcases HB1.out.2.2.1 j e with e2 | e2
              · have := H0.out.1.rk.lt j e2; omega
              · omega
          refine ⟨HB1.out.1.keep HK.out.2.1 (fun j hj hT => (hgS j hT).1 hj), ?_⟩
          exact ((Keep.below (H0.out.2.1.trans (HV.out.1.mono H0.out.2.1.size))).trans HB1.out.2.2.2 (fun j hj _ => hj)).trans HK.out.2.1 (fun j hj hlt => by have := (hgS j hj).2; omega)
        have c1 : wr.cell? ⟨w.heap.size, 1, none⟩ = some (.int .i64 N) := by
          have hnS : ¬ (S w.heap.size ∨ R w.heap.size) := fun e => e.elim (fun e => by have := H0.out.2.2.1.dk.lt _ e; omega) (fun e => by have := H0.out.2.2.1.rk.lt _ e; omega)
          have h1 := HB1.out.2.2.2.blk (HX.out.below HV.out.1 HX.out.lt) hnS
          have h2 := HK.out.2.1.blk h1 (fun e => by have := (HV.out.2.2 e.1).2.1; have := H0.out.2.2.2; omega)
          exact h2.cell rfl
        clear hk
        go_wp2_with fail
        rw [← HT.out]
        refine (rwrite_dk HBr.out.1.rk HN.out N l (by have := HV.out.2.1.2.2.1; have := HV.out.2.1.1; omega)).mono ?_
        rintro e w9 ⟨rfl, hA2⟩
        have hsz : w.heap.size ≤ w3.heap.size := Nat.le_trans H0.out.2.1.size HV.out.1.size
        have F2 : Hid (BAfter w S R d r (D.write N l).2 (D.write N l).2 w9) := BAfter.two (fun k hk => (HB1.out.2.1 k hk).imp id (fun e => Nat.le_trans hsz e)) (fun k hk => (HB1.out.2.2.1 k hk).imp id (fun e => Nat.le_trans hsz e)) HBr.out.2 (BAfter.r HBr.out.1 hA2)
        rw [HE.out]
        clear hA2 hsz c1
        go_wp2
        go_ret
        exact ⟨rfl, F2.out⟩
#print axioms do_write
end Go.Proofs.Ytmhdldhplhffcaa.Oct
