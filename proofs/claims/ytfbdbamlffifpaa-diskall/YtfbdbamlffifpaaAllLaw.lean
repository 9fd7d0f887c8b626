/-
  Layer 5 (disk): the law DiskAll.
-/
import Derived.Test.YtfbdbamlffifpaaTrio
import Derived.BigQuiet
namespace Go.Proofs.Ytfbdbamlffifpaa.Oct
open Go.RowKit Go.Maps Go.Lib

/-- what the loop of the three writes keeps -/
def LInv (w : World) (Q : Nat → Prop) (B d : Nat) (D : Disk) (wr : World) : Prop :=
  Solo wr w.heap.size Q d D ∧ Below w.heap.size w wr ∧ Q B ∧ wr.cell? ⟨B, 0, none⟩ = some (.int .u8 1) ∧ wr.cell? ⟨B, 1, none⟩ = some (.int .u8 2) ∧ wr.cell? ⟨B, 2, none⟩ = some (.int .u8 3)
theorem LInv.lt {w wr : World} {Q : Nat → Prop} {B d : Nat} {D : Disk} (h : LInv w Q B d D wr) : B < wr.heap.size := by
  obtain ⟨S, _, _, _, h4⟩ := h.1
  exact h4 B h.2.2.1
theorem linv_start {w w3 : World} {d : Nat} {D : Disk} (h : DkB w3 w.heap.size d D) (hb : Below w.heap.size w w3) :
    LInv w (fun k => w3.heap.size ≤ k ∧ k < (w3.alloc (.cells #[.int .u8 1, .int .u8 2, .int .u8 3] 5)).heap.size) w3.heap.size d D (w3.alloc (.cells #[.int .u8 1, .int .u8 2, .int .u8 3] 5)) := by
  have hB : Below w3.heap.size w3 (w3.alloc (.cells #[.int .u8 1, .int .u8 2, .int .u8 3] 5)) := (Below.refl _ w3).alloc (Nat.le_refl _) _
  have e := Blk.new w3 #[.int .u8 1, .int .u8 2, .int .u8 3] 5
  exact ⟨h.since hB, hb.trans (hB.mono hb.size), ⟨Nat.le_refl _, by simp⟩, e.cell rfl, e.cell rfl, e.cell rfl⟩
theorem LInv.step {w wr w4 w5 : World} {Q : Nat → Prop} {B d : Nat} {D D' : Disk} (h : LInv w Q B d D wr) (hb : Below wr.heap.size wr w4) (hs : Solo w5 w.heap.size Q d D') (hb5 : Below w.heap.size w4 w5) (hk : ∃ S, Keep S w4 w5 ∧ ∀ k, Q k → ¬ S k) : LInv w Q B d D' w5 := by
  have hlt := h.lt
  obtain ⟨h1, h2, h3, h4, h5, h6⟩ := h
  have hc : ∀ i v, wr.cell? ⟨B, i, none⟩ = some v → w5.cell? ⟨B, i, none⟩ = some v := fun i v hv => keep_cell hk h3 (Nat.lt_of_lt_of_le hlt hb.size) ((hb.cell (p := ⟨B, i, none⟩) hlt).trans hv)
  exact ⟨hs, (h2.trans (hb.mono h2.size)).trans hb5, h3, hc 0 _ h4, hc 1 _ h5, hc 2 _ h6⟩
def stepD (D2 D3 D4 D5 : Disk) (t : Nat) : Disk := if t = 0 then D2 else if t = 1 then D3 else if t = 2 then D4 else D5
theorem ones_in (c : UInt8) (w : World) : Calls Try.prog 24 #[.int .u8 (c.toNat : Int)] w fun e w' => e = .returned (.slice (some ⟨w.heap.size, 0, none⟩) 256 256) ∧ Hid (In w' (some ⟨w.heap.size, 0, none⟩) 256 256 (onesOf c) ∧ Below w.heap.size w w' ∧ (convert 30 9 (.slice (some ⟨w.heap.size, 0, none⟩) 256 256)).run Try.prog w' = .ok (.string (strOf (onesOf c))) w') :=
  (ones_is c w).mono fun e w' ⟨he, hb, hB⟩ => ⟨he, by
    have := in_blkt hb (by rw [onesOf_length]; omega)
    rw [onesOf_length] at this
    exact this, hB, conv_blk hb (onesOf_length c)⟩
theorem pending_dk {w : World} {S : Nat → Prop} {d : Nat} {D : Disk} (h : Dk w S d D) (hn : D.ops < 100000000000) :
    Calls Try.prog 20 #[.pointer (some ⟨d, 0, none⟩)] w fun e w' => ∃ ao cp, e = .returned (.slice ao D.pend.length cp) ∧ w'.ownsRow w.heap.size 3 1 (.slice ao D.pend.length cp) D.pend.length (ats D.pend) ∧ Below w.heap.size w w' := by
  obtain ⟨bs, bl, pv, nS, nL, DS, DL, A, _⟩ := h
  refine (pending_is A hn).mono fun e w' ⟨v, he, ho, hb⟩ => ?_
  rcases ho.2 with ⟨e1, e0⟩ | ⟨g, cap, cur, e1, _⟩
  · rw [e1] at he ho
    refine ⟨none, 0, by rw [he, e0], ?_, hb⟩
    have h0 : D.pend = [] := List.eq_nil_of_length_eq_zero e0
    rw [h0]
    exact ⟨rfl, .inl ⟨rfl, rfl⟩⟩
  · subst e1
    exact ⟨_, cap, he, ho, hb⟩
theorem sure_dk {w : World} {S : Nat → Prop} {d : Nat} {D : Disk} (h : Dk w S d D) (hn : D.n = 4) :
    Calls Try.prog 17 #[.pointer (some ⟨d, 0, none⟩)] w fun e w' => ∃ r cp, e = .returned (.slice (some ⟨r, 0, none⟩) 4 cp) ∧ SVQ w' (fun k => w.heap.size ≤ k ∧ k < w'.heap.size) (.slice (some ⟨r, 0, none⟩) 4 cp) (suresTo D 4) ∧ 4 ≤ cp ∧ Below w.heap.size w w' := by
  obtain ⟨bs, bl, pv, nS, nL, DS, DL, A, _⟩ := h
  refine (sure_is A).mono fun e w' ⟨v, he, hsv, hb⟩ => ?_
  rw [hn] at hsv
  have hq := hsv.toQ
  obtain ⟨gs, h1, _⟩ := id hq
  rw [suresTo_length] at h1
  rcases h1.2 with ⟨_, e0⟩ | ⟨g, cap, cur, e1, _, _, h2, _⟩
  · omega
  · subst e1
    exact ⟨g, cap, he, hq, h2, hb⟩
theorem sures_at (D : Disk) {t : Nat} (ht : t < 4) : (suresTo D 4)[t]? = some (D.sure t) := by
  unfold suresTo
  rw [List.getElem?_map, List.getElem?_range ht]; rfl
theorem SVQ.mono {w : World} {Q Q' : Nat → Prop} {v : Value} {ls : List (List UInt8)} (h : SVQ w Q v ls) (hQ : ∀ k, Q k → Q' k) : SVQ w Q' v ls := by
  obtain ⟨gs, h1, h2, h3, h4⟩ := h
  exact ⟨gs, h1, fun g hg => hQ g (h2 g hg), h3, fun i g l hg hl => ⟨hQ g (h4 i g l hg hl).1, (h4 i g l hg hl).2⟩⟩

theorem IQ.inI {w : World} {Q : Nat → Prop} {a : Option Addr} {n c : Nat} {l : List Int} (h : IQ w Q (.slice a n c) l) : InI w a n c l := by
  obtain ⟨a', c', e, hi⟩ := h.toInI
  cases e
  exact hi
theorem IQ.form {w : World} {Q : Nat → Prop} {v : Value} {l : List Int} (h : IQ w Q v l) : ∃ a c, v = .slice a l.length c := by
  obtain ⟨a', c', e, hi⟩ := h.toInI
  exact ⟨a', c', e⟩
theorem upTo_length (n : Nat) : (upTo n).length = n := by simp [upTo]
/-- three disks, the sectors told before, the places told -/
def AInv (w : World) (Q : Nat → Prop) (d : Nat) (D : Disk) (c : Nat) (C : Disk) (e : Nat) (E : Disk) (vw vl : Value) (D5 : Disk) (l : List Int) (wr : World) : Prop :=
  Trio wr w.heap.size Q d D c C e E ∧ Below w.heap.size w wr ∧ SVQ wr Q vw (suresTo D5 4) ∧ IQ wr Q vl l
theorem AInv.rot {w wr : World} {Q : Nat → Prop} {d c e : Nat} {D C E D5 : Disk} {vw vl : Value} {l : List Int} (h : AInv w Q d D c C e E vw vl D5 l wr) : AInv w Q c C e E d D vw vl D5 l wr := ⟨h.1.rot, h.2⟩
theorem AInv.call {w wr : World} {Q : Nat → Prop} {d c e : Nat} {D C E D5 D' : Disk} {vw vl : Value} {l : List Int} (h : AInv w Q d D c C e E vw vl D5 l wr) {f : Nat} {args : Array Value} {e0 : Ending} (hc : ∀ S, Dk wr S d D → Calls Try.prog f args wr fun e w' => e = e0 ∧ After wr S d D' w') :
    Calls Try.prog f args wr fun e1 w' => e1 = e0 ∧ AInv w Q d D' c C e E vw vl D5 l w' :=
  (h.1.call h.2.1.size hc).mono fun _ _ ⟨he, ht, hb, _, hk, hS⟩ => ⟨he, ht, h.2.1.trans hb, h.2.2.1.keep hk hS, h.2.2.2.keep hk hS⟩
theorem AInv.start {w w7 wr w9 : World} {d c e : Nat} {D : Disk} {vw vl : Value} {np : Nat} (h7 : Trio w7 w.heap.size (fun _ => False) d D c D e D ∧ Below w.heap.size w w7) (hr : wr.ownsRow w7.heap.size 3 1 vl np ((upTo np).map (Value.int .i64)) ∧ Below w7.heap.size w7 wr) (hs : SVQ w9 (fun k => wr.heap.size ≤ k ∧ k < w9.heap.size) vw (suresTo D 4)) (hb : Below wr.heap.size wr w9) :
    AInv w (fun k => w7.heap.size ≤ k ∧ k < w9.heap.size) d D c D e D vw vl D (upTo np) w9 := by
  have hb9 : Below w7.heap.size w7 w9 := hr.2.trans (hb.mono hr.2.size)
  refine ⟨h7.1.since hb9, h7.2.trans (hb9.mono h7.2.size), hs.mono (fun k hk => ⟨Nat.le_trans hr.2.size hk.1, hk.2⟩), ?_, fun g hg => ?_⟩
  · rw [upTo_length]
    exact own_zero (own_below hr.1 hb)
  · exact World.ownsRow.lt (own_below hr.1 hb) g hg
theorem SVQ.at4 {w : World} {Q : Nat → Prop} {r cp : Nat} {D : Disk} (h : SVQ w Q (.slice (some ⟨r, 0, none⟩) 4 cp) (suresTo D 4)) {t : Nat} (ht : t < 4) :
    ∃ g, ∀ W, Below w.heap.size w W → W.cell? ⟨r, t, none⟩ = some (.slice (some ⟨g, 0, none⟩) 256 256) ∧ (convert 30 9 (.slice (some ⟨g, 0, none⟩) 256 256)).run Try.prog W = .ok (.string (strOf (D.sure t))) W := by
  obtain ⟨r', cap, g, e, _, hW⟩ := h.at (sures_at D ht)
  rw [suresTo_length] at e
  cases e
  exact ⟨g, hW⟩
/-- what the last loop reads in one turn -/
def Reads (W : World) (rx ry rz rw t gx gy gz gw : Nat) (s1 s2 : ByteArray) : Prop :=
  W.cell? ⟨rx, t, none⟩ = some (.slice (some ⟨gx, 0, none⟩) 256 256) ∧ W.cell? ⟨ry, t, none⟩ = some (.slice (some ⟨gy, 0, none⟩) 256 256) ∧ W.cell? ⟨rz, t, none⟩ = some (.slice (some ⟨gz, 0, none⟩) 256 256) ∧ W.cell? ⟨rw, t, none⟩ = some (.slice (some ⟨gw, 0, none⟩) 256 256) ∧
  (convert 30 9 (.slice (some ⟨gx, 0, none⟩) 256 256)).run Try.prog W = .ok (.string s1) W ∧ (convert 30 9 (.slice (some ⟨gy, 0, none⟩) 256 256)).run Try.prog W = .ok (.string s1) W ∧ (convert 30 9 (.slice (some ⟨gz, 0, none⟩) 256 256)).run Try.prog W = .ok (.string s2) W ∧ (convert 30 9 (.slice (some ⟨gw, 0, none⟩) 256 256)).run Try.prog W = .ok (.string s2) W
theorem reads_at {w : World} {Q1 Q2 Q3 Q4 : Nat → Prop} {rx ry rz rw cx cy cz cw : Nat} {D5 D6 D7 D8 : Disk} (hx : SVQ w Q1 (.slice (some ⟨rx, 0, none⟩) 4 cx) (suresTo D6 4)) (hy : SVQ w Q2 (.slice (some ⟨ry, 0, none⟩) 4 cy) (suresTo D7 4)) (hz : SVQ w Q3 (.slice (some ⟨rz, 0, none⟩) 4 cz) (suresTo D8 4)) (hw : SVQ w Q4 (.slice (some ⟨rw, 0, none⟩) 4 cw) (suresTo D5 4))
    (e1 : ∀ i, D6.sure i = D7.sure i) (e2 : ∀ i, D8.sure i = D5.sure i) (t : Nat) (ht : t < 4) : ∃ gx gy gz gw, ∃ s1 s2, s1 = strOf (D6.sure t) ∧ ∀ W, Below w.heap.size w W → Reads W rx ry rz rw t gx gy gz gw s1 s2 := by
  obtain ⟨gx, kx⟩ := hx.at4 ht
  obtain ⟨gy, ky⟩ := hy.at4 ht
  obtain ⟨gz, kz⟩ := hz.at4 ht
  obtain ⟨gw, kw⟩ := hw.at4 ht
  refine ⟨gx, gy, gz, gw, _, strOf (D5.sure t), rfl, fun W hW => ⟨(kx W hW).1, (ky W hW).1, (kz W hW).1, (kw W hW).1, (kx W hW).2, ?_, ?_, (kw W hW).2⟩⟩
  · rw [e1 t]; exact (ky W hW).2
  · rw [← e2 t]; exact (kz W hW).2

set_option maxHeartbeats 8000000 in
set_option maxRecDepth 100000 in
theorem all_is (l : List ActV) (a : Option Addr) (len cap : Nat) (w : World) (hin : ArgA w a len cap l) :
    Calls Try.prog 5 #[.slice a len cap] w fun e w' => e = .returned (.bool true) ∧ Below w.heap.size w w' := by
  obtain ⟨i0, hi, hz0, hz1, hz2⟩ := info_parts info3
  obtain ⟨D, hD⟩ : ∃ D, D = wrote (l.take 60) := ⟨_, rfl⟩
  have HDO : Hid (D.ops ≤ 60 ∧ D.n = 4) := by rw [hD]; exact ⟨Nat.le_trans (wrote_ops _).1 (by rw [List.length_take]; omega), (wrote_ops _).2⟩
  obtain ⟨D1, D2, D3, D4, D5, D6, D7, D8, e1, o1, e2, e3, e4, e5, e6, e7, e8, eo, en, s1, s2, s3, s4, s5⟩ := all_story HDO.out.2 HDO.out.1
  have HS : Hid (D1 = (if D.down then (D.restart []).2 else D) ∧ D1.arm 1099511627776 = (0, D2) ∧ D2.write 1 (onesOf 1) = (0, D3) ∧ D3.write 2 (onesOf 2) = (0, D4) ∧ D4.write 3 (onesOf 3) = (0, D5) ∧ D5.flush = (0, D6) ∧ D5.restart (upTo D5.pend.length) = (0, D7) ∧ D5.restart [] = (0, D8)) := ⟨e1, e2, e3, e4, e5, e6, e7, e8⟩
  have HO : Hid (D1.ops < 1000 ∧ D2.ops < 1000 ∧ D3.ops < 1000 ∧ D4.ops < 1000 ∧ D5.ops < 1000 ∧ D6.ops < 10000 ∧ D7.ops < 1000 ∧ D8.ops < 1000) := ⟨o1, eo⟩
  have HN : Hid (D5.n = 4 ∧ D6.n = 4 ∧ D7.n = 4 ∧ D8.n = 4) := en
  have HX : Hid ((∀ i, D6.sure i = D7.sure i) ∧ (∀ i, D8.sure i = D5.sure i) ∧ D6.sure 1 = onesOf 1 ∧ D6.sure 2 = onesOf 2 ∧ D6.sure 3 = onesOf 3) := ⟨s1, s2, s3, s4, s5⟩
  have hwr := written_is l a len cap w hin
  rw [← hD] at hwr
  clear e1 o1 e2 e3 e4 e5 e6 e7 e8 eo en s1 s2 s3 s4 s5 hD hin
  go_enter Try.func5, Try.ntmps5
  go_wp2_with fail
  refine hwr.mono ?_
  rintro e w1 ⟨d, rfl, hd1, hb1⟩
  have HD1 : Hid (DkB w1 w.heap.size d D) := hd1
  have HB1 : Hid (Below w.heap.size w w1) := hb1
  clear hd1 hb1 hwr
  go_wp2_with fail
  obtain ⟨S, hS, hSB⟩ := HD1.out
  refine (down_dk hS).mono ?_
  rintro e w1 ⟨rfl, rfl⟩
  clear hS hSB
  cases hdn : D.down
  · have HD2 : Hid (DkB w1 w.heap.size d D1) := by
      have := HS.out.1
      rw [hdn] at this
      rw [this]
      exact HD1.out
    have HB2 : Hid (Below w.heap.size w w1) := HB1.out
    clear hdn
    go_wp2_with fail
    obtain ⟨S, hS, hSB⟩ := HD2.out
    refine (arm_dk hS 1099511627776 (by omega)).mono ?_
    rintro e w3 ⟨rfl, ha⟩
    rw [HS.out.2.1] at ha ⊢
    obtain ⟨hd3, hb3⟩ := ha.toB hSB HB2.out.size
    have HD3 : Hid (DkB w3 w.heap.size d D2 ∧ Below w.heap.size w w3) := ⟨hd3, HB2.out.trans hb3⟩
    clear hS hSB ha hd3 hb3
    go_wp2_with fail
    obtain ⟨Q3, hQ3⟩ : ∃ Q3 : Nat → Prop, Q3 = (fun k => w3.heap.size ≤ k ∧ k < (w3.alloc (.cells #[.int .u8 1, .int .u8 2, .int .u8 3] 5)).heap.size) := ⟨_, rfl⟩
    have HL3 : Hid (LInv w Q3 w3.heap.size d D2 (w3.alloc (.cells #[.int .u8 1, .int .u8 2, .int .u8 3] 5))) := by
      rw [hQ3]
      exact linv_start HD3.out.1 HD3.out.2
    obtain ⟨B3, hB3⟩ : ∃ B3, B3 = w3.heap.size := ⟨_, rfl⟩
    rw [← hB3] at HL3 ⊢
    clear hQ3
    go_loopw [27] (fun i wr => ∃ t : Nat, i = .int .i64 t ∧ t ≤ 3 ∧ Hid (LInv w Q3 B3 d (stepD D2 D3 D4 D5 t) wr)) (fun i _ => 3 - (intOf i).toNat)
    case atStart => exact ⟨0, rfl, by omega, HL3⟩
    case round =>
      clear hB3 HL3
      obtain ⟨t, rfl, ht, hr⟩ := hrel
      have ht' : t = 0 ∨ t = 1 ∨ t = 2 ∨ t = 3 := by omega
      clear ht
      rcases ht' with rfl | rfl | rfl | rfl
      · have cc := hr.out.2.2.2.1
        have oc : Calls Try.prog 24 #[.int .u8 1] wr fun e w' => e = .returned (.slice (some ⟨wr.heap.size, 0, none⟩) 256 256) ∧ Hid (In w' (some ⟨wr.heap.size, 0, none⟩) 256 256 (onesOf 1) ∧ Below wr.heap.size wr w' ∧ (convert 30 9 (.slice (some ⟨wr.heap.size, 0, none⟩) 256 256)).run Try.prog w' = .ok (.string (strOf (onesOf 1))) w') := ones_in 1 wr
        go_wp2_with (go_at_call 24; refine oc.mono ?_; rintro e w4 ⟨rfl, H4⟩; clear oc cc)
        refine ((hr.out.1.below H4.out.2.1).call (Nat.le_trans hr.out.2.1.size H4.out.2.1.size) (fun S hS => write_dk hS (by have := HO.out; show D2.ops < _; omega) 1 _ 256 256 (onesOf 1) H4.out.1)).mono ?_
        rintro e w5 ⟨rfl, hs5, hb5, hk5⟩
        have hst : (stepD D2 D3 D4 D5 0).write 1 (onesOf 1) = (0, D3) := HS.out.2.2.1
        rw [hst] at hs5 ⊢
        have HL5 : Hid (LInv w Q3 B3 d (stepD D2 D3 D4 D5 (0 + 1)) w5) := hr.out.step H4.out.2.1 hs5 hb5 hk5
        clear hs5 hb5 hk5 hst
        go_wp2
        exact ⟨⟨0 + 1, by simp, by omega, HL5⟩, by simp [intOf]⟩
      · have cc := hr.out.2.2.2.2.1
        have oc : Calls Try.prog 24 #[.int .u8 2] wr fun e w' => e = .returned (.slice (some ⟨wr.heap.size, 0, none⟩) 256 256) ∧ Hid (In w' (some ⟨wr.heap.size, 0, none⟩) 256 256 (onesOf 2) ∧ Below wr.heap.size wr w' ∧ (convert 30 9 (.slice (some ⟨wr.heap.size, 0, none⟩) 256 256)).run Try.prog w' = .ok (.string (strOf (onesOf 2))) w') := ones_in 2 wr
        go_wp2_with (go_at_call 24; refine oc.mono ?_; rintro e w4 ⟨rfl, H4⟩; clear oc cc)
        refine ((hr.out.1.below H4.out.2.1).call (Nat.le_trans hr.out.2.1.size H4.out.2.1.size) (fun S hS => write_dk hS (by have := HO.out; show D3.ops < _; omega) 2 _ 256 256 (onesOf 2) H4.out.1)).mono ?_
        rintro e w5 ⟨rfl, hs5, hb5, hk5⟩
        have hst : (stepD D2 D3 D4 D5 1).write 2 (onesOf 2) = (0, D4) := HS.out.2.2.2.1
        rw [hst] at hs5 ⊢
        have HL5 : Hid (LInv w Q3 B3 d (stepD D2 D3 D4 D5 (1 + 1)) w5) := hr.out.step H4.out.2.1 hs5 hb5 hk5
        clear hs5 hb5 hk5 hst
        go_wp2
        exact ⟨⟨1 + 1, by simp, by omega, HL5⟩, by simp [intOf]⟩
      · have cc := hr.out.2.2.2.2.2
        have oc : Calls Try.prog 24 #[.int .u8 3] wr fun e w' => e = .returned (.slice (some ⟨wr.heap.size, 0, none⟩) 256 256) ∧ Hid (In w' (some ⟨wr.heap.size, 0, none⟩) 256 256 (onesOf 3) ∧ Below wr.heap.size wr w' ∧ (convert 30 9 (.slice (some ⟨wr.heap.size, 0, none⟩) 256 256)).run Try.prog w' = .ok (.string (strOf (onesOf 3))) w') := ones_in 3 wr
        go_wp2_with (go_at_call 24; refine oc.mono ?_; rintro e w4 ⟨rfl, H4⟩; clear oc cc)
        refine ((hr.out.1.below H4.out.2.1).call (Nat.le_trans hr.out.2.1.size H4.out.2.1.size) (fun S hS => write_dk hS (by have := HO.out; show D4.ops < _; omega) 3 _ 256 256 (onesOf 3) H4.out.1)).mono ?_
        rintro e w5 ⟨rfl, hs5, hb5, hk5⟩
        have hst : (stepD D2 D3 D4 D5 2).write 3 (onesOf 3) = (0, D5) := HS.out.2.2.2.2.1
        rw [hst] at hs5 ⊢
        have HL5 : Hid (LInv w Q3 B3 d (stepD D2 D3 D4 D5 (2 + 1)) w5) := hr.out.step H4.out.2.1 hs5 hb5 hk5
        clear hs5 hb5 hk5 hst
        go_wp2
        exact ⟨⟨2 + 1, by simp, by omega, HL5⟩, by simp [intOf]⟩
      · have HD5 : Hid (DkB wr w.heap.size d D5 ∧ Below w.heap.size w wr) := ⟨hr.out.1.toB, hr.out.2.1⟩
        clear hr
        go_wp2_with fail
        refine (HD5.out.1.clone HD5.out.2.size (by have := HO.out; omega)).mono ?_
        rintro e w6 ⟨rfl, ht6, hb6⟩
        obtain ⟨c, hc⟩ : ∃ c, c = wr.heap.size := ⟨_, rfl⟩
        rw [← hc] at ht6 ⊢
        have HT6 : Hid (Two w6 w.heap.size d D5 c D5 ∧ Below w.heap.size w w6) := ⟨ht6, HD5.out.2.trans (hb6.mono HD5.out.2.size)⟩
        clear ht6 hb6 hc
        go_wp2_with fail
        refine (HT6.out.1.clone HT6.out.2.size (by have := HO.out; omega)).mono ?_
        rintro e w7 ⟨rfl, ht7, hb7⟩
        obtain ⟨n7, hn7⟩ : ∃ n7, n7 = w6.heap.size := ⟨_, rfl⟩
        rw [← hn7] at ht7 ⊢
        have HT7 : Hid (Trio w7 w.heap.size (fun _ => False) d D5 c D5 n7 D5 ∧ Below w.heap.size w w7) := ⟨ht7, HT6.out.2.trans (hb7.mono HT6.out.2.size)⟩
        clear ht7 hb7 hn7
        go_wp2_with fail
        obtain ⟨S, _, _, hS, _⟩ := HT7.out.1
        refine (pending_dk hS (by have := HO.out; omega)).mono ?_
        rintro e w8 ⟨ao8, cp8, rfl, _, hb8⟩
        obtain ⟨np, hnp⟩ : ∃ np, np = D5.pend.length := ⟨_, rfl⟩
        rw [← hnp]
        have HNP : Hid (np = D5.pend.length ∧ np < 1000000) := ⟨hnp, by have hx := HO.out; obtain ⟨bs, bl, pv, nS, nL, DS, DL, A, _⟩ := hS; have := A.roomS; omega⟩
        have HB8 : Hid (Below w7.heap.size w7 w8) := hb8
        clear hS hb8 hnp
        go_wp2_with fail
        clear HD5
        go_loopw [46, 8] (fun i v wr => ∃ t : Nat, i = .int .i64 t ∧ t ≤ np ∧ Hid (wr.ownsRow w7.heap.size 3 1 v t ((upTo t).map (Value.int .i64)) ∧ Below w7.heap.size w7 wr)) (fun i _ _ => np - (intOf i).toNat)
        case atStart => exact ⟨0, rfl, Nat.zero_le _, ⟨rfl, .inl ⟨rfl, rfl⟩⟩, HB8.out⟩
        case round =>
          clear HB8
          obtain ⟨t, rfl, ht, hr⟩ := hrel
          by_cases hlt : t = np
          · have q1 : ¬ ((t : Int) < (np : Int)) := by omega
            have HR : Hid (wr.ownsRow w7.heap.size 3 1 u8 np ((upTo np).map (Value.int .i64)) ∧ Below w7.heap.size w7 wr) := by
              have := hr.out
              rw [hlt] at this
              exact this
            clear hr hlt ht
            go_wp2_with fail
            clear q1
            obtain ⟨S, _, _, hS, _⟩ := HT7.out.1.below HR.out.2
            refine (sure_dk hS HN.out.1).mono ?_
            rintro e w9 ⟨rw0, cw, rfl, hsv, _, hb9⟩
            clear hS
            obtain ⟨Q, hQ⟩ : ∃ Q : Nat → Prop, Q = (fun k => w7.heap.size ≤ k ∧ k < w9.heap.size) := ⟨_, rfl⟩
            obtain ⟨al, cl, rfl⟩ := (AInv.start HT7.out HR.out hsv hb9).2.2.2.form
            rw [upTo_length] at HR ⊢
            have HA9 : Hid (AInv w Q d D5 c D5 n7 D5 (.slice (some ⟨rw0, 0, none⟩) 4 cw) (.slice al np cl) D5 (upTo np) w9) := by
              rw [hQ]
              exact AInv.start HT7.out HR.out hsv hb9
            clear hsv hb9 hQ HR HT7
            go_wp2_with fail
            refine (HA9.out.call (fun S hS => flush_dk hS (by have := HO.out; omega))).mono ?_
            rintro e w10 ⟨rfl, ha10⟩
            rw [HS.out.2.2.2.2.2.1] at ha10 ⊢
            have HA10 : Hid (AInv w Q c D5 n7 D5 d D6 (.slice (some ⟨rw0, 0, none⟩) 4 cw) (.slice al np cl) D5 (upTo np) w10) := ha10.rot
            clear ha10 HA9
            go_wp2_with fail
            refine (HA10.out.call (fun S hS => restart_dk hS (by have := HO.out; omega) al np cl (upTo np) HA10.out.2.2.2.inI (by have := HNP.out; omega))).mono ?_
            rintro e w11 ⟨rfl, ha11⟩
            have hup : D5.restart (upTo np) = (0, D7) := by
              rw [HNP.out.1]
              exact HS.out.2.2.2.2.2.2.1
            rw [hup] at ha11 ⊢
            have HA11 : Hid (AInv w Q n7 D5 d D6 c D7 (.slice (some ⟨rw0, 0, none⟩) 4 cw) (.slice al np cl) D5 (upTo np) w11) := ha11.rot
            clear ha11 HA10 hup
            go_wp2_with fail
            refine (HA11.out.call (fun S hS => restart_dk hS (by have := HO.out; omega) none 0 0 [] (InI.none _) (by omega))).mono ?_
            rintro e w12 ⟨rfl, ha12⟩
            rw [HS.out.2.2.2.2.2.2.2] at ha12 ⊢
            have HA12 : Hid (AInv w Q d D6 c D7 n7 D8 (.slice (some ⟨rw0, 0, none⟩) 4 cw) (.slice al np cl) D5 (upTo np) w12) := ha12.rot
            clear ha12 HA11
            go_wp2_with fail
            obtain ⟨S, T, R, hS, hT, hR, _⟩ := HA12.out.1
            have HSTR : Hid (Dk w12 S d D6 ∧ Dk w12 T c D7 ∧ Dk w12 R n7 D8) := ⟨hS, hT, hR⟩
            clear hS hT hR
            refine (sure_dk HSTR.out.1 HN.out.2.1).mono ?_
            rintro e w13 ⟨rx, cx, rfl, hx, _, hb13⟩
            have HX13 : Hid (SVQ w13 (fun k => w12.heap.size ≤ k ∧ k < w13.heap.size) (.slice (some ⟨rx, 0, none⟩) 4 cx) (suresTo D6 4) ∧ Below w12.heap.size w12 w13) := ⟨hx, hb13⟩
            clear hx hb13
            go_wp2_with fail
            refine (sure_dk (HSTR.out.2.1.below HX13.out.2) HN.out.2.2.1).mono ?_
            rintro e w14 ⟨ry, cy, rfl, hy, _, hb14⟩
            have HX14 : Hid (SVQ w14 (fun k => w13.heap.size ≤ k ∧ k < w14.heap.size) (.slice (some ⟨ry, 0, none⟩) 4 cy) (suresTo D7 4) ∧ Below w13.heap.size w13 w14) := ⟨hy, hb14⟩
            clear hy hb14
            go_wp2_with fail
            refine (sure_dk ((HSTR.out.2.2.below HX13.out.2).below HX14.out.2) HN.out.2.2.2).mono ?_
            rintro e w15 ⟨rz, cz, rfl, hz, _, hb15⟩
            have HX15 : Hid (Below w.heap.size w w15 ∧ ∀ t, t < 4 → ∃ gx gy gz gw, ∃ s1 s2, s1 = strOf (D6.sure t) ∧ ∀ W, Below w15.heap.size w15 W → Reads W rx ry rz rw0 t gx gy gz gw s1 s2) :=
              ⟨HA12.out.2.1.trans (((HX13.out.2.trans (HX14.out.2.mono HX13.out.2.size)).trans (hb15.mono (Nat.le_trans HX13.out.2.size HX14.out.2.size))).mono HA12.out.2.1.size), fun t ht => reads_at ((HX13.out.1.below HX14.out.2).below hb15) (HX14.out.1.below hb15) hz (((HA12.out.2.2.1.below HX13.out.2).below HX14.out.2).below hb15) HX.out.1 HX.out.2.1 t ht⟩
            clear hz hb15 HX13 HX14 HSTR HA12
            go_wp2_with fail
            go_loopw [104] (fun i wr => ∃ t : Nat, i = .int .i64 t ∧ t ≤ 4 ∧ Hid (Below w15.heap.size w15 wr)) (fun i _ => 4 - (intOf i).toNat)
            case atStart => exact ⟨0, rfl, by omega, Below.refl _ _⟩
            case round =>
              obtain ⟨t, rfl, ht, hr⟩ := hrel
              have ht' : t = 0 ∨ t = 1 ∨ t = 2 ∨ t = 3 ∨ t = 4 := by omega
              clear ht
              rcases ht' with rfl | rfl | rfl | rfl | rfl
              · obtain ⟨gx, gy, gz, gw, s1, s2, hs1, hW⟩ := HX15.out.2 0 (by omega)
                have HW : Hid (∀ W, Below w15.heap.size w15 W → Reads W rx ry rz rw0 0 gx gy gz gw s1 s2) := hW
                clear hW
                have HBD : Hid (Below w15.heap.size w15 wr.drew) := hr.out.trans ((⟨rfl, rfl, rfl, Nat.le_refl _, fun _ _ => rfl⟩ : Below wr.heap.size wr wr.drew).mono hr.out.size)
                have HQ : Hid (∀ n, Below w15.heap.size w15 (wr.drewN n)) := fun n => hr.out.trans ((⟨rfl, rfl, rfl, Nat.le_refl _, fun _ _ => rfl⟩ : Below wr.heap.size wr (wr.drewN n)).mono hr.out.size)
                have c1 := (HW.out _ hr.out).1
                have c2 := (HW.out _ hr.out).2.1
                have c3 := (HW.out _ hr.out).2.2.1
                have c4 := (HW.out _ hr.out).2.2.2.1
                have k1 := fun n => (HW.out _ (HQ.out n)).2.2.2.2.1
                have k2 := fun n => (HW.out _ (HQ.out n)).2.2.2.2.2.1
                have k3 := fun n => (HW.out _ (HQ.out n)).2.2.2.2.2.2.1
                have k4 := fun n => (HW.out _ (HQ.out n)).2.2.2.2.2.2.2
                clear hs1
                go_wp2_with fail
                go_quiet (fail)
                go_wp2_with fail
                exact ⟨⟨0 + 1, by simp, by omega, HQ.out _⟩, by simp [intOf]⟩
              · obtain ⟨gx, gy, gz, gw, s1, s2, hs1, hW⟩ := HX15.out.2 1 (by omega)
                have HW : Hid (∀ W, Below w15.heap.size w15 W → Reads W rx ry rz rw0 1 gx gy gz gw s1 s2) := hW
                clear hW
                have HBD : Hid (Below w15.heap.size w15 wr.drew) := hr.out.trans ((⟨rfl, rfl, rfl, Nat.le_refl _, fun _ _ => rfl⟩ : Below wr.heap.size wr wr.drew).mono hr.out.size)
                have oc : Calls Try.prog 24 #[.int .u8 1] wr.drew fun e w' => e = .returned (.slice (some ⟨wr.heap.size, 0, none⟩) 256 256) ∧ Hid ((convert 30 9 (.slice (some ⟨wr.heap.size, 0, none⟩) 256 256)).run Try.prog w' = .ok (.string s1) w' ∧ Below w15.heap.size w15 w') := (ones_in 1 wr.drew).mono fun e w' ⟨he, h⟩ => ⟨he, by rw [hs1, HX.out.2.2.1]; exact ⟨h.out.2.2, HBD.out.trans (h.out.2.1.mono hr.out.size)⟩⟩
                clear hs1
                go_wp2_with fail
                first | go_region_held_law (fun w' => w'.cell? ⟨rx, 1, none⟩ = some (.slice (some ⟨gx, 0, none⟩) 256 256) ∧ w'.cell? ⟨ry, 1, none⟩ = some (.slice (some ⟨gy, 0, none⟩) 256 256) ∧ w'.cell? ⟨rz, 1, none⟩ = some (.slice (some ⟨gz, 0, none⟩) 256 256) ∧ w'.cell? ⟨rw0, 1, none⟩ = some (.slice (some ⟨gw, 0, none⟩) 256 256) ∧ (convert 30 9 (.slice (some ⟨gx, 0, none⟩) 256 256)).run Try.prog w' = .ok (.string s1) w' ∧ (convert 30 9 (.slice (some ⟨gy, 0, none⟩) 256 256)).run Try.prog w' = .ok (.string s1) w' ∧ (convert 30 9 (.slice (some ⟨gz, 0, none⟩) 256 256)).run Try.prog w' = .ok (.string s2) w' ∧ (convert 30 9 (.slice (some ⟨gw, 0, none⟩) 256 256)).run Try.prog w' = .ok (.string s2) w') (first | exact HW.out _ HBD.out | exact HW.out _ H16.out.2) (first | (go_at_call 24; refine oc.mono ?_; rintro e w16 ⟨rfl, H16⟩; have k16 := H16.out.1)) | fail
                go_wp2_with fail
                exact ⟨⟨1 + 1, by simp, by omega, H16.out.2⟩, by simp [intOf]⟩
              · obtain ⟨gx, gy, gz, gw, s1, s2, hs1, hW⟩ := HX15.out.2 2 (by omega)
                have HW : Hid (∀ W, Below w15.heap.size w15 W → Reads W rx ry rz rw0 2 gx gy gz gw s1 s2) := hW
                clear hW
                have HBD : Hid (Below w15.heap.size w15 wr.drew) := hr.out.trans ((⟨rfl, rfl, rfl, Nat.le_refl _, fun _ _ => rfl⟩ : Below wr.heap.size wr wr.drew).mono hr.out.size)
                have oc : Calls Try.prog 24 #[.int .u8 2] wr.drew fun e w' => e = .returned (.slice (some ⟨wr.heap.size, 0, none⟩) 256 256) ∧ Hid ((convert 30 9 (.slice (some ⟨wr.heap.size, 0, none⟩) 256 256)).run Try.prog w' = .ok (.string s1) w' ∧ Below w15.heap.size w15 w') := (ones_in 2 wr.drew).mono fun e w' ⟨he, h⟩ => ⟨he, by rw [hs1, HX.out.2.2.2.1]; exact ⟨h.out.2.2, HBD.out.trans (h.out.2.1.mono hr.out.size)⟩⟩
                clear hs1
                go_wp2_with fail
                first | go_region_held_law (fun w' => w'.cell? ⟨rx, 2, none⟩ = some (.slice (some ⟨gx, 0, none⟩) 256 256) ∧ w'.cell? ⟨ry, 2, none⟩ = some (.slice (some ⟨gy, 0, none⟩) 256 256) ∧ w'.cell? ⟨rz, 2, none⟩ = some (.slice (some ⟨gz, 0, none⟩) 256 256) ∧ w'.cell? ⟨rw0, 2, none⟩ = some (.slice (some ⟨gw, 0, none⟩) 256 256) ∧ (convert 30 9 (.slice (some ⟨gx, 0, none⟩) 256 256)).run Try.prog w' = .ok (.string s1) w' ∧ (convert 30 9 (.slice (some ⟨gy, 0, none⟩) 256 256)).run Try.prog w' = .ok (.string s1) w' ∧ (convert 30 9 (.slice (some ⟨gz, 0, none⟩) 256 256)).run Try.prog w' = .ok (.string s2) w' ∧ (convert 30 9 (.slice (some ⟨gw, 0, none⟩) 256 256)).run Try.prog w' = .ok (.string s2) w') (first | exact HW.out _ HBD.out | exact HW.out _ H16.out.2) (first | (go_at_call 24; refine oc.mono ?_; rintro e w16 ⟨rfl, H16⟩; have k16 := H16.out.1)) | fail
                go_wp2_with fail
                exact ⟨⟨2 + 1, by simp, by omega, H16.out.2⟩, by simp [intOf]⟩
              · obtain ⟨gx, gy, gz, gw, s1, s2, hs1, hW⟩ := HX15.out.2 3 (by omega)
                have HW : Hid (∀ W, Below w15.heap.size w15 W → Reads W rx ry rz rw0 3 gx gy gz gw s1 s2) := hW
                clear hW
                have HBD : Hid (Below w15.heap.size w15 wr.drew) := hr.out.trans ((⟨rfl, rfl, rfl, Nat.le_refl _, fun _ _ => rfl⟩ : Below wr.heap.size wr wr.drew).mono hr.out.size)
                have oc : Calls Try.prog 24 #[.int .u8 3] wr.drew fun e w' => e = .returned (.slice (some ⟨wr.heap.size, 0, none⟩) 256 256) ∧ Hid ((convert 30 9 (.slice (some ⟨wr.heap.size, 0, none⟩) 256 256)).run Try.prog w' = .ok (.string s1) w' ∧ Below w15.heap.size w15 w') := (ones_in 3 wr.drew).mono fun e w' ⟨he, h⟩ => ⟨he, by rw [hs1, HX.out.2.2.2.2]; exact ⟨h.out.2.2, HBD.out.trans (h.out.2.1.mono hr.out.size)⟩⟩
                clear hs1
                go_wp2_with fail
                first | go_region_held_law (fun w' => w'.cell? ⟨rx, 3, none⟩ = some (.slice (some ⟨gx, 0, none⟩) 256 256) ∧ w'.cell? ⟨ry, 3, none⟩ = some (.slice (some ⟨gy, 0, none⟩) 256 256) ∧ w'.cell? ⟨rz, 3, none⟩ = some (.slice (some ⟨gz, 0, none⟩) 256 256) ∧ w'.cell? ⟨rw0, 3, none⟩ = some (.slice (some ⟨gw, 0, none⟩) 256 256) ∧ (convert 30 9 (.slice (some ⟨gx, 0, none⟩) 256 256)).run Try.prog w' = .ok (.string s1) w' ∧ (convert 30 9 (.slice (some ⟨gy, 0, none⟩) 256 256)).run Try.prog w' = .ok (.string s1) w' ∧ (convert 30 9 (.slice (some ⟨gz, 0, none⟩) 256 256)).run Try.prog w' = .ok (.string s2) w' ∧ (convert 30 9 (.slice (some ⟨gw, 0, none⟩) 256 256)).run Try.prog w' = .ok (.string s2) w') (first | exact HW.out _ HBD.out | exact HW.out _ H16.out.2) (first | (go_at_call 24; refine oc.mono ?_; rintro e w16 ⟨rfl, H16⟩; have k16 := H16.out.1)) | fail
                go_wp2_with fail
                exact ⟨⟨3 + 1, by simp, by omega, H16.out.2⟩, by simp [intOf]⟩
              · go_wp2_with fail
                refine (lives_is wr).mono ?_
                rintro e w17 ⟨rfl, hb17⟩
                have HF : Hid (Below w.heap.size w w17) := (HX15.out.1.trans (hr.out.mono HX15.out.1.size)).trans (hb17.mono (Nat.le_trans HX15.out.1.size hr.out.size))
                clear hb17
                go_wp2
                go_ret
                exact ⟨rfl, HF.out⟩
          · have q1 : (t : Int) < (np : Int) := by omega
            have HLT : Hid (t < np) := by show _ < _; omega
            have HTK : Hid ((upTo (t + 1)).map (Value.int .i64) = (upTo t).map (Value.int .i64) ++ [.int .i64 (t : Int)]) := by show _ = _; rw [upTo_succ, List.map_append]; rfl
            have HO2 : Hid ((wr.alloc (.cells #[.int .i64 (t : Int)] 3)).ownsRow w7.heap.size 3 1 u8 t ((upTo t).map (Value.int .i64))) := own_below hr.out.1 ((Below.refl _ wr).alloc (Nat.le_refl _) _)
            have HNW : Hid (∀ j u, [Value.int .i64 (t : Int)][j]? = some u → (wr.alloc (.cells #[.int .i64 (t : Int)] 3)).cell? ((⟨wr.heap.size, 0, none⟩ : Addr).add j) = some u) := fun j u hj => by
              rw [Addr.add_lit, Nat.zero_add]
              exact (Blk.new wr #[.int .i64 (t : Int)] 3).cell hj
            have hw : IntKind.i64.wrap ((t : Int) + 1) = (t : Int) + 1 := wrapi (by omega) (by have := HNP.out; omega)
            clear ht hlt
            go_wp2_with (with_reducible change wpList _ _ _ ({ dst := some 52, op := Op.call _, type := _, pos := _, after := _, guard := _ } :: _) _ _
                         clear q1
                         refine wpList_append_own_at _ rfl (.tmp 49) (.tmp 51) 31 rfl w7.heap.size 3 i0 (.int .i64 0) 1 8 Try.underlying31 hi hz0 hz1 hz2 rfl (by omega) _ t ((upTo t).map (Value.int .i64)) rfl HO2.out ⟨wr.heap.size, 0, none⟩ 1 1 [.int .i64 (t : Int)] rfl rfl HNW.out (one_int _) (by have := HNP.out; have := HLT.out; unfold maxLen; omega) (by have := HNP.out; have := HLT.out; omega) (by have := hr.out.2.size; simp; omega) ?_
                         intro v5 w5 ho5 hg5 _ _
                         have HO5 : Hid (w5.ownsRow w7.heap.size 3 1 v5 (t + 1) ((upTo (t + 1)).map (Value.int .i64))) := (by rw [HTK.out]; exact ho5)
                         have HB5 : Hid (Below w7.heap.size w7 w5) := (hr.out.2.alloc hr.out.2.size _).grown hg5 (hr.out.2.alloc hr.out.2.size _).size (fun j hj => (World.ownsRow.lt HO2.out j hj).1)
                         clear ho5 hg5)
            exact ⟨⟨t + 1, by simp, HLT.out, HO5.out, HB5.out⟩, by have := HLT.out; simp only [intOf]; omega⟩

  · go_wp2_with fail
    obtain ⟨S, hS, hSB⟩ := HD1.out
    refine (restart_dk hS (by have := HDO.out.1; omega) none 0 0 [] (InI.none _) (by omega)).mono ?_
    rintro e w2 ⟨rfl, ha⟩
    obtain ⟨hd2, hb2⟩ := ha.toB hSB HB1.out.size
    have HD2 : Hid (DkB w2 w.heap.size d D1) := by
      have := HS.out.1
      rw [hdn] at this
      rw [this]
      exact hd2
    have HB2 : Hid (Below w.heap.size w w2) := HB1.out.trans hb2
    clear hS hSB ha hd2 hb2 hdn
    go_wp2_with fail
    obtain ⟨S, hS, hSB⟩ := HD2.out
    refine (arm_dk hS 1099511627776 (by omega)).mono ?_
    rintro e w3 ⟨rfl, ha⟩
    rw [HS.out.2.1] at ha ⊢
    obtain ⟨hd3, hb3⟩ := ha.toB hSB HB2.out.size
    have HD3 : Hid (DkB w3 w.heap.size d D2 ∧ Below w.heap.size w w3) := ⟨hd3, HB2.out.trans hb3⟩
    clear hS hSB ha hd3 hb3
    go_wp2_with fail
    obtain ⟨Q3, hQ3⟩ : ∃ Q3 : Nat → Prop, Q3 = (fun k => w3.heap.size ≤ k ∧ k < (w3.alloc (.cells #[.int .u8 1, .int .u8 2, .int .u8 3] 5)).heap.size) := ⟨_, rfl⟩
    have HL3 : Hid (LInv w Q3 w3.heap.size d D2 (w3.alloc (.cells #[.int .u8 1, .int .u8 2, .int .u8 3] 5))) := by
      rw [hQ3]
      exact linv_start HD3.out.1 HD3.out.2
    obtain ⟨B3, hB3⟩ : ∃ B3, B3 = w3.heap.size := ⟨_, rfl⟩
    rw [← hB3] at HL3 ⊢
    clear hQ3
    go_loopw [27] (fun i wr => ∃ t : Nat, i = .int .i64 t ∧ t ≤ 3 ∧ Hid (LInv w Q3 B3 d (stepD D2 D3 D4 D5 t) wr)) (fun i _ => 3 - (intOf i).toNat)
    case atStart => exact ⟨0, rfl, by omega, HL3⟩
    case round =>
      clear hB3 HL3
      obtain ⟨t, rfl, ht, hr⟩ := hrel
      have ht' : t = 0 ∨ t = 1 ∨ t = 2 ∨ t = 3 := by omega
      clear ht
      rcases ht' with rfl | rfl | rfl | rfl
      · have cc := hr.out.2.2.2.1
        have oc : Calls Try.prog 24 #[.int .u8 1] wr fun e w' => e = .returned (.slice (some ⟨wr.heap.size, 0, none⟩) 256 256) ∧ Hid (In w' (some ⟨wr.heap.size, 0, none⟩) 256 256 (onesOf 1) ∧ Below wr.heap.size wr w' ∧ (convert 30 9 (.slice (some ⟨wr.heap.size, 0, none⟩) 256 256)).run Try.prog w' = .ok (.string (strOf (onesOf 1))) w') := ones_in 1 wr
        go_wp2_with (go_at_call 24; refine oc.mono ?_; rintro e w4 ⟨rfl, H4⟩; clear oc cc)
        refine ((hr.out.1.below H4.out.2.1).call (Nat.le_trans hr.out.2.1.size H4.out.2.1.size) (fun S hS => write_dk hS (by have := HO.out; show D2.ops < _; omega) 1 _ 256 256 (onesOf 1) H4.out.1)).mono ?_
        rintro e w5 ⟨rfl, hs5, hb5, hk5⟩
        have hst : (stepD D2 D3 D4 D5 0).write 1 (onesOf 1) = (0, D3) := HS.out.2.2.1
        rw [hst] at hs5 ⊢
        have HL5 : Hid (LInv w Q3 B3 d (stepD D2 D3 D4 D5 (0 + 1)) w5) := hr.out.step H4.out.2.1 hs5 hb5 hk5
        clear hs5 hb5 hk5 hst
        go_wp2
        exact ⟨⟨0 + 1, by simp, by omega, HL5⟩, by simp [intOf]⟩
      · have cc := hr.out.2.2.2.2.1
        have oc : Calls Try.prog 24 #[.int .u8 2] wr fun e w' => e = .returned (.slice (some ⟨wr.heap.size, 0, none⟩) 256 256) ∧ Hid (In w' (some ⟨wr.heap.size, 0, none⟩) 256 256 (onesOf 2) ∧ Below wr.heap.size wr w' ∧ (convert 30 9 (.slice (some ⟨wr.heap.size, 0, none⟩) 256 256)).run Try.prog w' = .ok (.string (strOf (onesOf 2))) w') := ones_in 2 wr
        go_wp2_with (go_at_call 24; refine oc.mono ?_; rintro e w4 ⟨rfl, H4⟩; clear oc cc)
        refine ((hr.out.1.below H4.out.2.1).call (Nat.le_trans hr.out.2.1.size H4.out.2.1.size) (fun S hS => write_dk hS (by have := HO.out; show D3.ops < _; omega) 2 _ 256 256 (onesOf 2) H4.out.1)).mono ?_
        rintro e w5 ⟨rfl, hs5, hb5, hk5⟩
        have hst : (stepD D2 D3 D4 D5 1).write 2 (onesOf 2) = (0, D4) := HS.out.2.2.2.1
        rw [hst] at hs5 ⊢
        have HL5 : Hid (LInv w Q3 B3 d (stepD D2 D3 D4 D5 (1 + 1)) w5) := hr.out.step H4.out.2.1 hs5 hb5 hk5
        clear hs5 hb5 hk5 hst
        go_wp2
        exact ⟨⟨1 + 1, by simp, by omega, HL5⟩, by simp [intOf]⟩
      · have cc := hr.out.2.2.2.2.2
        have oc : Calls Try.prog 24 #[.int .u8 3] wr fun e w' => e = .returned (.slice (some ⟨wr.heap.size, 0, none⟩) 256 256) ∧ Hid (In w' (some ⟨wr.heap.size, 0, none⟩) 256 256 (onesOf 3) ∧ Below wr.heap.size wr w' ∧ (convert 30 9 (.slice (some ⟨wr.heap.size, 0, none⟩) 256 256)).run Try.prog w' = .ok (.string (strOf (onesOf 3))) w') := ones_in 3 wr
        go_wp2_with (go_at_call 24; refine oc.mono ?_; rintro e w4 ⟨rfl, H4⟩; clear oc cc)
        refine ((hr.out.1.below H4.out.2.1).call (Nat.le_trans hr.out.2.1.size H4.out.2.1.size) (fun S hS => write_dk hS (by have := HO.out; show D4.ops < _; omega) 3 _ 256 256 (onesOf 3) H4.out.1)).mono ?_
        rintro e w5 ⟨rfl, hs5, hb5, hk5⟩
        have hst : (stepD D2 D3 D4 D5 2).write 3 (onesOf 3) = (0, D5) := HS.out.2.2.2.2.1
        rw [hst] at hs5 ⊢
        have HL5 : Hid (LInv w Q3 B3 d (stepD D2 D3 D4 D5 (2 + 1)) w5) := hr.out.step H4.out.2.1 hs5 hb5 hk5
        clear hs5 hb5 hk5 hst
        go_wp2
        exact ⟨⟨2 + 1, by simp, by omega, HL5⟩, by simp [intOf]⟩
      · have HD5 : Hid (DkB wr w.heap.size d D5 ∧ Below w.heap.size w wr) := ⟨hr.out.1.toB, hr.out.2.1⟩
        clear hr
        go_wp2_with fail
        refine (HD5.out.1.clone HD5.out.2.size (by have := HO.out; omega)).mono ?_
        rintro e w6 ⟨rfl, ht6, hb6⟩
        obtain ⟨c, hc⟩ : ∃ c, c = wr.heap.size := ⟨_, rfl⟩
        rw [← hc] at ht6 ⊢
        have HT6 : Hid (Two w6 w.heap.size d D5 c D5 ∧ Below w.heap.size w w6) := ⟨ht6, HD5.out.2.trans (hb6.mono HD5.out.2.size)⟩
        clear ht6 hb6 hc
        go_wp2_with fail
        refine (HT6.out.1.clone HT6.out.2.size (by have := HO.out; omega)).mono ?_
        rintro e w7 ⟨rfl, ht7, hb7⟩
        obtain ⟨n7, hn7⟩ : ∃ n7, n7 = w6.heap.size := ⟨_, rfl⟩
        rw [← hn7] at ht7 ⊢
        have HT7 : Hid (Trio w7 w.heap.size (fun _ => False) d D5 c D5 n7 D5 ∧ Below w.heap.size w w7) := ⟨ht7, HT6.out.2.trans (hb7.mono HT6.out.2.size)⟩
        clear ht7 hb7 hn7
        go_wp2_with fail
        obtain ⟨S, _, _, hS, _⟩ := HT7.out.1
        refine (pending_dk hS (by have := HO.out; omega)).mono ?_
        rintro e w8 ⟨ao8, cp8, rfl, _, hb8⟩
        obtain ⟨np, hnp⟩ : ∃ np, np = D5.pend.length := ⟨_, rfl⟩
        rw [← hnp]
        have HNP : Hid (np = D5.pend.length ∧ np < 1000000) := ⟨hnp, by have hx := HO.out; obtain ⟨bs, bl, pv, nS, nL, DS, DL, A, _⟩ := hS; have := A.roomS; omega⟩
        have HB8 : Hid (Below w7.heap.size w7 w8) := hb8
        clear hS hb8 hnp
        go_wp2_with fail
        clear HD5
        go_loopw [46, 8] (fun i v wr => ∃ t : Nat, i = .int .i64 t ∧ t ≤ np ∧ Hid (wr.ownsRow w7.heap.size 3 1 v t ((upTo t).map (Value.int .i64)) ∧ Below w7.heap.size w7 wr)) (fun i _ _ => np - (intOf i).toNat)
        case atStart => exact ⟨0, rfl, Nat.zero_le _, ⟨rfl, .inl ⟨rfl, rfl⟩⟩, HB8.out⟩
        case round =>
          clear HB8
          obtain ⟨t, rfl, ht, hr⟩ := hrel
          by_cases hlt : t = np
          · have q1 : ¬ ((t : Int) < (np : Int)) := by omega
            have HR : Hid (wr.ownsRow w7.heap.size 3 1 u8 np ((upTo np).map (Value.int .i64)) ∧ Below w7.heap.size w7 wr) := by
              have := hr.out
              rw [hlt] at this
              exact this
            clear hr hlt ht
            go_wp2_with fail
            clear q1
            obtain ⟨S, _, _, hS, _⟩ := HT7.out.1.below HR.out.2
            refine (sure_dk hS HN.out.1).mono ?_
            rintro e w9 ⟨rw0, cw, rfl, hsv, _, hb9⟩
            clear hS
            obtain ⟨Q, hQ⟩ : ∃ Q : Nat → Prop, Q = (fun k => w7.heap.size ≤ k ∧ k < w9.heap.size) := ⟨_, rfl⟩
            obtain ⟨al, cl, rfl⟩ := (AInv.start HT7.out HR.out hsv hb9).2.2.2.form
            rw [upTo_length] at HR ⊢
            have HA9 : Hid (AInv w Q d D5 c D5 n7 D5 (.slice (some ⟨rw0, 0, none⟩) 4 cw) (.slice al np cl) D5 (upTo np) w9) := by
              rw [hQ]
              exact AInv.start HT7.out HR.out hsv hb9
            clear hsv hb9 hQ HR HT7
            go_wp2_with fail
            refine (HA9.out.call (fun S hS => flush_dk hS (by have := HO.out; omega))).mono ?_
            rintro e w10 ⟨rfl, ha10⟩
            rw [HS.out.2.2.2.2.2.1] at ha10 ⊢
            have HA10 : Hid (AInv w Q c D5 n7 D5 d D6 (.slice (some ⟨rw0, 0, none⟩) 4 cw) (.slice al np cl) D5 (upTo np) w10) := ha10.rot
            clear ha10 HA9
            go_wp2_with fail
            refine (HA10.out.call (fun S hS => restart_dk hS (by have := HO.out; omega) al np cl (upTo np) HA10.out.2.2.2.inI (by have := HNP.out; omega))).mono ?_
            rintro e w11 ⟨rfl, ha11⟩
            have hup : D5.restart (upTo np) = (0, D7) := by
              rw [HNP.out.1]
              exact HS.out.2.2.2.2.2.2.1
            rw [hup] at ha11 ⊢
            have HA11 : Hid (AInv w Q n7 D5 d D6 c D7 (.slice (some ⟨rw0, 0, none⟩) 4 cw) (.slice al np cl) D5 (upTo np) w11) := ha11.rot
            clear ha11 HA10 hup
            go_wp2_with fail
            refine (HA11.out.call (fun S hS => restart_dk hS (by have := HO.out; omega) none 0 0 [] (InI.none _) (by omega))).mono ?_
            rintro e w12 ⟨rfl, ha12⟩
            rw [HS.out.2.2.2.2.2.2.2] at ha12 ⊢
            have HA12 : Hid (AInv w Q d D6 c D7 n7 D8 (.slice (some ⟨rw0, 0, none⟩) 4 cw) (.slice al np cl) D5 (upTo np) w12) := ha12.rot
            clear ha12 HA11
            go_wp2_with fail
            obtain ⟨S, T, R, hS, hT, hR, _⟩ := HA12.out.1
            have HSTR : Hid (Dk w12 S d D6 ∧ Dk w12 T c D7 ∧ Dk w12 R n7 D8) := ⟨hS, hT, hR⟩
            clear hS hT hR
            refine (sure_dk HSTR.out.1 HN.out.2.1).mono ?_
            rintro e w13 ⟨rx, cx, rfl, hx, _, hb13⟩
            have HX13 : Hid (SVQ w13 (fun k => w12.heap.size ≤ k ∧ k < w13.heap.size) (.slice (some ⟨rx, 0, none⟩) 4 cx) (suresTo D6 4) ∧ Below w12.heap.size w12 w13) := ⟨hx, hb13⟩
            clear hx hb13
            go_wp2_with fail
            refine (sure_dk (HSTR.out.2.1.below HX13.out.2) HN.out.2.2.1).mono ?_
            rintro e w14 ⟨ry, cy, rfl, hy, _, hb14⟩
            have HX14 : Hid (SVQ w14 (fun k => w13.heap.size ≤ k ∧ k < w14.heap.size) (.slice (some ⟨ry, 0, none⟩) 4 cy) (suresTo D7 4) ∧ Below w13.heap.size w13 w14) := ⟨hy, hb14⟩
            clear hy hb14
            go_wp2_with fail
            refine (sure_dk ((HSTR.out.2.2.below HX13.out.2).below HX14.out.2) HN.out.2.2.2).mono ?_
            rintro e w15 ⟨rz, cz, rfl, hz, _, hb15⟩
            have HX15 : Hid (Below w.heap.size w w15 ∧ ∀ t, t < 4 → ∃ gx gy gz gw, ∃ s1 s2, s1 = strOf (D6.sure t) ∧ ∀ W, Below w15.heap.size w15 W → Reads W rx ry rz rw0 t gx gy gz gw s1 s2) :=
              ⟨HA12.out.2.1.trans (((HX13.out.2.trans (HX14.out.2.mono HX13.out.2.size)).trans (hb15.mono (Nat.le_trans HX13.out.2.size HX14.out.2.size))).mono HA12.out.2.1.size), fun t ht => reads_at ((HX13.out.1.below HX14.out.2).below hb15) (HX14.out.1.below hb15) hz (((HA12.out.2.2.1.below HX13.out.2).below HX14.out.2).below hb15) HX.out.1 HX.out.2.1 t ht⟩
            clear hz hb15 HX13 HX14 HSTR HA12
            go_wp2_with fail
            go_loopw [104] (fun i wr => ∃ t : Nat, i = .int .i64 t ∧ t ≤ 4 ∧ Hid (Below w15.heap.size w15 wr)) (fun i _ => 4 - (intOf i).toNat)
            case atStart => exact ⟨0, rfl, by omega, Below.refl _ _⟩
            case round =>
              obtain ⟨t, rfl, ht, hr⟩ := hrel
              have ht' : t = 0 ∨ t = 1 ∨ t = 2 ∨ t = 3 ∨ t = 4 := by omega
              clear ht
              rcases ht' with rfl | rfl | rfl | rfl | rfl
              · obtain ⟨gx, gy, gz, gw, s1, s2, hs1, hW⟩ := HX15.out.2 0 (by omega)
                have HW : Hid (∀ W, Below w15.heap.size w15 W → Reads W rx ry rz rw0 0 gx gy gz gw s1 s2) := hW
                clear hW
                have HBD : Hid (Below w15.heap.size w15 wr.drew) := hr.out.trans ((⟨rfl, rfl, rfl, Nat.le_refl _, fun _ _ => rfl⟩ : Below wr.heap.size wr wr.drew).mono hr.out.size)
                have HQ : Hid (∀ n, Below w15.heap.size w15 (wr.drewN n)) := fun n => hr.out.trans ((⟨rfl, rfl, rfl, Nat.le_refl _, fun _ _ => rfl⟩ : Below wr.heap.size wr (wr.drewN n)).mono hr.out.size)
                have c1 := (HW.out _ hr.out).1
                have c2 := (HW.out _ hr.out).2.1
                have c3 := (HW.out _ hr.out).2.2.1
                have c4 := (HW.out _ hr.out).2.2.2.1
                have k1 := fun n => (HW.out _ (HQ.out n)).2.2.2.2.1
                have k2 := fun n => (HW.out _ (HQ.out n)).2.2.2.2.2.1
                have k3 := fun n => (HW.out _ (HQ.out n)).2.2.2.2.2.2.1
                have k4 := fun n => (HW.out _ (HQ.out n)).2.2.2.2.2.2.2
                clear hs1
                go_wp2_with fail
                go_quiet (fail)
                go_wp2_with fail
                exact ⟨⟨0 + 1, by simp, by omega, HQ.out _⟩, by simp [intOf]⟩
              · obtain ⟨gx, gy, gz, gw, s1, s2, hs1, hW⟩ := HX15.out.2 1 (by omega)
                have HW : Hid (∀ W, Below w15.heap.size w15 W → Reads W rx ry rz rw0 1 gx gy gz gw s1 s2) := hW
                clear hW
                have HBD : Hid (Below w15.heap.size w15 wr.drew) := hr.out.trans ((⟨rfl, rfl, rfl, Nat.le_refl _, fun _ _ => rfl⟩ : Below wr.heap.size wr wr.drew).mono hr.out.size)
                have oc : Calls Try.prog 24 #[.int .u8 1] wr.drew fun e w' => e = .returned (.slice (some ⟨wr.heap.size, 0, none⟩) 256 256) ∧ Hid ((convert 30 9 (.slice (some ⟨wr.heap.size, 0, none⟩) 256 256)).run Try.prog w' = .ok (.string s1) w' ∧ Below w15.heap.size w15 w') := (ones_in 1 wr.drew).mono fun e w' ⟨he, h⟩ => ⟨he, by rw [hs1, HX.out.2.2.1]; exact ⟨h.out.2.2, HBD.out.trans (h.out.2.1.mono hr.out.size)⟩⟩
                clear hs1
                go_wp2_with fail
                first | go_region_held_law (fun w' => w'.cell? ⟨rx, 1, none⟩ = some (.slice (some ⟨gx, 0, none⟩) 256 256) ∧ w'.cell? ⟨ry, 1, none⟩ = some (.slice (some ⟨gy, 0, none⟩) 256 256) ∧ w'.cell? ⟨rz, 1, none⟩ = some (.slice (some ⟨gz, 0, none⟩) 256 256) ∧ w'.cell? ⟨rw0, 1, none⟩ = some (.slice (some ⟨gw, 0, none⟩) 256 256) ∧ (convert 30 9 (.slice (some ⟨gx, 0, none⟩) 256 256)).run Try.prog w' = .ok (.string s1) w' ∧ (convert 30 9 (.slice (some ⟨gy, 0, none⟩) 256 256)).run Try.prog w' = .ok (.string s1) w' ∧ (convert 30 9 (.slice (some ⟨gz, 0, none⟩) 256 256)).run Try.prog w' = .ok (.string s2) w' ∧ (convert 30 9 (.slice (some ⟨gw, 0, none⟩) 256 256)).run Try.prog w' = .ok (.string s2) w') (first | exact HW.out _ HBD.out | exact HW.out _ H16.out.2) (first | (go_at_call 24; refine oc.mono ?_; rintro e w16 ⟨rfl, H16⟩; have k16 := H16.out.1)) | fail
                go_wp2_with fail
                exact ⟨⟨1 + 1, by simp, by omega, H16.out.2⟩, by simp [intOf]⟩
              · obtain ⟨gx, gy, gz, gw, s1, s2, hs1, hW⟩ := HX15.out.2 2 (by omega)
                have HW : Hid (∀ W, Below w15.heap.size w15 W → Reads W rx ry rz rw0 2 gx gy gz gw s1 s2) := hW
                clear hW
                have HBD : Hid (Below w15.heap.size w15 wr.drew) := hr.out.trans ((⟨rfl, rfl, rfl, Nat.le_refl _, fun _ _ => rfl⟩ : Below wr.heap.size wr wr.drew).mono hr.out.size)
                have oc : Calls Try.prog 24 #[.int .u8 2] wr.drew fun e w' => e = .returned (.slice (some ⟨wr.heap.size, 0, none⟩) 256 256) ∧ Hid ((convert 30 9 (.slice (some ⟨wr.heap.size, 0, none⟩) 256 256)).run Try.prog w' = .ok (.string s1) w' ∧ Below w15.heap.size w15 w') := (ones_in 2 wr.drew).mono fun e w' ⟨he, h⟩ => ⟨he, by rw [hs1, HX.out.2.2.2.1]; exact ⟨h.out.2.2, HBD.out.trans (h.out.2.1.mono hr.out.size)⟩⟩
                clear hs1
                go_wp2_with fail
                first | go_region_held_law (fun w' => w'.cell? ⟨rx, 2, none⟩ = some (.slice (some ⟨gx, 0, none⟩) 256 256) ∧ w'.cell? ⟨ry, 2, none⟩ = some (.slice (some ⟨gy, 0, none⟩) 256 256) ∧ w'.cell? ⟨rz, 2, none⟩ = some (.slice (some ⟨gz, 0, none⟩) 256 256) ∧ w'.cell? ⟨rw0, 2, none⟩ = some (.slice (some ⟨gw, 0, none⟩) 256 256) ∧ (convert 30 9 (.slice (some ⟨gx, 0, none⟩) 256 256)).run Try.prog w' = .ok (.string s1) w' ∧ (convert 30 9 (.slice (some ⟨gy, 0, none⟩) 256 256)).run Try.prog w' = .ok (.string s1) w' ∧ (convert 30 9 (.slice (some ⟨gz, 0, none⟩) 256 256)).run Try.prog w' = .ok (.string s2) w' ∧ (convert 30 9 (.slice (some ⟨gw, 0, none⟩) 256 256)).run Try.prog w' = .ok (.string s2) w') (first | exact HW.out _ HBD.out | exact HW.out _ H16.out.2) (first | (go_at_call 24; refine oc.mono ?_; rintro e w16 ⟨rfl, H16⟩; have k16 := H16.out.1)) | fail
                go_wp2_with fail
                exact ⟨⟨2 + 1, by simp, by omega, H16.out.2⟩, by simp [intOf]⟩
              · obtain ⟨gx, gy, gz, gw, s1, s2, hs1, hW⟩ := HX15.out.2 3 (by omega)
                have HW : Hid (∀ W, Below w15.heap.size w15 W → Reads W rx ry rz rw0 3 gx gy gz gw s1 s2) := hW
                clear hW
                have HBD : Hid (Below w15.heap.size w15 wr.drew) := hr.out.trans ((⟨rfl, rfl, rfl, Nat.le_refl _, fun _ _ => rfl⟩ : Below wr.heap.size wr wr.drew).mono hr.out.size)
                have oc : Calls Try.prog 24 #[.int .u8 3] wr.drew fun e w' => e = .returned (.slice (some ⟨wr.heap.size, 0, none⟩) 256 256) ∧ Hid ((convert 30 9 (.slice (some ⟨wr.heap.size, 0, none⟩) 256 256)).run Try.prog w' = .ok (.string s1) w' ∧ Below w15.heap.size w15 w') := (ones_in 3 wr.drew).mono fun e w' ⟨he, h⟩ => ⟨he, by rw [hs1, HX.out.2.2.2.2]; exact ⟨h.out.2.2, HBD.out.trans (h.out.2.1.mono hr.out.size)⟩⟩
                clear hs1
                go_wp2_with fail
                first | go_region_held_law (fun w' => w'.cell? ⟨rx, 3, none⟩ = some (.slice (some ⟨gx, 0, none⟩) 256 256) ∧ w'.cell? ⟨ry, 3, none⟩ = some (.slice (some ⟨gy, 0, none⟩) 256 256) ∧ w'.cell? ⟨rz, 3, none⟩ = some (.slice (some ⟨gz, 0, none⟩) 256 256) ∧ w'.cell? ⟨rw0, 3, none⟩ = some (.slice (some ⟨gw, 0, none⟩) 256 256) ∧ (convert 30 9 (.slice (some ⟨gx, 0, none⟩) 256 256)).run Try.prog w' = .ok (.string s1) w' ∧ (convert 30 9 (.slice (some ⟨gy, 0, none⟩) 256 256)).run Try.prog w' = .ok (.string s1) w' ∧ (convert 30 9 (.slice (some ⟨gz, 0, none⟩) 256 256)).run Try.prog w' = .ok (.string s2) w' ∧ (convert 30 9 (.slice (some ⟨gw, 0, none⟩) 256 256)).run Try.prog w' = .ok (.string s2) w') (first | exact HW.out _ HBD.out | exact HW.out _ H16.out.2) (first | (go_at_call 24; refine oc.mono ?_; rintro e w16 ⟨rfl, H16⟩; have k16 := H16.out.1)) | fail
                go_wp2_with fail
                exact ⟨⟨3 + 1, by simp, by omega, H16.out.2⟩, by simp [intOf]⟩
              · go_wp2_with fail
                refine (lives_is wr).mono ?_
                rintro e w17 ⟨rfl, hb17⟩
                have HF : Hid (Below w.heap.size w w17) := (HX15.out.1.trans (hr.out.mono HX15.out.1.size)).trans (hb17.mono (Nat.le_trans HX15.out.1.size hr.out.size))
                clear hb17
                go_wp2
                go_ret
                exact ⟨rfl, HF.out⟩
          · have q1 : (t : Int) < (np : Int) := by omega
            have HLT : Hid (t < np) := by show _ < _; omega
            have HTK : Hid ((upTo (t + 1)).map (Value.int .i64) = (upTo t).map (Value.int .i64) ++ [.int .i64 (t : Int)]) := by show _ = _; rw [upTo_succ, List.map_append]; rfl
            have HO2 : Hid ((wr.alloc (.cells #[.int .i64 (t : Int)] 3)).ownsRow w7.heap.size 3 1 u8 t ((upTo t).map (Value.int .i64))) := own_below hr.out.1 ((Below.refl _ wr).alloc (Nat.le_refl _) _)
            have HNW : Hid (∀ j u, [Value.int .i64 (t : Int)][j]? = some u → (wr.alloc (.cells #[.int .i64 (t : Int)] 3)).cell? ((⟨wr.heap.size, 0, none⟩ : Addr).add j) = some u) := fun j u hj => by
              rw [Addr.add_lit, Nat.zero_add]
              exact (Blk.new wr #[.int .i64 (t : Int)] 3).cell hj
            have hw : IntKind.i64.wrap ((t : Int) + 1) = (t : Int) + 1 := wrapi (by omega) (by have := HNP.out; omega)
            clear ht hlt
            go_wp2_with (with_reducible change wpList _ _ _ ({ dst := some 52, op := Op.call _, type := _, pos := _, after := _, guard := _ } :: _) _ _
                         clear q1
                         refine wpList_append_own_at _ rfl (.tmp 49) (.tmp 51) 31 rfl w7.heap.size 3 i0 (.int .i64 0) 1 8 Try.underlying31 hi hz0 hz1 hz2 rfl (by omega) _ t ((upTo t).map (Value.int .i64)) rfl HO2.out ⟨wr.heap.size, 0, none⟩ 1 1 [.int .i64 (t : Int)] rfl rfl HNW.out (one_int _) (by have := HNP.out; have := HLT.out; unfold maxLen; omega) (by have := HNP.out; have := HLT.out; omega) (by have := hr.out.2.size; simp; omega) ?_
                         intro v5 w5 ho5 hg5 _ _
                         have HO5 : Hid (w5.ownsRow w7.heap.size 3 1 v5 (t + 1) ((upTo (t + 1)).map (Value.int .i64))) := (by rw [HTK.out]; exact ho5)
                         have HB5 : Hid (Below w7.heap.size w7 w5) := (hr.out.2.alloc hr.out.2.size _).grown hg5 (hr.out.2.alloc hr.out.2.size _).size (fun j hj => (World.ownsRow.lt HO2.out j hj).1)
                         clear ho5 hg5)
            exact ⟨⟨t + 1, by simp, HLT.out, HO5.out, HB5.out⟩, by have := HLT.out; simp only [intOf]; omega⟩

#print axioms all_is
end Go.Proofs.Ytfbdbamlffifpaa.Oct
