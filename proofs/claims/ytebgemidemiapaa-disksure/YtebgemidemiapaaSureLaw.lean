/-
  Layer 5 (disk): the law DiskSure.
-/
import Derived.Test.YtebgemidemiapaaTrio
import Derived.Test.YtebgemidemiapaaSurePure
import Derived.Test.YtebgemidemiapaaBools
import Derived.BigQuiet
import Derived.Test.YtebgemidemiapaaSureRegion
import Derived.Test.YtebgemidemiapaaSureLast
namespace Go.Proofs.Ytebgemidemiapaa.Oct
open Go.RowKit Go.Maps Go.Lib

theorem sure_dkS {w : World} {S : Nat → Prop} {d : Nat} {D : Disk} (h : Dk w S d D) (hn : D.n = 4) :
    Calls Try.prog 17 #[.pointer (some ⟨d, 0, none⟩)] w fun e w' => ∃ r cp, e = .returned (.slice (some ⟨r, 0, none⟩) 4 cp) ∧ SVQ w' (fun k => w.heap.size ≤ k ∧ k < w'.heap.size) (.slice (some ⟨r, 0, none⟩) 4 cp) (suresTo D 4) ∧ 4 ≤ cp ∧ Below w.heap.size w w' := by
  obtain ⟨bs, bl, pv, nS, nL, DS, DL, A, _⟩ := h
  refine (sure_is A).mono fun e w' ⟨v, he, hsv, hb⟩ => ?_
  rw [hn] at hsv
  have hq := hsv.toQ
  obtain ⟨gs, h1, _⟩ := id hq
  rw [suresTo_length] at h1
  rcases h1.2 with ⟨_, e0⟩ | ⟨g, cap, cur, e1, _, _, h2, _⟩
  · omega
  · subst e1
    exact ⟨g, cap, he, hq, h2, hb⟩
theorem pending_dkS {w : World} {S : Nat → Prop} {d : Nat} {D : Disk} (h : Dk w S d D) (hn : D.ops < 100000000000) :
    Calls Try.prog 20 #[.pointer (some ⟨d, 0, none⟩)] w fun e w' => ∃ ao cp, e = .returned (.slice ao D.pend.length cp) ∧ Below w.heap.size w w' := by
  obtain ⟨bs, bl, pv, nS, nL, DS, DL, A, _⟩ := h
  refine (pending_is A hn).mono fun e w' ⟨v, he, ho, hb⟩ => ?_
  rcases ho.2 with ⟨e1, e0⟩ | ⟨g, cap, cur, e1, _⟩
  · exact ⟨none, 0, by rw [he, e1, e0], hb⟩
  · exact ⟨_, cap, by rw [he, e1], hb⟩
theorem Solo.add {w w' : World} {B : Nat} {Q : Nat → Prop} {d : Nat} {D : Disk} (h : Solo w B Q d D) (hb : Below w.heap.size w w') (hl : w.heap.size < w'.heap.size) : Solo w' B (fun k => Q k ∨ k = w.heap.size) d D := by
  obtain ⟨S, h1, h2, h3, h4⟩ := h
  refine ⟨S, h1.below hb, h2, fun k hk hs => ?_, fun k hk => ?_⟩
  · rcases hk with hk | hk
    · exact h3 k hk hs
    · have := h1.lt k hs; omega
  · rcases hk with hk | hk
    · have := h4 k hk; have := hb.size; omega
    · omega
theorem Solo.less {w : World} {B : Nat} {Q Q' : Nat → Prop} {d : Nat} {D : Disk} (h : Solo w B Q d D) (hQ : ∀ k, Q' k → Q k) : Solo w B Q' d D := by
  obtain ⟨S, h1, h2, h3, h4⟩ := h
  exact ⟨S, h1, h2, fun k hk => h3 k (hQ k hk), fun k hk => h4 k (hQ k hk)⟩
/-- a cell of a block of Q is set -/
theorem Solo.set {w w' : World} {B : Nat} {Q : Nat → Prop} {d : Nat} {D : Disk} (h : Solo w B Q d D) {b : Nat} (hq : Q b) (hk : Keep (fun k => k = b) w w') : Solo w' B Q d D := by
  obtain ⟨S, h1, h2, h3, h4⟩ := h
  refine ⟨S, h1.keep hk (fun k hs e => ?_), h2, h3, fun k hk' => Nat.lt_of_lt_of_le (h4 k hk') hk.size⟩
  rw [e] at hs
  exact h3 b hq hs
/-- the four marks -/
def tb (T : Nat → Bool) : List Value := [.bool (T 0), .bool (T 1), .bool (T 2), .bool (T 3)]
theorem tb_at (T : Nat → Bool) {q : Nat} (hq : q < 4) : (tb T)[q]? = some (.bool (T q)) := by
  have : q = 0 ∨ q = 1 ∨ q = 2 ∨ q = 3 := by omega
  rcases this with rfl | rfl | rfl | rfl <;> rfl
theorem tb_set (T : Nat → Bool) {q : Nat} (hq : q < 4) : (tb T).set q (.bool true) = tb (fun k => T k || k == q) := by
  have : q = 0 ∨ q = 1 ∨ q = 2 ∨ q = 3 := by omega
  rcases this with rfl | rfl | rfl | rfl <;> simp [tb]
/-- what the law's first loop keeps -/
def TInv (w : World) (Q : Nat → Prop) (TB d : Nat) (B : Disk) (vw : Value) (D : Disk) (T : Nat → Bool) (k : Nat) (wr : World) : Prop :=
  SInv B T k D ∧ Solo wr w.heap.size (fun k => Q k ∨ k = TB) d D ∧ Below w.heap.size w wr ∧ SVQ wr Q vw (suresTo B 4) ∧ ¬ Q TB ∧ w.heap.size ≤ TB ∧ Blk wr TB 46 (tb T)
theorem TInv.below {w wr w' : World} {Q : Nat → Prop} {TB d : Nat} {B : Disk} {vw : Value} {D : Disk} {T : Nat → Bool} {k : Nat} (h : TInv w Q TB d B vw D T k wr) (hb : Below wr.heap.size wr w') : TInv w Q TB d B vw D T k w' := by
  obtain ⟨h1, h2, h3, h4, h5, h6, h7⟩ := h
  exact ⟨h1, h2.below hb, h3.trans (hb.mono h3.size), h4.below hb, h5, h6, h7.below hb h7.lt⟩
theorem tinv_start {w w3 w4 : World} {d : Nat} {B : Disk} {vw : Value} (hd : DkB w3 w.heap.size d B) (hb3 : Below w.heap.size w w3) (hs : SInv B (fun _ => false) 0 B) (hsv : SVQ w4 (fun k => w3.heap.size ≤ k ∧ k < w4.heap.size) vw (suresTo B 4)) (hb : Below w3.heap.size w3 w4) :
    TInv w (fun k => w3.heap.size ≤ k ∧ k < w4.heap.size) w4.heap.size d B vw B (fun _ => false) 0 (w4.alloc (.cells #[.bool false, .bool false, .bool false, .bool false] 46)) := by
  have hB : Below w4.heap.size w4 (w4.alloc (.cells #[.bool false, .bool false, .bool false, .bool false] 46)) := (Below.refl _ w4).alloc (Nat.le_refl _) _
  have hb4 : Below w.heap.size w w4 := hb3.trans (hb.mono hb3.size)
  exact ⟨hs, (hd.since hb).add hB (by simp), hb4.trans (hB.mono hb4.size), hsv.below hB, fun e => Nat.lt_irrefl _ e.2, hb4.size, Blk.new w4 #[.bool false, .bool false, .bool false, .bool false] 46⟩

theorem sures_at (D : Disk) {t : Nat} (ht : t < 4) : (suresTo D 4)[t]? = some (D.sure t) := by
  unfold suresTo
  rw [List.getElem?_map, List.getElem?_range ht]; rfl
theorem SVQ.at4 {w : World} {Q : Nat → Prop} {r cp : Nat} {D : Disk} (h : SVQ w Q (.slice (some ⟨r, 0, none⟩) 4 cp) (suresTo D 4)) {t : Nat} (ht : t < 4) :
    ∃ g, ∀ W, Below w.heap.size w W → W.cell? ⟨r, t, none⟩ = some (.slice (some ⟨g, 0, none⟩) 256 256) ∧ (convert 30 9 (.slice (some ⟨g, 0, none⟩) 256 256)).run Try.prog W = .ok (.string (strOf (D.sure t))) W := by
  obtain ⟨r', cap, g, e, _, hW⟩ := h.at (sures_at D ht)
  rw [suresTo_length] at e
  cases e
  exact ⟨g, hW⟩
theorem SVQ.len4 {w : World} {Q : Nat → Prop} {v : Value} {D : Disk} (h : SVQ w Q v (suresTo D 4)) {t : Nat} (ht : t < 4) : (D.sure t).length = 256 := by
  obtain ⟨gs, h1, h2, h3, h4⟩ := h
  have hi := sures_at D ht
  have hil : t < (suresTo D 4).length := (List.getElem?_eq_some_iff.1 hi).1
  obtain ⟨g, hg⟩ : ∃ g, gs[t]? = some g := ⟨_, List.getElem?_eq_getElem (by omega)⟩
  exact (h4 t g _ hg hi).2.2
theorem blk_frozen {w : World} {b : Nat} {t : TypeId} {L : List Value} (h : Blk w b t L) (i : Nat) : w.frozen? ⟨b, i, none⟩ = false := by
  simp [World.frozen?, show w.heap[b]? = _ from h]
theorem keep_setCell (w : World) (b i : Nat) (v : Value) : Keep (fun k => k = b) w (w.setCell ⟨b, i, none⟩ v) :=
  ⟨rfl, rfl, rfl, ((Below.refl 0 w).setCell (p := ⟨b, i, none⟩) (Nat.zero_le _) v).size, fun k _ hk => Below.heap_setCell _ _ _ k (fun e => hk e)⟩
theorem TInv.add {w wr w' : World} {Q : Nat → Prop} {TB d : Nat} {B : Disk} {vw : Value} {D : Disk} {T : Nat → Bool} {k : Nat} (h : TInv w Q TB d B vw D T k wr) (hb : Below wr.heap.size wr w') (hl : wr.heap.size < w'.heap.size) : Solo w' w.heap.size (fun k => (Q k ∨ k = TB) ∨ k = wr.heap.size) d D := h.2.1.add hb hl
/-- a write, and the mark of its sector -/
theorem TInv.write {w wr w4 w5 w6 : World} {Q : Nat → Prop} {TB d BA q : Nat} {B : Disk} {vw : Value} {D D' : Disk} {T : Nat → Bool} {k : Nat} (h : TInv w Q TB d B vw D T k wr) (hb : Below wr.heap.size wr w4) (hs : Solo w5 w.heap.size (fun k => (Q k ∨ k = TB) ∨ k = BA) d D') (hb5 : Below w.heap.size w4 w5) (hk : ∃ S, Keep S w4 w5 ∧ ∀ k, ((Q k ∨ k = TB) ∨ k = BA) → ¬ S k)
    (hq : q < 4) (hi : SInv B (fun k => T k || k == q) (k + 1) D') (hw6 : w6 = w5.setCell ⟨TB, q, none⟩ (.bool true)) (hk6 : Keep (fun k => k = TB) w5 w6) : TInv w Q TB d B vw D' (fun k => T k || k == q) (k + 1) w6 := by
  obtain ⟨h1, h2, h3, h4, h5, h6, h7⟩ := h
  obtain ⟨S, hk1, hk2⟩ := hk
  have hb4 : Below w.heap.size w w4 := h3.trans (hb.mono h3.size)
  have hb5' : Below w.heap.size w w5 := hb4.trans hb5
  have e5 : Blk w5 TB 46 (tb T) := hk1.blk (h7.below hb h7.lt) (hk2 TB (.inl (.inr rfl)))
  refine ⟨hi, (hs.less (fun k hk => .inl hk)).set (.inr rfl) hk6, hb5'.trans (hk6.toBelow hb5'.size (fun k e => by rw [e]; exact h6)), ((h4.below hb).keep hk1 (fun k hq => hk2 k (.inl (.inl hq)))).keep hk6 (fun k hq e => h5 (by rw [← e]; exact hq)), h5, h6, ?_⟩
  rw [hw6, ← tb_set T hq]
  exact e5.set q _

set_option maxHeartbeats 8000000 in
set_option maxRecDepth 100000 in
theorem surelaw_is (l more : List ActV) (kp : List Bool) (a a1 a2 : Option Addr) (len cap len1 cap1 len2 cap2 : Nat) (w : World) (hin : ArgA w a len cap l) (hin1 : ArgA w a1 len1 cap1 more) (hin2 : ArgT w a2 len2 cap2 kp) :
    Calls Try.prog 4 #[.slice a len cap, .slice a1 len1 cap1, .slice a2 len2 cap2] w fun e w' => e = .returned (.bool true) ∧ Below w.heap.size w w' := by
  obtain ⟨i0, hi, hz0, hz1, hz2⟩ := info_parts info3
  obtain ⟨D, hD⟩ : ∃ D, D = wrote (l.take 60) := ⟨_, rfl⟩
  have HDO : Hid (D.ops ≤ 60 ∧ D.n = 4) := by rw [hD]; exact ⟨Nat.le_trans (wrote_ops _).1 (by rw [List.length_take]; omega), (wrote_ops _).2⟩
  obtain ⟨D1, B, e1, o1, e2, hs⟩ := sinv_first HDO.out.2 HDO.out.1
  have HS : Hid (D.restart [] = (0, D1) ∧ D1.ops ≤ 60 ∧ D1.flush = (0, B) ∧ SInv B (fun _ => false) 0 B) := ⟨e1, o1, e2, hs⟩
  have HIN1 : Hid (ArgA w a1 len1 cap1 more) := hin1
  have HIN2 : Hid (ArgT w a2 len2 cap2 kp) := hin2
  have hwr := written_is l a len cap w hin
  rw [← hD] at hwr
  clear e1 o1 e2 hs hD hin hin1 hin2
  go_enter Try.func4, Try.ntmps4
  go_wp2_with fail
  refine hwr.mono ?_
  rintro e w1 ⟨d, rfl, hd1, hb1⟩
  have HD1 : Hid (DkB w1 w.heap.size d D ∧ Below w.heap.size w w1) := ⟨hd1, hb1⟩
  clear hd1 hb1 hwr
  go_wp2_with fail
  obtain ⟨S, hS, hSB⟩ := HD1.out.1
  refine (restart_dk hS (by have := HDO.out.1; omega) none 0 0 [] (InI.none _) (by omega)).mono ?_
  rintro e w2 ⟨rfl, ha⟩
  rw [HS.out.1] at ha ⊢
  obtain ⟨hd2, hb2⟩ := ha.toB hSB HD1.out.2.size
  have HD2 : Hid (DkB w2 w.heap.size d D1 ∧ Below w.heap.size w w2) := ⟨hd2, HD1.out.2.trans hb2⟩
  clear hS hSB ha hd2 hb2 HD1
  go_wp2_with fail
  obtain ⟨S, hS, hSB⟩ := HD2.out.1
  refine (flush_dk hS (by have := HS.out.2.1; omega)).mono ?_
  rintro e w3 ⟨rfl, ha⟩
  rw [HS.out.2.2.1] at ha ⊢
  obtain ⟨hd3, hb3⟩ := ha.toB hSB HD2.out.2.size
  have HD3 : Hid (DkB w3 w.heap.size d B ∧ Below w.heap.size w w3) := ⟨hd3, HD2.out.2.trans hb3⟩
  clear hS hSB ha hd3 hb3 HD2
  go_wp2_with fail
  obtain ⟨S, hS, hSB⟩ := HD3.out.1
  refine (sure_dkS hS HS.out.2.2.2.n).mono ?_
  rintro e w4 ⟨rw0, cw, rfl, hsv, _, hb4⟩
  obtain ⟨Q, hQ⟩ : ∃ Q : Nat → Prop, Q = (fun k => w3.heap.size ≤ k ∧ k < w4.heap.size) := ⟨_, rfl⟩
  obtain ⟨TB, hTB⟩ : ∃ TB, TB = w4.heap.size := ⟨_, rfl⟩
  have HT4 : Hid (TInv w Q TB d B (.slice (some ⟨rw0, 0, none⟩) 4 cw) B (fun _ => false) 0 (w4.alloc (.cells #[.bool false, .bool false, .bool false, .bool false] 46))) := by
    rw [hQ, hTB]
    exact tinv_start HD3.out.1 HD3.out.2 HS.out.2.2.2 hsv hb4
  clear hS hSB hsv hb4 hQ HD3
  go_wp2_with fail
  rw [← hTB]
  clear hTB
  go_loopw [33] (fun i wr => ∃ t : Nat, i = .int .i64 t ∧ t ≤ len1 ∧ Hid (∃ D T k, k ≤ 20 ∧ (t ≤ 20 → k = t) ∧ TInv w Q TB d B (.slice (some ⟨rw0, 0, none⟩) 4 cw) D T k wr)) (fun i _ => len1 - (intOf i).toNat)
  case atStart => exact ⟨0, rfl, Nat.zero_le _, B, _, 0, by omega, fun _ => rfl, HT4.out⟩
  case round =>
    clear HT4
    obtain ⟨t, rfl, ht, hr⟩ := hrel
    by_cases hlt : t = len1
    · have q1 : ¬ ((t : Int) < (len1 : Int)) := by omega
      obtain ⟨Dt, T, k, hk20, _, hti⟩ := hr.out
      have HTI : Hid (TInv w Q TB d B (.slice (some ⟨rw0, 0, none⟩) 4 cw) Dt T k wr ∧ k ≤ 20) := ⟨hti, hk20⟩
      clear hr hlt ht hk20 hti
      go_wp2_with fail
      clear q1
      obtain ⟨S0, hDk, hS0⟩ := HTI.out.1.2.1
      obtain ⟨NP, hNP⟩ : ∃ NP, NP = Dt.pend.length := ⟨_, rfl⟩
      have HNP : Hid (NP = Dt.pend.length ∧ NP < 1000000) := ⟨hNP, by have hx := HTI.out.1.1.ops; have hx2 := HTI.out.2; obtain ⟨bs, bl, pv, nS, nL, DS, DL, A, _⟩ := hDk; have := A.roomS; omega⟩
      refine (pending_dkS hDk (by have := HTI.out.1.1.ops; have := HTI.out.2; omega)).mono ?_
      rintro e w7 ⟨ao, cpp, rfl, hB7⟩
      rw [← hNP]
      have HT7 : Hid (TInv w Q TB d B (.slice (some ⟨rw0, 0, none⟩) 4 cw) Dt T k w7) := HTI.out.1.below hB7
      clear hS0 hDk hNP hB7
      go_wp2_with fail
      go_loopw [12, 63] (fun v i wr' => ∃ (t' : Nat) (li : List Int), i = .int .i64 (t' : Int) ∧ t' ≤ NP ∧ Hid ((∀ p ∈ li, 0 ≤ p ∧ p < (NP : Int)) ∧ li.length ≤ t' ∧ wr'.ownsRow w7.heap.size 3 1 v li.length (li.map (Value.int .i64)) ∧ Below w7.heap.size w7 wr')) (fun _ i _ => NP - (intOf i).toNat)
      case atStart => exact ⟨0, [], rfl, by omega, by simp, Nat.le_refl _, ⟨rfl, .inl ⟨rfl, rfl⟩⟩, Below.refl _ _⟩
      case round =>
        obtain ⟨t', li, rfl, ht', hr'⟩ := hrel
        by_cases hlt' : t' = NP
        · subst hlt'
          go_wp2_with fail
          have HTR : Hid (TInv w Q TB d B (.slice (some ⟨rw0, 0, none⟩) 4 cw) Dt T k wr) := HT7.out.below hr'.out.2.2.2
          obtain ⟨al, cl, hvl, hin⟩ := IQ.toInI (Q := fun _ => True) (v := u12) (l := li) ⟨own_zero hr'.out.2.2.1, fun _ _ => trivial⟩
          subst hvl
          obtain ⟨DR, hDR, hn4, hdn, hops, hpe, hread⟩ := HTR.out.1.restart (l := li) (by rw [← HNP.out.1]; exact hr'.out.1)
          refine (HTR.out.2.1.call HTR.out.2.2.1.size (fun S hS => restart_dk hS (by have := HTR.out.1.ops; have := HTI.out.2; omega) al li.length cl li hin (by have := hr'.out.2.1; have := HNP.out; omega))).mono ?_
          rintro e w8 ⟨rfl, hs8, hb8, S8, hk8, hS8⟩
          rw [hDR] at hs8 ⊢
          have HFI : Hid (Solo w8 w.heap.size (fun k => Q k ∨ k = TB) d DR ∧ SVQ w8 Q (.slice (some ⟨rw0, 0, none⟩) 4 cw) (suresTo B 4) ∧ Blk w8 TB 46 (tb T) ∧ Below w.heap.size w w8) :=
            ⟨hs8, HTR.out.2.2.2.1.keep hk8 (fun k hk => hS8 k (.inl hk)), hk8.blk HTR.out.2.2.2.2.2.2 (hS8 TB (.inr rfl)), HTR.out.2.2.1.trans hb8⟩
          have HDR : Hid (DR.n = 4 ∧ DR.down = false ∧ DR.ops ≤ 100 + k ∧ DR.pend = [] ∧ ∀ i : Nat, i < 4 → DR.read (i : Int) = (DR.sure i, 0) ∧ (T i = false → DR.sure i = B.sure i)) := ⟨hn4, hdn, hops, hpe, hread⟩
          clear hs8 hb8 hk8 hS8 hn4 hdn hops hpe hread hDR hin
          go_wp2_with fail
          go_loopw [87] (fun i wr => ∃ t : Nat, i = .int .i64 (t : Int) ∧ t ≤ 4 ∧ Hid (Solo wr w.heap.size (fun k => Q k ∨ k = TB) d DR ∧ SVQ wr Q (.slice (some ⟨rw0, 0, none⟩) 4 cw) (suresTo B 4) ∧ Blk wr TB 46 (tb T) ∧ Below w.heap.size w wr)) (fun i _ => 4 - (intOf i).toNat)
          case atStart => exact ⟨0, rfl, by omega, HFI.out⟩
          case round =>
            clear HTR HFI hr' HT7
            obtain ⟨t3, rfl, ht3, hr3⟩ := hrel
            obtain ⟨S3, hDk3, hS3⟩ := hr3.out.1
            by_cases hlt3 : t3 = 4
            · subst hlt3
              go_wp2_with fail
              refine (pending_dkS hDk3 (by have := HDR.out.2.2.1; have := HTI.out.2; omega)).mono ?_
              rintro e w9 ⟨ao9, cp9, rfl, hB9⟩
              rw [HDR.out.2.2.2.1]
              have HB9 : Hid (Below w.heap.size w w9) := hr3.out.2.2.2.trans (hB9.mono hr3.out.2.2.2.size)
              clear hB9
              go_wp2_with fail
              refine (lives_is _).mono ?_
              rintro e w10 ⟨rfl, hB10⟩
              have HB10 : Hid (Below w.heap.size w w10) := HB9.out.trans (hB10.mono HB9.out.size)
              clear hB10
              go_wp2_with fail
              go_ret
              exact ⟨rfl, HB10.out⟩
            · have q3 : (t3 : Int) < 4 := by omega
              have HT3 : Hid (t3 < 4) := by show t3 < 4; omega
              have hrd := read_dk hDk3 (by have := HDR.out.2.2.1; have := HTI.out.2; omega) HDR.out.2.1 t3 (by rw [HDR.out.1]; omega)
              rw [HDR.out.2.2.2.1, settled_nil] at hrd
              have HRD : Hid (Calls Try.prog 21 #[.pointer (some ⟨d, 0, none⟩), .int .i64 (t3 : Int)] wr fun e w' => e = .returned (.tuple #[.slice (some ⟨wr.heap.size, 0, none⟩) 256 256, .int .i64 0]) ∧ w' = wr.alloc (.cells (U (DR.sure t3)).toArray 72)) := hrd
              clear hlt3 ht3 hS3 hDk3 hrd
              go_wp2_with fail
              refine HRD.out.mono ?_
              rintro e w9 ⟨rfl, hw9⟩
              have HA9 : Hid (Below wr.heap.size wr w9) := by show Below _ _ _; rw [hw9]; exact (Below.refl _ wr).alloc (Nat.le_refl _) _
              have HK9 : Hid (Blk w9 wr.heap.size 72 (U (DR.sure t3))) := by
                show w9.heap[wr.heap.size]? = _
                rw [hw9]; exact heap_alloc_new wr _
              have HF9 : Hid (Solo w9 w.heap.size (fun k => Q k ∨ k = TB) d DR ∧ SVQ w9 Q (.slice (some ⟨rw0, 0, none⟩) 4 cw) (suresTo B 4) ∧ Blk w9 TB 46 (tb T) ∧ Below w.heap.size w w9) :=
                ⟨hr3.out.1.below HA9.out, hr3.out.2.1.below HA9.out, hr3.out.2.2.1.below HA9.out hr3.out.2.2.1.lt, hr3.out.2.2.2.trans (HA9.out.mono hr3.out.2.2.2.size)⟩
              have cT3 := HF9.out.2.2.1.drew.cell (tb_at T HT3.out)
              have HFD : Hid (Solo w9.drew w.heap.size (fun k => Q k ∨ k = TB) d DR ∧ SVQ w9.drew Q (.slice (some ⟨rw0, 0, none⟩) 4 cw) (suresTo B 4) ∧ Blk w9.drew TB 46 (tb T) ∧ Below w.heap.size w w9.drew) := by
                have hd : Below w9.heap.size w9 w9.drew := ⟨rfl, rfl, rfl, Nat.le_refl _, fun _ _ => rfl⟩
                exact ⟨HF9.out.1.below hd, HF9.out.2.1.below hd, HF9.out.2.2.1.drew, HF9.out.2.2.2.trans (hd.mono HF9.out.2.2.2.size)⟩
              clear hw9
              go_wp2_with fail
              cases hTt : T t3 with
              | true =>
                rw [hTt] at cT3
                refine s29_touched HT3.out cT3 ?_
                clear cT3 hTt
                go_wp2_with fail
                exact ⟨⟨t3 + 1, by simp, HT3.out, HFD.out⟩, by have := HT3.out; simp only [intOf]; omega⟩
              | false =>
                rw [hTt] at cT3
                have hsr := (HDR.out.2.2.2.2 t3 HT3.out).2 hTt
                obtain ⟨g3, hg3⟩ := HF9.out.2.1.at4 HT3.out
                have hd : Below w9.heap.size w9 w9.drew := ⟨rfl, rfl, rfl, Nat.le_refl _, fun _ _ => rfl⟩
                obtain ⟨s1, hs1⟩ : ∃ s1, s1 = strOf (B.sure t3) := ⟨_, rfl⟩
                have k1 := hg3 w9.drew hd
                have k2 := conv_blk HK9.out.drew (by rw [hsr]; exact HF9.out.2.1.len4 HT3.out)
                rw [hsr] at k2
                rw [← hs1] at k1 k2
                refine s29_same HT3.out ⟨cT3, k1.1, k2, k1.2⟩ ?_
                clear cT3 hTt hsr hg3 hd hs1 k1 k2
                go_wp2_with fail
                exact ⟨⟨t3 + 1, by simp, HT3.out, HFD.out⟩, by have := HT3.out; simp only [intOf]; omega⟩

        · have q1' : (t' : Int) < (NP : Int) := by omega
          have HLT' : Hid (t' < NP) := by show _ < _; omega
          have hw' : IntKind.i64.wrap ((t' : Int) + 1) = (t' : Int) + 1 := wrapi (by omega) (by have := HNP.out; omega)
          clear hlt' ht'
          by_cases hk2 : len2 ≤ t'
          · have n1 : ¬ (t' : Int) < (len2 : Int) := by omega
            clear hk2
            go_wp2_with fail
            exact ⟨⟨t' + 1, li, by simp, HLT'.out, hr'.out.1, by have := hr'.out.2.1; omega, hr'.out.2.2⟩, by have := HLT'.out; simp only [intOf]; omega⟩
          · have n1 : (t' : Int) < (len2 : Int) := by omega
            obtain ⟨b2, off2, hab2, hb2s, hcell2⟩ := HIN2.out.2.2.2 (by omega)
            subst hab2
            obtain ⟨y, hy⟩ : ∃ y, kp[t']? = some y := ⟨_, List.getElem?_eq_getElem (by rw [HIN2.out.1]; omega)⟩
            have hcy : wr.cell? ⟨b2, off2 + t', none⟩ = some (.bool y) := ((HT7.out.2.2.1.trans (hr'.out.2.2.2.mono HT7.out.2.2.1.size)).cell (p := ⟨b2, off2 + t', none⟩) hb2s).trans (hcell2 t' y hy)
            clear hk2 hcell2 hb2s hy
            cases y with
            | false =>
              go_wp2_with fail
              exact ⟨⟨t' + 1, li, by simp, HLT'.out, hr'.out.1, by have := hr'.out.2.1; omega, hr'.out.2.2⟩, by have := HLT'.out; simp only [intOf]; omega⟩
            | true =>
              have HO2 : Hid ((wr.alloc (.cells #[.int .i64 (t' : Int)] 3)).ownsRow w7.heap.size 3 1 u12 li.length (li.map (Value.int .i64))) := own_below hr'.out.2.2.1 ((Below.refl _ wr).alloc (Nat.le_refl _) _)
              have HNW : Hid (∀ j u, [Value.int .i64 (t' : Int)][j]? = some u → (wr.alloc (.cells #[.int .i64 (t' : Int)] 3)).cell? ((⟨wr.heap.size, 0, none⟩ : Addr).add j) = some u) := fun j u hj => by
                rw [Addr.add_lit, Nat.zero_add]
                exact (Blk.new wr #[.int .i64 (t' : Int)] 3).cell hj
              go_wp2_with (with_reducible change wpList _ _ _ ({ dst := some 79, op := Op.call _, type := _, pos := _, after := _, guard := _ } :: _) _ _
                           clear q1' n1
                           refine wpList_append_own_at _ rfl (.tmp 76) (.tmp 78) 31 rfl w7.heap.size 3 i0 (.int .i64 0) 1 8 Try.underlying31 hi hz0 hz1 hz2 rfl (by omega) _ li.length (li.map (Value.int .i64)) rfl HO2.out ⟨wr.heap.size, 0, none⟩ 1 1 [.int .i64 (t' : Int)] rfl rfl HNW.out (one_int _) (by have := HNP.out; have := HLT'.out; have := hr'.out.2.1; unfold maxLen; omega) (by have := HNP.out; have := HLT'.out; have := hr'.out.2.1; omega) (by have := hr'.out.2.2.2.size; simp; omega) ?_
                           intro v5 w5 ho5 hg5 _ _
                           have HO5 : Hid (w5.ownsRow w7.heap.size 3 1 v5 (li ++ [(t' : Int)]).length ((li ++ [(t' : Int)]).map (Value.int .i64))) := (by show w5.ownsRow _ _ _ _ _ _; rw [List.length_append, List.map_append]; exact ho5)
                           have HB5 : Hid (Below w7.heap.size w7 w5) := (hr'.out.2.2.2.alloc hr'.out.2.2.2.size _).grown hg5 (hr'.out.2.2.2.alloc hr'.out.2.2.2.size _).size (fun j hj => (World.ownsRow.lt HO2.out j hj).1)
                           clear ho5 hg5)
              exact ⟨⟨t' + 1, li ++ [(t' : Int)], by simp, HLT'.out, by intro p hp; rcases List.mem_append.1 hp with h | h; exact hr'.out.1 p h; have := HLT'.out; simp at h; omega, by have := hr'.out.2.1; simp; omega, HO5.out, HB5.out⟩, by have := HLT'.out; simp only [intOf]; omega⟩

    · have q1 : (t : Int) < (len1 : Int) := by omega
      obtain ⟨b, off, hab, hbl, hacts⟩ := HIN1.out.2.2.2 (by omega)
      subst hab
      obtain ⟨Dt, T, k, hk20, hkt, hti⟩ := hr.out
      obtain ⟨x, hx⟩ : ∃ x, more[t]? = some x := ⟨_, List.getElem?_eq_getElem (by rw [HIN1.out.1]; omega)⟩
      have hA := (hacts t x hx).below hti.2.2.1 hbl
      obtain ⟨A, L, C, KA, KL, KC, hrng, hbytes, _, _, hwf⟩ := act_range hA
      obtain ⟨M, hM⟩ : ∃ M, M = ac x A L C KA KL KC := ⟨_, rfl⟩
      rw [← hM] at hrng
      have HTI : Hid (TInv w Q TB d B (.slice (some ⟨rw0, 0, none⟩) 4 cw) Dt T k wr ∧ k ≤ 20 ∧ (t ≤ 20 → k = t)) := ⟨hti, hk20, hkt⟩
      have HRG : Hid (wr.rangeAt b (off + t * 5) M) := hrng
      have HM : Hid (M = ac x A L C KA KL KC) := hM
      have HML : Hid (M.length = 5 ∧ ∀ v ∈ M, v.oneCell' = true) := by rw [hM]; exact ⟨rfl, ac_one x A L C KA KL KC⟩
      have HMS : Hid ((Try.prog.info? 33).map (·.size) = some M.length) := by show _ = _; rw [HML.out.1]; exact size33
      have HBY : Hid (In wr A L C x.bytes) := hbytes
      have HLT : Hid (t < len1 ∧ len1 ≤ 9223372036854775807) := ⟨by omega, by have := HIN1.out.2.1; have := HIN1.out.2.2.1; unfold maxLen at this; omega⟩
      have hw : IntKind.i64.wrap ((t : Int) + 1) = (t : Int) + 1 := wrapi (by omega) (by have := HLT.out; omega)
      have hzero : ∀ W, (zeroValue 33).run Try.prog W = .ok (.agg #[.int .i64 0, .int .i64 0, .slice none 0 0, .bool false, .slice none 0 0]) W := fun W => by kernel_rfl
      have hsec := sec_is x.n
      obtain ⟨q, hq⟩ : ∃ q, q = sec x.n := ⟨_, rfl⟩
      rw [← hq] at hsec
      have hql : q < 4 := by rw [hq]; exact sec_lt _
      have hwq : IntKind.i64.wrap (q : Int) = (q : Int) := wrapi (by omega) (by omega)
      have HQ : Hid (q < 4) := hql
      clear hlt ht hx hacts hbytes hrng hM hA hwf hq hr hti hk20 hkt
      by_cases h20 : t < 20
      · have q20 : (t : Int) < 20 := by omega
        have HT20 : Hid (t < 20) := h20
        clear h20
        go_wp2_with (first
          | (with_reducible change wpList _ _ _ ({ dst := some 37, op := Op.load 33 _, type := _, pos := _, after := _, guard := _ } :: _) _ _; refine wpList_load_mid rfl 33 (.tmp 36) rfl b (off + t * 5) rfl M _ HRG.out Try.underlying33 rfl HMS.out ?_)
          | (with_reducible change wpList _ _ _ ({ dst := none, op := Op.store 33 _ _, type := _, pos := _, after := _, guard := _ } :: _) _ _
             refine wpList_store_blk rfl 33 (.tmp 11) (.tmp 37) rfl wr.heap.size 0 33 _ M rfl rfl (Blk.new wr _ 33) (by rw [HML.out.1]; simp) HMS.out HML.out.2 ?_
             intro w2 hb2 hg2
             have HK2 : Hid (Keep (fun _ => False) wr w2) := keep_new hg2.out
             have HB2 : Hid (Blk w2 wr.heap.size 33 M) := copied33 HML.out.1 rfl hb2.out
             clear hb2 hg2 q1))
        have HBD : Hid (Below wr.heap.size wr w2.drew) := HK2.out.none_below.trans (⟨rfl, rfl, rfl, Nat.le_refl _, fun _ _ => rfl⟩ : Below wr.heap.size w2 w2.drew)
        have HZ2 : Hid (wr.heap.size < w2.heap.size) := HB2.out.lt
        have HAC : Hid (∀ W, (∃ S, Keep S w2.drew W ∧ ¬ S wr.heap.size) → W.cell? ⟨wr.heap.size, 1, none⟩ = some (.int .i64 x.n) ∧ W.cell? ⟨wr.heap.size, 2, none⟩ = some (.slice A L C)) := fun W ⟨S, h1, h2⟩ => by
          have hb := h1.blk HB2.out.drew h2
          exact ⟨hb.cell (by rw [HM.out]; rfl), hb.cell (by rw [HM.out]; rfl)⟩
        have hwc : Calls Try.prog 19 #[.slice A L C] w2.drew fun e w' => ∃ sw cp4 w4, e = .returned (.string sw) ∧ Hid (sw = strOf (whole x.bytes) ∧ Below w2.drew.heap.size w2.drew w' ∧ Below w2.drew.heap.size w2.drew w4 ∧ In w4 (some ⟨w'.heap.size, 0, none⟩) 256 cp4 (whole x.bytes) ∧ (convert 9 30 (.string sw)).run Try.prog w' = .ok (.slice (some ⟨w'.heap.size, 0, none⟩) 256 cp4) w4) := (whole_is x.bytes A L C w2.drew (HBY.out.below HBD.out)).mono fun e w3 ⟨he, hb3⟩ => by
          obtain ⟨cp4, w4, hcv, hin4, hb4⟩ := conv_str (whole x.bytes) (whole_length _) w3
          exact ⟨_, cp4, w4, he, rfl, hb3, hb3.trans (hb4.mono hb3.size), hin4, hcv⟩
        obtain ⟨D', hD', hI'⟩ := HTI.out.1.1.write q HQ.out (whole x.bytes) (whole_length _)
        have HD' : Hid (Dt.write (q : Int) (whole x.bytes) = (0, D') ∧ SInv B (fun k => T k || k == q) (k + 1) D') := ⟨hD', hI'⟩
        clear hD' hI'
        simp only [Act.put]
        refine sr_yes (R3 := fun _ w3 w4 v4 => ∃ cp4, v4 = .slice (some ⟨w3.heap.size, 0, none⟩) 256 cp4 ∧ Below w2.drew.heap.size w2.drew w3 ∧ Below w2.drew.heap.size w2.drew w4 ∧ In w4 (some ⟨w3.heap.size, 0, none⟩) 256 cp4 (whole x.bytes))
          (R5 := fun w5 => ∃ w4, Below w2.drew.heap.size w2.drew w4 ∧ Solo w5 w.heap.size (fun k => (Q k ∨ k = TB) ∨ k = wr.heap.size) d D' ∧ Below w.heap.size w4 w5 ∧ ∃ S, Keep S w4 w5 ∧ ∀ k, ((Q k ∨ k = TB) ∨ k = wr.heap.size) → ¬ S k)
          q20 (HAC.out w2.drew ⟨fun _ => False, Keep.refl _ _, fun e => e⟩).1 (HAC.out w2.drew ⟨fun _ => False, Keep.refl _ _, fun e => e⟩).2 rfl hsec HQ.out ?h19 ?h34 ?h18 ?h5 ?hQ
        case h19 =>
          refine hwc.mono ?_
          rintro e w3 ⟨sw, cp4, w4, rfl, H3⟩
          exact ⟨sw, _, w4, rfl, H3.out.2.2.2.2, cp4, rfl, H3.out.2.1, H3.out.2.2.1, H3.out.2.2.2.1⟩
        case h34 =>
          rintro sw w3 w4 v4 ⟨cp4, rfl, hb3, hb4, hin4⟩
          exact ⟨HAC.out w3 ⟨fun _ => False, Keep.below hb3, fun e => e⟩, HAC.out w4 ⟨fun _ => False, Keep.below hb4, fun e => e⟩⟩
        case h18 =>
          rintro sw w3 w4 v4 ⟨cp4, rfl, hb3, hb4, hin4⟩
          refine (((HTI.out.1.add (HK2.out.none_below) HZ2.out).below (show Below w2.heap.size w2 w4 from ⟨hb4.os, hb4.tape, hb4.output, hb4.size, hb4.block⟩)).call (Nat.le_trans (Nat.le_trans HTI.out.1.2.2.1.size HBD.out.size) hb4.size) (fun S hS => write_dk hS (by have := HTI.out.1.1.ops; have := HTI.out.2.1; omega) (q : Int) _ 256 cp4 (whole x.bytes) hin4)).mono ?_
          rintro e w5 ⟨rfl, hs5, hb5, hk5⟩
          rw [HD'.out.1] at hs5 ⊢
          exact ⟨rfl, w4, hb4, hs5, hb5, hk5⟩
        case h5 =>
          rintro w5 ⟨w4, hb4, hs5, hb5, S, k1, k2⟩
          exact HAC.out w5 ⟨S, (Keep.below hb4).trans k1 (fun j hj _ => hj), k2 _ (.inr rfl)⟩
        case hQ =>
          rintro sw v4 w5 ⟨w4, hb4, hs5, hb5, hk5⟩
          have H5 : Hid (∃ S, Keep S w2.drew w5 ∧ ¬ S wr.heap.size) := (by
            obtain ⟨S, k1, k2⟩ := hk5
            exact ⟨S, (Keep.below hb4).trans k1 (fun j hj _ => hj), k2 _ (.inr rfl)⟩)
          have HS5 : Hid (Below w2.drew.heap.size w2.drew w4 ∧ Solo w5 w.heap.size (fun k => (Q k ∨ k = TB) ∨ k = wr.heap.size) d D' ∧ Below w.heap.size w4 w5 ∧ ∃ S, Keep S w4 w5 ∧ ∀ k, ((Q k ∨ k = TB) ∨ k = wr.heap.size) → ¬ S k) := ⟨hb4, hs5, hb5, hk5⟩
          have c5 := (HAC.out w5 H5.out).1
          have HBR : Hid (Below wr.heap.size wr w4) := HBD.out.trans (hb4.mono HBD.out.size)
          have HE5 : Hid (Blk w5 TB 46 (tb T)) := by
            obtain ⟨S, k1, k2⟩ := hk5
            have h7 := HTI.out.1.2.2.2.2.2.2
            exact k1.blk (h7.below HBR.out h7.lt) (k2 TB (.inl (.inr rfl)))
          have cT := HE5.out.cell (tb_at T HQ.out)
          have fT : w5.frozen? ⟨TB, q, none⟩ = false := blk_frozen HE5.out q
          clear hs5 hb5 hk5 hb4 hwc
          go_wp2_with fail
          have hk6 : Keep (fun k => k = TB) w5 (w5.setCell ⟨TB, q, none⟩ (.bool true)) := keep_setCell w5 TB q (.bool true)
          have hfin := HTI.out.1.write HBR.out HS5.out.2.1 HS5.out.2.2.1 HS5.out.2.2.2 HQ.out HD'.out.2 rfl hk6
          have hkt := HTI.out.2.2 (by have := HT20.out; omega)
          exact ⟨⟨t + 1, by simp, HLT.out.1, D', _, k + 1, by have := HT20.out; omega, fun _ => by omega, hfin⟩, by have := HLT.out; simp only [intOf]; omega⟩
      · have q20 : (20 : Int) ≤ (t : Int) := by omega
        have q20' : decide ((t : Int) < 20) = false := by simp; omega
        have HT20 : Hid (20 ≤ t) := by show _ ≤ _; omega
        clear h20
        go_wp2_with (first
          | (with_reducible change wpList _ _ _ ({ dst := some 37, op := Op.load 33 _, type := _, pos := _, after := _, guard := _ } :: _) _ _; refine wpList_load_mid rfl 33 (.tmp 36) rfl b (off + t * 5) rfl M _ HRG.out Try.underlying33 rfl HMS.out ?_)
          | (with_reducible change wpList _ _ _ ({ dst := none, op := Op.store 33 _ _, type := _, pos := _, after := _, guard := _ } :: _) _ _
             refine wpList_store_blk rfl 33 (.tmp 11) (.tmp 37) rfl wr.heap.size 0 33 _ M rfl rfl (Blk.new wr _ 33) (by rw [HML.out.1]; simp) HMS.out HML.out.2 ?_
             intro w2 hb2 hg2
             have HK2 : Hid (Keep (fun _ => False) wr w2) := keep_new hg2.out
             clear hb2 hg2 q1))
        have q20n : ¬ (t : Int) < 20 := by omega
        simp only [Act.put]
        refine sr_no q20n ?_
        go_wp2_with fail
        refine ⟨⟨t + 1, by simp, HLT.out.1, Dt, T, k, HTI.out.2.1, fun h => by have := HT20.out; omega, HTI.out.1.below ?_⟩, by have := HLT.out; simp only [intOf]; omega⟩
        exact HK2.out.none_below.trans (⟨rfl, rfl, rfl, Nat.le_refl _, fun _ _ => rfl⟩ : Below wr.heap.size w2 w2.drew)
end Go.Proofs.Ytebgemidemiapaa.Oct
