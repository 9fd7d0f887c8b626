/-
  Layer 11 (lines): who edits alone: the law.
-/
import Derived.Test.YtjcihaohpbmogaaQpBS
/- Layer 11 (lines): who edits alone: the law. -/
namespace Go.Proofs.Ytjcihaohpbmogaa.Oct
open Go.RowKit
set_option maxRecDepth 100000
set_option linter.unusedSimpArgs false
set_option linter.unusedVariables false
set_option linter.unusedSectionVars false

theorem zval54 : ∃ Z : List Value, (∀ W, (zeroValue 54).run Try.prog W = .ok (.agg Z.toArray) W) ∧ Hid (Z.length = 3) := ⟨[iv 0, .bool false, .slice none 0 0], fun W => by kernel_rfl, by rfl⟩
theorem zval32 : ∃ Z : List Value, (∀ W, (zeroValue 32).run Try.prog W = .ok (.agg Z.toArray) W) ∧ Hid (Z.length = 32) := ⟨List.replicate 32 (.int .u8 0), fun W => by kernel_rfl, by rfl⟩
theorem info54 {L : List Value} (h : L.length = 3) : (Try.prog.info? 54).map (·.size) = some L.length := by rw [h]; show _ = some 3; kernel_rfl
theorem built32y (x : Int) : Try.prog.built 32 [(0, .int .u8 x)] = some (Value.int .u8 x :: List.replicate 31 (Value.int .u8 0)).toArray := by kernel_rfl
theorem U_hb {i : Nat} (h : i < 100) : U (hb i) = .int .u8 ((i : Int) + 1) :: List.replicate 31 (.int .u8 0) := by
  unfold hb U
  rw [List.map_cons, List.map_replicate]
  have : (UInt8.ofNat (i + 1)).toNat = i + 1 := by
    rw [UInt8.toNat_ofNat']
    omega
  rw [this]
  rfl
theorem built34x (x : Int) (n : Int) : Try.prog.built 34 [(0, .agg (Value.int .u8 x :: List.replicate 31 (Value.int .u8 0)).toArray), (1, iv n)] = some ((Value.int .u8 x :: List.replicate 31 (Value.int .u8 0)) ++ [iv n]).toArray := by kernel_rfl
theorem built34h {i : Nat} (h : i < 100) (n : Int) : Try.prog.built 34 [(0, .agg (U (hb i)).toArray), (1, iv n)] = some (Vx.cells ⟨hb i, n⟩).toArray := by
  unfold Vx.cells
  rw [U_hb h]
  exact built34x _ n
theorem hb_k {i : Nat} (n : Nat) (h : n < 100) : Vk ⟨hb i, (n : Int)⟩ := by
  refine ⟨hb_len i, ?_⟩
  simp [Lit.wf, IntKind.min, IntKind.max, IntKind.signed, IntKind.bits]
  omega
theorem bs9x (s : BA) (W : World) : (Instr.buildSlice 36 1 #[(0, .string s)]).run Try.prog W = .ok (.slice (some ⟨W.heap.size, 0, none⟩) 1 1) (W.alloc (.cells [Value.string s].toArray 9)) := bs9 s W
/-- where the edits stand -/
def LP (w : World) (p i : Nat) (tv iw : Value) (G : Gm) (ids : List Vx) (ts : List BA) (wr : World) : Prop :=
  GAt wr p G ∧ (∀ k ∈ G.bl p, w.heap.size ≤ k) ∧ Below w.heap.size w wr ∧ Pl i G.ps ids ts ∧ OT9 w.heap.size wr tv ids.length ts ∧ OV w.heap.size wr iw ids.length ids ∧ (∀ g, tv.ownBlock = some g → ¬ g ∈ G.bl p) ∧ (∀ g, iw.ownBlock = some g → ¬ g ∈ G.bl p)
theorem LP.below {w wr wr' : World} {p i : Nat} {tv iw : Value} {G : Gm} {ids : List Vx} {ts : List BA} (h : LP w p i tv iw G ids ts wr) (hb : Below wr.heap.size wr wr') : LP w p i tv iw G ids ts wr' := ⟨h.1.below hb, h.2.1, below_tr h.2.2.1 hb, h.2.2.2.1, h.2.2.2.2.1.below hb, h.2.2.2.2.2.1.below hb, h.2.2.2.2.2.2⟩
theorem LP.ids {w wr : World} {p i n ic : Nat} {tv : Value} {ia : Option Addr} {G : Gm} {ids : List Vx} {ts : List BA} (h : LP w p i tv (.slice ia n ic) G ids ts wr) : VsR wr ia n ids ∧ n ≤ ic ∧ ids.length = n := by
  obtain ⟨a, c, e, h1, h2, _⟩ := h.2.2.2.2.2.1.read
  injection e with e1 e2 e3
  subst e1 e2 e3
  exact ⟨h1, h2, rfl⟩
theorem LP.txt {w wr : World} {p i n tc : Nat} {iw : Value} {ta : Option Addr} {G : Gm} {ids : List Vx} {ts : List BA} (h : LP w p i (.slice ta n tc) iw G ids ts wr) : TsR wr ta n ts ∧ CR wr 9 ta n (strs ts) ∧ n ≤ tc := by
  obtain ⟨a, c, e, h1, h2, h3⟩ := h.2.2.2.2.1.read
  injection e with e1 e2 e3
  subst e1 e2 e3
  exact ⟨h1, h2, h3⟩
theorem OT9.of {B n m c : Nat} {w : World} {a : Option Addr} {ts : List BA} (h : OT9 B w (.slice a n c) m ts) : n = m ∧ TsR w a n ts ∧ n ≤ c := by
  obtain ⟨a, c, e, h1, h2, h3⟩ := h.read
  injection e with e1 e2 e3
  subst e1 e2 e3
  exact ⟨rfl, h1, h3⟩
theorem OV.of {B n m c : Nat} {w : World} {a : Option Addr} {vs : List Vx} (h : OV B w (.slice a n c) m vs) : n = m ∧ VsR w a n vs ∧ n ≤ c := by
  obtain ⟨a, c, e, h1, h2, _⟩ := h.read
  injection e with e1 e2 e3
  subst e1 e2 e3
  exact ⟨rfl, h1, h2⟩
theorem LP.idle {w wr : World} {p i : Nat} {tv iw : Value} {G : Gm} {ids : List Vx} {ts : List BA} (h : LP w p i tv iw G ids ts wr) : LP w p (i + 1) tv iw G ids ts wr := ⟨h.1, h.2.1, h.2.2.1, h.2.2.2.1.idle, h.2.2.2.2⟩
theorem text_pl {w : World} {p i : Nat} {G : Gm} {ids : List Vx} {ts : List BA} (h : GAt w p G) (hP : Pl i G.ps ids ts) : Calls Try.prog 24 #[.pointer (some ⟨p, 0, none⟩)] w fun e w' => ∃ a n c, e = .returned (.slice a n c) ∧ Hid (CR w' 9 a n (strs ts)) ∧ Hid (Below w.heap.size w w') := by
  obtain ⟨F, hF⟩ := hP.iv.acy
  refine (text_is h F (acy_ps hF)).mono ?_
  rintro e w' ⟨a, n, c, vs, rfl, h1, h2⟩
  have h3 := h1.out.2
  rw [shown_ps, hP.text ((rise_ps G vs).1 h1.out.1)] at h3
  exact ⟨a, n, c, rfl, h3, h2⟩
theorem conf_pl {w : World} {p i : Nat} {G : Gm} {ids : List Vx} {ts : List BA} (h : GAt w p G) (hP : Pl i G.ps ids ts) : Calls Try.prog 25 #[.pointer (some ⟨p, 0, none⟩)] w fun e w' => e = .returned (iv 0) ∧ Below w.heap.size w w' := by
  obtain ⟨F, hF⟩ := hP.iv.acy
  refine (conflicts_is h F (acy_ps hF)).mono ?_
  rintro e w' ⟨vs, rfl, h1, h2⟩
  refine ⟨?_, h2.out⟩
  have hr := (rise_ps G vs).1 h1.out
  rw [conf_ps, hP.conf hr (by rw [rise_len hr]; exact add_few h)]
theorem Pl.tlen {i : Nat} {ps : List PL} {ids : List Vx} {ts : List BA} (h : Pl i ps ids ts) : ts.length = ids.length := by rw [h.txt, List.length_map]
theorem Pl.ilen {i : Nat} {ps : List PL} {ids : List Vx} {ts : List BA} (h : Pl i ps ids ts) : ids.length ≤ 6 * i := by
  have h1 := Gr.nodup_len ids (keysP ps) h.nd h.mem
  have h2 := h.few
  unfold keysP at h1
  rw [List.length_map] at h1
  omega
set_option maxHeartbeats 16000000 in
theorem plain_law (w : World) (a0 : Option Addr) (n0 c0 : Nat) (eds : List EV) (hr : EdsR w a0 n0 eds) (hn0 : n0 ≤ 140737488355328) : Calls Try.prog 5 #[.slice a0 n0 c0] w fun e w' => e = .returned (.bool true) ∧ Below w.heap.size w w' := by
  have HA : Hid (EdsR w a0 n0 eds ∧ n0 ≤ 140737488355328) := ⟨hr, hn0⟩
  have q0 : (n0 : Int) ≤ 140737488355328 := by omega
  obtain ⟨Z54, hZ54, HZ54⟩ := zval54
  obtain ⟨Z32, hZ32, HZ32⟩ := zval32
  obtain ⟨Z34, hZ34, HZ34⟩ := zval34
  obtain ⟨CT, hCT⟩ : ∃ C, vTop.cells = C := ⟨_, rfl⟩
  obtain ⟨CB, hCB⟩ : ∃ C, vBot.cells = C := ⟨_, rfl⟩
  have HT : Hid (vTop.cells = CT ∧ CT.length = 33 ∧ (∀ v ∈ CT, v.oneCell' = true) ∧ (Try.prog.info? 34).map (·.size) = some CT.length) := ⟨hCT, by rw [← hCT]; exact Vx.len vTop_ok, by rw [← hCT]; exact Vx.one _, by rw [← hCT]; exact info34 vTop_ok⟩
  have HB : Hid (vBot.cells = CB ∧ CB.length = 33 ∧ (∀ v ∈ CB, v.oneCell' = true) ∧ (Try.prog.info? 34).map (·.size) = some CB.length) := ⟨hCB, by rw [← hCB]; exact Vx.len vBot_ok, by rw [← hCB]; exact Vx.one _, by rw [← hCB]; exact info34 vBot_ok⟩
  have hb1 := built34
  have hb2 := built34b
  rw [hCT] at hb1
  rw [hCB] at hb2
  have HBT := hid_of hb1
  have HBB := hid_of hb2
  clear hr hn0 hCT hCB hb1 hb2
  go_enter Try.func5, Try.ntmps5
  go_wp2_with fail
  refine (new_is w).mono ?_
  rintro e W1 ⟨p, G0, rfl, HG, HB1⟩
  have H1 : Hid (LP w p 0 (.slice none 0 0) (.slice none 0 0) G0 [] [] W1) := ⟨HG.out.1, HG.out.2.2, HB1.out, by rw [HG.out.2.1]; exact Pl.start, OT9.nil _ _, OV.nil _ _, fun g h => (by cases h), fun g h => (by cases h)⟩
  clear HG HB1
  go_wp2
  go_loopw [18, 4, 5] (fun u x y wr => ∃ (i : Nat) (G : Gm) (ids : List Vx) (ts : List BA), u = iv (i : Int) ∧ Hid (i ≤ n0 ∧ i ≤ 25 ∧ LP w p i x y G ids ts wr)) (fun u _ _ _ => n0 - (intOf u).toNat)
  case atStart => exact ⟨0, G0, [], [], rfl, Nat.zero_le _, Nat.zero_le _, H1.out⟩
  case round =>
    obtain ⟨V, hV⟩ : ∃ V, V = wr := ⟨_, rfl⟩
    subst hV
    obtain ⟨i, G, ids, ts, rfl, HI⟩ := hrel
    clear H1
    obtain ⟨ta, tc, rfl, _, _, htc⟩ := HI.out.2.2.2.2.2.2.1.read
    obtain ⟨ia, ic, rfl, _, hic, _⟩ := HI.out.2.2.2.2.2.2.2.1.read
    have HCP : Hid (ids.length ≤ tc ∧ ids.length ≤ ic) := ⟨htc, hic⟩
    have HI25 : Hid (i ≤ 25) := HI.out.2.1
    obtain ⟨n, hn⟩ : ∃ n, ids.length = n := ⟨_, rfl⟩
    have HLN := hid_of hn
    have HN150 : Hid (n ≤ 150) := by
      have h2 := HI.out.2.2.2.2.2.1.ilen
      have h3 := HI25.out
      show n ≤ 150
      omega
    have q9 : (n : Int) ≤ 150 := by have := HN150.out; omega
    rw [hn]
    clear htc hic hn
    by_cases hi : i < n0
    · obtain ⟨x, hx⟩ : ∃ x, eds[i]? = some x := ⟨_, List.getElem?_eq_getElem (by rw [HA.out.1.1]; exact hi)⟩
      have hxr := HA.out.1.2.1 x (List.mem_of_getElem? hx)
      obtain ⟨gb, off, rfl, hg, hel⟩ := HA.out.1.2.2 (by omega)
      have HR : Hid (V.rangeAt gb (off + i * 3) x.cells) := rangeAt_same (hel i x hx) (HI.out.2.2.2.2.1.block gb hg)
      have HX : Hid (i < n0 ∧ ER w x) := ⟨hi, hxr⟩
      have q1 : (i : Int) < (n0 : Int) := by omega
      have q2 : (i : Int) ≤ 25 := by have := HI25.out; omega
      clear hi hx hxr hg hel
      go_wp2_with (first
        | (with_reducible change wpList _ _ _ ({ dst := some 22, op := _, type := _, pos := _, after := _, guard := _ } :: _) _ _
           refine wpList_load_want rfl 54 (.tmp 21) rfl gb (off + i * 3) rfl x.cells _ HR.out Try.underlying54 rfl (info54 rfl) ?_)
        | (with_reducible change wpList _ _ _ ({ dst := none, op := Op.store 54 _ _, type := _, pos := _, after := _, guard := _ } :: _) _ _
           refine Hid.out ?_)
        | fail)
      show wpList _ _ _ _ _ _
      refine wpList_store_fresh rfl 54 (.tmp 7) (.tmp 22) rfl Z54 x.cells 54 rfl rfl (by rw [HZ54.out]; rfl) (info54 rfl) (by intro v hv; unfold EV.cells at hv; simp only [List.mem_cons, List.not_mem_nil, or_false] at hv; rcases hv with rfl | rfl | rfl <;> rfl) ?_
      obtain ⟨U1, hU1⟩ : ∃ W, V.alloc (.cells x.cells.toArray 54) = W := ⟨_, rfl⟩
      obtain ⟨d7, hd7⟩ : ∃ g, V.heap.size = g := ⟨_, rfl⟩
      have S1 : Hid (LP w p i (.slice ta n tc) (.slice ia n ic) G ids ts U1 ∧ Blk U1 d7 54 x.cells ∧ V.heap.size = d7) := by
        have hbl : Below V.heap.size V U1 := by rw [← hU1]; exact below_al _ _
        exact ⟨by have h := HI.out.2.2.below hbl; rw [HLN.out] at h; exact h, by rw [← hU1, ← hd7]; exact Blk.new V _ _, hd7⟩
      have HD7 : Hid (¬ d7 ∈ G.bl p) := fun hm => by have := HI.out.2.2.1.lt d7 hm; omega
      rw [hU1, hd7]
      clear hU1 hd7 HR HI
      have c0 : U1.cell? ⟨d7, 0, none⟩ = some (iv x.at_) := S1.out.2.1.cell rfl
      have c1 : U1.cell? ⟨d7, 1, none⟩ = some (.bool x.kill) := S1.out.2.1.cell rfl
      by_cases h25 : 25 ≤ i
      · have q3 : (25 : Int) ≤ (i : Int) := by omega
        clear h25
        go_wp2_with fail
        refine (text_pl S1.out.1.1 S1.out.1.2.2.2.1).mono ?_
        rintro e Z1 ⟨xa, xn, xc, rfl, HX, HB⟩
        have HZ1 := hid_of (LP.below S1.out.1 HB.out)
        have HX1 := HX
        clear HX HB
        go_wp2_with fail
        have HXR := hid_of HZ1.out.txt.2.1
        refine (texts_is Z1 xa ta xn n xc tc ts ts HX1.out HXR.out (by have h1 := HX1.out.1; unfold strs at h1; rw [List.length_map, HZ1.out.2.2.2.1.tlen] at h1; have h2 := HZ1.out.2.2.2.1.ilen; have h3 := HI25.out; omega) (by have h2 := HZ1.out.2.2.2.1.ilen; have h3 := HI25.out; have h4 := HZ1.out.txt.1.1; have h5 := HZ1.out.2.2.2.1.tlen; omega) true (by simp)).mono ?_
        rintro e Z2 ⟨rfl, hb⟩
        have HZ2 : Hid (Below w.heap.size w Z2) := below_tr HZ1.out.2.2.1 hb
        clear hb HZ1 HX1 HXR
        go_wp2_with fail
        refine (lives_is Z2).mono ?_
        rintro e Z3 ⟨rfl, hb⟩
        have HZ3 : Hid (Below w.heap.size w Z3) := below_tr HZ2.out hb
        clear hb
        go_wp2
        go_ret
        exact ⟨rfl, HZ3.out⟩
      have q3 : (i : Int) < 25 := by omega
      have q3n : ¬ (25 : Int) ≤ (i : Int) := by omega
      by_cases h60 : 60 < n
      · have q4 : (60 : Int) < (n : Int) := by omega
        clear h60
        go_wp2_with fail
        refine (text_pl S1.out.1.1 S1.out.1.2.2.2.1).mono ?_
        rintro e Z1 ⟨xa, xn, xc, rfl, HX, HB⟩
        have HZ1 := hid_of (LP.below S1.out.1 HB.out)
        have HX1 := HX
        clear HX HB
        go_wp2_with fail
        have HXR := hid_of HZ1.out.txt.2.1
        refine (texts_is Z1 xa ta xn n xc tc ts ts HX1.out HXR.out (by have h1 := HX1.out.1; unfold strs at h1; rw [List.length_map, HZ1.out.2.2.2.1.tlen] at h1; have h2 := HZ1.out.2.2.2.1.ilen; have h3 := HI25.out; omega) (by have h2 := HZ1.out.2.2.2.1.ilen; have h3 := HI25.out; have h4 := HZ1.out.txt.1.1; have h5 := HZ1.out.2.2.2.1.tlen; omega) true (by simp)).mono ?_
        rintro e Z2 ⟨rfl, hb⟩
        have HZ2 : Hid (Below w.heap.size w Z2) := below_tr HZ1.out.2.2.1 hb
        clear hb HZ1 HX1 HXR
        go_wp2_with fail
        refine (lives_is Z2).mono ?_
        rintro e Z3 ⟨rfl, hb⟩
        have HZ3 : Hid (Below w.heap.size w Z3) := below_tr HZ2.out hb
        clear hb
        go_wp2
        go_ret
        exact ⟨rfl, HZ3.out⟩
      have q4 : ¬ (60 : Int) < (n : Int) := by omega
      have HLT0 : Hid (i < n0 ∧ i < 25) := ⟨HX.out.1, by omega⟩
      clear h25 h60
      obtain ⟨k, hk, hkn⟩ : ∃ k : Nat, (IntKind.u64.wrap x.at_).tmod ((n : Int) + 1) = (k : Int) ∧ k ≤ n := by
        have h0 : 0 ≤ IntKind.u64.wrap x.at_ := by
          rw [IntKind.wrap_u64]
          exact Int.emod_nonneg _ (by decide)
        have h1 : 0 ≤ (IntKind.u64.wrap x.at_).tmod ((n : Int) + 1) := Int.tmod_nonneg _ h0
        have h2 : (IntKind.u64.wrap x.at_).tmod ((n : Int) + 1) < (n : Int) + 1 := Int.tmod_lt_of_pos _ (by omega)
        exact ⟨((IntKind.u64.wrap x.at_).tmod ((n : Int) + 1)).toNat, by omega, by omega⟩
      have HKN : Hid (k ≤ n) := hkn
      have hbi := built32y ((i : Int) + 1)
      go_wp2_with (first
        | (with_reducible change wpList _ _ _ ({ dst := some 42, op := _, type := _, pos := _, after := _, guard := _ } :: _) _ _
           refine Hid.out ?_)
        | fail)
      show wpList _ _ _ _ _ _
      obtain ⟨YC, hYC⟩ : ∃ C, U (hb i) = C := ⟨_, rfl⟩
      have HYC : Hid (U (hb i) = YC ∧ YC.length = 32 ∧ (∀ v ∈ YC, v.oneCell' = true) ∧ (Try.prog.info? 32).map (·.size) = some YC.length) := ⟨hYC, by rw [← hYC, U_length, hb_len], by rw [← hYC]; exact U_one _, by rw [← hYC]; exact info32 _ (hb_len i)⟩
      refine wpList_built rfl 32 _ rfl YC.toArray (by rw [← HYC.out.1, U_hb (by have := HLT0.out.2; omega), ← built32y ((i : Int) + 1)]; first | rfl | (simp; done) | (simp; rfl)) ?_
      clear hbi hYC hk
      go_wp2_with (first
        | (with_reducible change wpList _ _ _ ({ dst := none, op := Op.store 32 _ _, type := _, pos := _, after := _, guard := _ } :: _) _ _
           refine Hid.out ?_)
        | fail)
      show wpList _ _ _ _ _ _
      refine wpList_store_fresh rfl 32 (.tmp 9) (.tmp 42) rfl Z32 YC 32 rfl rfl (by rw [HYC.out.2.1, HZ32.out]) HYC.out.2.2.2 HYC.out.2.2.1 ?_
      obtain ⟨U2, hU2⟩ : ∃ W, U1.alloc (.cells YC.toArray 32) = W := ⟨_, rfl⟩
      obtain ⟨d9, hd9⟩ : ∃ g, U1.heap.size = g := ⟨_, rfl⟩
      have S2 : Hid (LP w p i (.slice ta n tc) (.slice ia n ic) G ids ts U2 ∧ Blk U2 d7 54 x.cells ∧ Blk U2 d9 32 YC ∧ ¬ d7 ∈ G.bl p ∧ ¬ d9 ∈ G.bl p) := by
        have hbl : Below U1.heap.size U1 U2 := by rw [← hU2]; exact below_al _ _
        refine ⟨S1.out.1.below hbl, S1.out.2.1.below hbl S1.out.2.1.lt, by rw [← hU2, ← hd9]; exact Blk.new U1 _ _, fun hm => HD7.out hm, fun hm => by have := S1.out.1.1.lt d9 hm; omega⟩
      rw [hU2, hd9]
      have c1 : U2.cell? ⟨d7, 1, none⟩ = some (.bool x.kill) := S2.out.2.1.cell rfl
      have c2 : U2.cell? ⟨d7, 2, none⟩ = some (.slice x.la x.ln x.lc) := S2.out.2.1.cell rfl
      clear hU2 hd9 S1 c0 HD7
      obtain ⟨kb, hkb⟩ : ∃ b, x.kill = b := ⟨_, rfl⟩
      rw [hkb] at c1
      clear hkb
      cases kb with
      | true =>
        by_cases hkq : k = n
        · obtain rfl : k = n := hkq
          have HNX := hid_of (LP.idle S2.out.1)
          have HLT : Hid (i < n0 ∧ i < 25) := HLT0.out
          clear S2
          go_wp2
          refine ⟨⟨i + 1, G, ids, ts, by simp, HLT.out.1, HLT.out.2, HNX.out⟩, ?_⟩
          have := HLT.out.1; simp [intOf]; omega
        have q5 : ((k : Int) == (n : Int)) = false := by simp; omega
        have q6 : (k : Int) < (n : Int) := by omega
        have HKL : Hid (k < n) := by show k < n; omega
        obtain ⟨v, hv⟩ : ∃ v, ids[k]? = some v := ⟨_, List.getElem?_eq_getElem (by rw [S2.out.1.ids.2.2]; omega)⟩
        have hvk := S2.out.1.ids.1.2.1 v (List.mem_of_getElem? hv)
        obtain ⟨g, o2, rfl, hg2, hel2⟩ := S2.out.1.ids.1.2.2 (by omega)
        obtain ⟨XC, hXC⟩ : ∃ C, v.cells = C := ⟨_, rfl⟩
        have HV : Hid (ids[k]? = some v ∧ Vk v ∧ v.cells = XC) := ⟨hv, hvk, hXC⟩
        have HKP := hid_of (S2.out.1.2.2.2.1.kill (by have := HLT0.out.2; omega) hv)
        obtain ⟨PS, hPS⟩ : ∃ PS, turnP ((· ++ [hb i])) G.ps v = PS := ⟨_, rfl⟩
        rw [hPS] at HKP
        have HPS := hid_of hPS
        have HKILL : Hid (∀ V', Below U2.heap.size U2 V' → Calls Try.prog 21 #[.pointer (some ⟨p, 0, none⟩), .agg XC.toArray, .agg YC.toArray] V' fun e w' => e = .returned (iv 0) ∧ ∃ G', GAfter V' p G G' w' ∧ G'.ps = PS) := fun V' hb' => kill_is (S2.out.1.1.below hb') v HV.out.2.1 (hb i) (show MK.ok (hb i) from hb_len i) XC HV.out.2.2 YC HYC.out.1 0 HKP.out.1 PS (by rw [if_pos rfl]; exact HPS.out)
        have HRG : Hid (U2.rangeAt g (o2 + k * 33) XC ∧ (Try.prog.info? 34).map (·.size) = some XC.length) := ⟨by rw [← hXC]; exact hel2 k v hv, by rw [← hXC]; exact info34 hvk.1⟩
        have HGL : Hid (g < U2.heap.size ∧ ¬ g ∈ G.bl p) := ⟨hg2, S2.out.1.2.2.2.2.2.2.2 g rfl⟩
        clear hv hvk hg2 hel2 hXC hPS hkq hkn
        go_wp2_with fail
        refine pl12 HGL ⟨S2.out.2.2.1.lt, S2.out.2.2.2.2⟩ HRG ⟨S2.out.2.2.1.range0, HYC.out.2.2.2⟩ q6 HKL.out HKILL ?_
        intro V3 G' hkp hx
        have S3 : Hid ((GAt V3 p G' ∧ (∀ k ∈ G'.bl p, w.heap.size ≤ k) ∧ Below w.heap.size w V3 ∧ Pl (i + 1) G'.ps (ids.take k ++ ids.drop (k + 1)) (ts.take k ++ ts.drop (k + 1))) ∧ TsR V3 ta n ts ∧ VsR V3 (some ⟨g, o2, none⟩) n ids ∧ n ≤ tc ∧ n ≤ ic) := by
          have hL := S2.out.1
          have ht := hL.2.2.2.2.1.same (w' := V3) (fun gg hgg => hkp.block gg (hL.2.2.2.2.1.blk hgg).2 (hL.2.2.2.2.2.2.1 gg hgg))
          have hi2 := hL.2.2.2.2.2.1.same (w' := V3) (fun gg hgg => hkp.block gg (hL.2.2.2.2.2.1.own hgg).2 (hL.2.2.2.2.2.2.2 gg hgg))
          have hAt : At7 w p 0 G.ps U2 G := ⟨hL.1, hL.2.1, rfl, hL.2.2.1⟩
          have hA3 := hAt.keep hkp hx.1 hx.2.2 hx.2.1
          obtain ⟨_, t1, t3⟩ := ht.of
          obtain ⟨_, v1, v3⟩ := hi2.of
          exact ⟨⟨hA3.1, hA3.2.1, hA3.2.2.2, by rw [hx.2.1]; exact HKP.out.2⟩, t1, v1, t3, v3⟩
        clear hkp hx HKILL HRG HGL HPS S2 c1 c2 HKP HV q5
        go_wp2_with fail
        have HQ0t : Hid (k ≤ n ∧ n ≤ tc) := ⟨HKN.out, S3.out.2.2.2.1⟩
        have HQ0i : Hid (k ≤ n ∧ n ≤ ic) := ⟨HKN.out, S3.out.2.2.2.2⟩
        have HN1 : Hid (n ≤ 1000) := by show n ≤ 1000; have := HN150.out; omega
        have HK1 : Hid (k + 1 = k + 1 ∧ k + 1 ≤ n) := ⟨rfl, HKL.out⟩
        have qk : IntKind.i64.wrap ((k : Int) + 1) = ((k + 1 : Nat) : Int) := by rw [IntKind.wrap_i64]; have := HKL.out; omega
        refine pl14 (k1 := k + 1) S3.out.2.1 HQ0t HN1 HK1 qk ?_
        intro V4 r1 v1 v2 hb4 ho4
        have S4 : Hid (Below V3.heap.size V3 V4 ∧ OT9 V3.heap.size V4 v2 (0 + k + (n - (k + 1))) ([] ++ ts.take k ++ ts.drop (k + 1))) := ⟨hb4, ho4⟩
        clear hb4 ho4
        go_wp2_with fail
        refine pl15 (k1 := k + 1) (S3.out.2.2.1.below S4.out.1) HQ0i HN1 ⟨rfl, HKL.out⟩ qk ?_
        intro V5 r2 v3 v4 hb5 ho5
        have S5 : Hid (LP w p (i + 1) v2 v4 G' (ids.take k ++ ids.drop (k + 1)) (ts.take k ++ ts.drop (k + 1)) V5) := by
          have hk2 := HKL.out
          have hlen : (ids.take k ++ ids.drop (k + 1)).length = k + (n - (k + 1)) := by
            rw [List.length_append, List.length_take, List.length_drop, S3.out.2.2.1.1]
            omega
          have h4 := S4.out.2
          rw [Nat.zero_add, List.nil_append] at h4 ho5
          have hb := below_tr S4.out.1 hb5
          have hs := S3.out.1.2.2.1.size
          have hs4 := S4.out.1.size
          refine ⟨S3.out.1.1.below hb, S3.out.1.2.1, below_tr S3.out.1.2.2.1 hb, S3.out.1.2.2.2, by rw [hlen]; exact (h4.below hb5).lo hs, by rw [hlen]; exact ho5.lo (Nat.le_trans hs hs4), fun gg hgg hm => ?_, fun gg hgg hm => ?_⟩
          · have h1 := (h4.blk hgg).1
            have h2 := S3.out.1.1.lt gg hm
            omega
          · have h1 := (ho5.own hgg).1
            have h2 := S3.out.1.1.lt gg hm
            omega
        clear hb5 ho5 S4 S3 HQ0t HQ0i HN1 HK1 qk
        obtain ⟨ids2, hids2⟩ : ∃ l, ids.take k ++ ids.drop (k + 1) = l := ⟨_, rfl⟩
        obtain ⟨ts2, hts2⟩ : ∃ l, ts.take k ++ ts.drop (k + 1) = l := ⟨_, rfl⟩
        rw [hids2, hts2] at S5
        clear hids2 hts2
        obtain ⟨n2, ta2, tc2, rfl⟩ : ∃ n a c, v2 = .slice a n c := by
          obtain ⟨a, c, e, _⟩ := S5.out.2.2.2.2.1.read
          exact ⟨_, a, c, e⟩
        clear HKN HKL q6
        go_wp2_with fail
        refine (text_pl S5.out.1 S5.out.2.2.2.1).mono ?_
        rintro e Z1 ⟨xa, xn, xc, rfl, HX, HB⟩
        have HZ1 := hid_of (LP.below S5.out HB.out)
        have HX1 := HX
        clear HX HB
        go_wp2_with fail
        have HXR := hid_of HZ1.out.txt.2.1
        refine (texts_is Z1 xa ta2 xn n2 xc tc2 ts2 ts2 HX1.out HXR.out (by have h1 := HX1.out.1; unfold strs at h1; rw [List.length_map, HZ1.out.2.2.2.1.tlen] at h1; have h2 := HZ1.out.2.2.2.1.ilen; have h3 := HI25.out; omega) (by have h2 := HZ1.out.2.2.2.1.ilen; have h3 := HI25.out; have h4 := HZ1.out.txt.1.1; have h5 := HZ1.out.2.2.2.1.tlen; omega) true (by simp)).mono ?_
        rintro e Z2 ⟨rfl, hb⟩
        have HZ2 := hid_of (LP.below HZ1.out hb)
        clear hb HZ1 HX1 HXR
        go_wp2_with fail
        refine (conf_pl HZ2.out.1 HZ2.out.2.2.2.1).mono ?_
        rintro e Z3 ⟨rfl, hb⟩
        have HZ3 := hid_of (LP.below HZ2.out hb)
        clear hb HZ2
        have HLT : Hid (i < n0 ∧ i < 25) := HLT0.out
        go_wp2
        refine ⟨⟨i + 1, G', ids2, ts2, by simp, HLT.out.1, HLT.out.2, HZ3.out⟩, ?_⟩
        have := HLT.out.1; simp [intOf]; omega
      | false =>
        go_wp2_with (first
          | (with_reducible change wpList _ _ _ ({ dst := some 77, op := _, type := _, pos := _, after := _, guard := _ } :: _) _ _
             refine wpList_built rfl 34 _ rfl CT.toArray (by rw [← HBT.out]; first | rfl | (simp; done) | (simp; rfl)) ?_)
          | (with_reducible change wpList _ _ _ ({ dst := some 78, op := _, type := _, pos := _, after := _, guard := _ } :: _) _ _
             refine wpList_built rfl 34 _ rfl CB.toArray (by rw [← HBB.out]; first | rfl | (simp; done) | (simp; rfl)) ?_)
          | (with_reducible change wpList _ _ _ ({ dst := none, op := Op.store 34 _ _, type := _, pos := _, after := _, guard := _ } :: _) _ _
             refine Hid.out ?_)
          | fail)
        show wpList _ _ _ _ _ _
        obtain ⟨d10, hd10⟩ : ∃ d, U2.heap.size = d := ⟨_, rfl⟩
        obtain ⟨X1, hX1⟩ : ∃ W, U2.alloc (.cells Z34.toArray 34) = W := ⟨_, rfl⟩
        have k10 : Blk X1 d10 34 Z34 := by rw [← hX1, ← hd10]; exact Blk.new U2 _ _
        have b10 : Below U2.heap.size U2 X1 := by rw [← hX1]; exact below_al _ _
        obtain ⟨d11, hd11⟩ : ∃ d, X1.heap.size = d := ⟨_, rfl⟩
        obtain ⟨X2, hX2⟩ : ∃ W, X1.alloc (.cells Z34.toArray 34) = W := ⟨_, rfl⟩
        have k11 : Blk X2 d11 34 Z34 := by rw [← hX2, ← hd11]; exact Blk.new X1 _ _
        have b11 : Below X1.heap.size X1 X2 := by rw [← hX2]; exact below_al _ _
        have hs11 : X1.heap.size = U2.heap.size + 1 := by rw [← hX1]; simp
        have e11 : d10 + 1 = d11 := by rw [← hd10, ← hs11]; exact hd11
        have HS10 : Hid (U2.heap.size = d10 ∧ d10 < d11) := ⟨hd10, by omega⟩
        have T2 : Hid (Below U2.heap.size U2 X2 ∧ Blk X2 d10 34 Z34 ∧ Blk X2 d11 34 Z34) := ⟨below_tr b10 b11, k10.below b11 k10.lt, k11⟩
        simp only [hX1, hX2, hd10, hd11, e11]
        clear k10 b10 k11 b11 hX1 hX2 hd10 hd11 hs11 e11 c1
        refine wpList_store_blk rfl 34 (.tmp 10) (.tmp 77) rfl d10 0 34 Z34 CT rfl rfl T2.out.2.1 (by rw [HT.out.2.1, HZ34.out]; exact Nat.le_refl _) HT.out.2.2.2 HT.out.2.2.1 ?_
        intro X3 r1 r2
        have T3 : Hid (Below U2.heap.size U2 X3 ∧ Blk X3 d10 34 CT ∧ Blk X3 d11 34 Z34) := by
          have hg := r2.out
          refine ⟨T2.out.1.grown hg T2.out.1.size (fun k hk => ?_), blk_all r1.out (by rw [HT.out.2.1, HZ34.out]), T2.out.2.2.kept hg (fun e => ?_)⟩
          · have e := Option.some.inj hk
            have := HS10.out.1
            omega
          · have e := Option.some.inj e
            have := HS10.out.2
            omega
        clear r1 r2 T2
        go_wp2_with (first
          | (with_reducible change wpList _ _ _ ({ dst := none, op := Op.store 34 _ _, type := _, pos := _, after := _, guard := _ } :: _) _ _
             refine Hid.out ?_)
          | fail)
        show wpList _ _ _ _ _ _
        refine wpList_store_blk rfl 34 (.tmp 11) (.tmp 78) rfl d11 0 34 Z34 CB rfl rfl T3.out.2.2 (by rw [HB.out.2.1, HZ34.out]; exact Nat.le_refl _) HB.out.2.2.2 HB.out.2.2.1 ?_
        intro X4 r1 r2
        have T4 : Hid (Below U2.heap.size U2 X4 ∧ Blk X4 d10 34 CT ∧ Blk X4 d11 34 CB) := by
          have hg := r2.out
          refine ⟨T3.out.1.grown hg T3.out.1.size (fun k hk => ?_), T3.out.2.1.kept hg (fun e => ?_), blk_all r1.out (by rw [HB.out.2.1, HZ34.out])⟩
          · have e := Option.some.inj hk
            have := HS10.out
            omega
          · have e := Option.some.inj e
            have := HS10.out.2
            omega
        clear r1 r2 T3
        by_cases hn0 : n = 0
        · have qk0 : ¬ (0 : Int) < (k : Int) := by omega
          have HU : Hid (upAt ids k = vTop) := by
            show upAt ids k = vTop
            unfold upAt
            rw [if_pos (by omega)]
          have qkn : ¬ (k : Int) < (n : Int) := by omega
          have HD : Hid (dnAt ids k = vBot) := by
            show dnAt ids k = vBot
            unfold dnAt
            rw [if_neg (by rw [S2.out.1.ids.2.2]; omega)]
          have HUD : Hid ((upAt ids k).cells = CT ∧ (dnAt ids k).cells = CB ∧ (Try.prog.info? 34).map (·.size) = some CT.length ∧ (Try.prog.info? 34).map (·.size) = some CB.length ∧ Vk (upAt ids k) ∧ Vk (dnAt ids k)) := ⟨by rw [HU.out]; exact HT.out.1, by rw [HD.out]; exact HB.out.1, HT.out.2.2.2, HB.out.2.2.2, by rw [HU.out]; exact vTop_k, by rw [HD.out]; exact vBot_k⟩
          clear HU HD
          clear hn0
          go_wp2
          go_loopw [14, 12, 13] (fun u y z wr => ∃ j : Nat, u = iv (j : Int) ∧ Hid (j ≤ x.ln ∧ j ≤ 6 ∧ Below X4.heap.size X4 wr ∧ OV X4.heap.size wr y j (fresh i j) ∧ OT9 X4.heap.size wr z j (x.ls.take j))) (fun u _ _ _ => x.ln - (intOf u).toNat)
          case atStart => exact ⟨0, rfl, Nat.zero_le _, Nat.zero_le _, Below.refl _ _, OV.nil _ _, OT9.nil _ _⟩
          case round =>
            obtain ⟨Y, hY⟩ : ∃ V, V = wr := ⟨_, rfl⟩
            subst hY
            obtain ⟨j, rfl, HJ⟩ := hrel
            have T5 : Hid (LP w p i (.slice ta n tc) (.slice ia n ic) G ids ts Y ∧ Blk Y d7 54 x.cells ∧ Blk Y d9 32 YC ∧ Blk Y d10 34 CT ∧ Blk Y d11 34 CB) := by
              have hb := HJ.out.2.2.1
              have hb2 := below_tr T4.out.1 hb
              exact ⟨S2.out.1.below hb2, S2.out.2.1.below hb2 S2.out.2.1.lt, S2.out.2.2.1.below hb2 S2.out.2.2.1.lt, T4.out.2.1.below hb T4.out.2.1.lt, T4.out.2.2.below hb T4.out.2.2.lt⟩
            have c2 : Y.cell? ⟨d7, 2, none⟩ = some (.slice x.la x.ln x.lc) := T5.out.2.1.cell rfl
            have q7 : (x.ln : Int) ≤ 140737488355328 := by have := HX.out.2.2.2.2.1; omega
            have q8 : (j : Int) ≤ 6 := by have := HJ.out.2.1; omega
            by_cases hj : j < x.ln ∧ j < 6
            · have qa : (j : Int) < (x.ln : Int) := by have := hj.1; omega
              have qb : (j : Int) < 6 := by have := hj.2; omega
              have HJ2 : Hid (j < x.ln ∧ j < 6) := hj
              have HIB : Hid (i < 100) := by show i < 100; have := HLT0.out.2; omega
              have hw := hb_k (i := i) j (by omega)
              have HWV := hid_of hw
              obtain ⟨WC, hWC⟩ : ∃ C, (⟨hb i, (j : Int)⟩ : Vx).cells = C := ⟨_, rfl⟩
              have HWC : Hid (Try.prog.built 34 [(0, .agg YC.toArray), (1, iv (j : Int))] = some WC.toArray ∧ (⟨hb i, (j : Int)⟩ : Vx).cells = WC) := ⟨by rw [← HYC.out.1, ← hWC]; exact built34h HIB.out _, hWC⟩
              have hbj := HWC.out.1
              obtain ⟨s, hs⟩ : ∃ s, x.ls[j]? = some s := ⟨_, List.getElem?_eq_getElem (by rw [HX.out.2.1.1]; exact hj.1)⟩
              have HSS := hid_of hs
              clear hj hw hWC hs
              go_wp2_with (first
              | (with_reducible change wpList _ _ _ ({ dst := some 106, op := _, type := _, pos := _, after := _, guard := _ } :: _) _ _
                 refine wpList_load_want rfl 32 (.tmp 9) rfl d9 0 rfl YC _ T5.out.2.2.1.range0 Try.underlying32 rfl HYC.out.2.2.2 ?_)
              | (with_reducible change wpList _ _ _ ({ dst := some 108, op := _, type := _, pos := _, after := _, guard := _ } :: _) _ _
                 refine wpList_built rfl 34 _ rfl WC.toArray (by rw [← hbj]; first | rfl | (simp; done) | (simp; rfl)) ?_)
              | (with_reducible change wpList _ _ _ ({ dst := some 109, op := _, type := _, pos := _, after := _, guard := _ } :: _) _ _
                 refine Hid.out ?_)
              | fail)
              show wpList _ _ _ _ _ _
              refine wpList_bslice1 rfl (.tmp 108) rfl ⟨hb i, (j : Int)⟩ HWV.out.1 (by rw [HWC.out.2]; rfl) ?_
              obtain ⟨Y1, hY1⟩ : ∃ W, Y.alloc (.cells (⟨hb i, (j : Int)⟩ : Vx).cells.toArray 34) = W := ⟨_, rfl⟩
              obtain ⟨z1, hz1⟩ : ∃ r, Y.heap.size = r := ⟨_, rfl⟩
              have T6 : Hid (Below Y.heap.size Y Y1 ∧ VsR Y1 (some ⟨z1, 0, none⟩) 1 [⟨hb i, (j : Int)⟩]) := ⟨by rw [← hY1]; exact below_al _ _, by rw [← hY1, ← hz1]; exact VsR.one Y _ HWV.out⟩
              rw [hY1, hz1]
              clear hY1 hz1 hbj
              go_wp2_with (first
              | (with_reducible change wpList _ _ _ ({ dst := some 110, op := _, type := _, pos := _, after := _, guard := _ } :: _) _ _
                 refine Hid.out ?_)
              | fail)
              show wpList _ _ _ _ _ _
              obtain ⟨fv, Y2, ra, rb, rc, _⟩ := run_app Y1 X4.heap.size 35 _ j (fresh i j) (some ⟨z1, 0, none⟩) 1 1 [⟨hb i, (j : Int)⟩] (HJ.out.2.2.2.1.below T6.out.1) T6.out.2 (by have := HJ2.out.2; omega) (Nat.le_trans HJ.out.2.2.1.size T6.out.1.size)
              refine wpList_ap rfl 35 35 _ _ rfl _ _ rfl rfl _ _ ra ?_
              have T7 : Hid (Below X4.heap.size X4 Y2 ∧ OV X4.heap.size Y2 fv (j + 1) (fresh i (j + 1)) ∧ OT9 X4.heap.size Y2 u13 j (x.ls.take j)) := by
                have hbx := below_tr HJ.out.2.2.1 T6.out.1
                have ho := HJ.out.2.2.2.1.below T6.out.1
                have ht := HJ.out.2.2.2.2.below T6.out.1
                refine ⟨hbx.grown rc hbx.size (fun g hg => (ho.own hg).1), by rw [fresh_succ]; exact rb, ht.same (fun g hg => rc.block g (ht.blk hg).2 (fun e => ?_))⟩
                have h1 := e.symm
                rcases ho.1.2 with ⟨e2, _⟩ | ⟨g1, cap, cur, e2, _, h3, _⟩
                · rw [e2] at h1; cases h1
                · rw [e2] at h1
                  have e5 : g1 = g := Option.some.inj h1
                  rcases ht.2 with ⟨e4, _⟩ | ⟨g2, cap2, cur2, e4, _, h5, _⟩
                  · rw [e4] at hg; cases hg
                  · rw [e4] at hg
                    have e6 : g2 = g := Option.some.inj hg
                    rw [e5] at h3
                    rw [e6] at h5
                    rw [h3] at h5
                    cases h5
              have c3 : Y2.cell? ⟨d7, 2, none⟩ = some (.slice x.la x.ln x.lc) := (cell_same (T7.out.1.block d7 (Nat.lt_of_lt_of_le S2.out.2.1.lt T4.out.1.size))).trans ((S2.out.2.1.below T4.out.1 S2.out.2.1.lt).cell rfl)
              obtain ⟨lg, loff, hla, hlg, hle⟩ := HX.out.2.1.2 (by have := HJ2.out.1; omega)
              have hbw : Below w.heap.size w Y2 := by
                have h1 := T7.out.1
                exact below_tr (S2.out.1.below T4.out.1).2.2.1 h1
              have c4 : Y2.cell? ⟨lg, loff + j, none⟩ = some (.string s) := (cell_same (hbw.block lg hlg)).trans (hle j s HSS.out)
              rw [hla] at c3
              clear ra rb rc T5 T6 c2 hla hlg hle hbw HJ HWV HWC
              go_wp2_with (first
              | (with_reducible change wpList _ _ _ ({ dst := some 117, op := _, type := _, pos := _, after := _, guard := _ } :: _) _ _
                 refine Hid.out ?_)
              | fail)
              show wpList _ _ _ _ _ _
              refine wpList_bs rfl 36 (.tmp 116) rfl (.string s) _ rfl _ (bs9x s _) ?_
              obtain ⟨Y3, hY3⟩ : ∃ W, Y2.alloc (.cells [Value.string s].toArray 9) = W := ⟨_, rfl⟩
              obtain ⟨z2, hz2⟩ : ∃ r, Y2.heap.size = r := ⟨_, rfl⟩
              have T8 : Hid (Below Y2.heap.size Y2 Y3 ∧ TsR Y3 (some ⟨z2, 0, none⟩) 1 [s]) := ⟨by rw [← hY3]; exact below_al _ _, by rw [← hY3, ← hz2]; exact TsR.one _ _⟩
              rw [hY3, hz2]
              clear hY3 hz2 c3 c4
              go_wp2_with (first
              | (with_reducible change wpList _ _ _ ({ dst := some 118, op := _, type := _, pos := _, after := _, guard := _ } :: _) _ _
                 refine Hid.out ?_)
              | fail)
              show wpList _ _ _ _ _ _
              obtain ⟨lv, Y4, ra, rb, rc⟩ := run_appT Y3 X4.heap.size 36 _ j (x.ls.take j) (some ⟨z2, 0, none⟩) 1 1 [s] (T7.out.2.2.below T8.out.1) T8.out.2 (by have := HJ2.out.2; omega) (Nat.le_trans T7.out.1.size T8.out.1.size)
              refine wpList_ap rfl 36 36 _ _ rfl _ _ rfl rfl _ _ ra ?_
              have T9 : Hid (j + 1 ≤ x.ln ∧ j + 1 ≤ 6 ∧ Below X4.heap.size X4 Y4 ∧ OV X4.heap.size Y4 fv (j + 1) (fresh i (j + 1)) ∧ OT9 X4.heap.size Y4 lv (j + 1) (x.ls.take (j + 1))) := by
                have hbx := below_tr T7.out.1 T8.out.1
                have ho := T7.out.2.1.below T8.out.1
                have ht := T7.out.2.2.below T8.out.1
                refine ⟨HJ2.out.1, HJ2.out.2, hbx.grown rc hbx.size (fun g hg => (ht.blk hg).1), ho.same (fun g hg => rc.block g (ho.own hg).2 (fun e => ?_)), by rw [List.take_add_one, HSS.out]; exact rb⟩
                have h1 := e.symm
                rcases ho.1.2 with ⟨e2, _⟩ | ⟨g1, cap, cur, e2, _, h3, _⟩
                · rw [e2] at hg; cases hg
                · rw [e2] at hg
                  have e5 : g1 = g := Option.some.inj hg
                  rcases ht.2 with ⟨e4, _⟩ | ⟨g2, cap2, cur2, e4, _, h5, _⟩
                  · rw [e4] at h1; cases h1
                  · rw [e4] at h1
                    have e6 : g2 = g := Option.some.inj h1
                    rw [e5] at h3
                    rw [e6] at h5
                    rw [h3] at h5
                    cases h5
              clear ra rb rc T7 T8
              go_wp2
              refine ⟨⟨j + 1, by simp, T9.out⟩, ?_⟩
              have := HJ2.out.1; simp [intOf]; omega
            · have qa : ¬ ((j : Int) < (x.ln : Int) ∧ (j : Int) < 6) := fun h => hj ⟨by omega, by omega⟩
              have T10 : Hid (Below X4.heap.size X4 Y ∧ OV X4.heap.size Y u12 j (fresh i j) ∧ OT9 X4.heap.size Y u13 j (x.ls.take j) ∧ j ≤ 6 ∧ j ≤ x.ln) := ⟨HJ.out.2.2.1, HJ.out.2.2.2.1, HJ.out.2.2.2.2, HJ.out.2.1, HJ.out.1⟩
              obtain ⟨fa, fc, e1, _, _, _⟩ := HJ.out.2.2.2.1.read
              obtain ⟨la, lc, e2, _, _, _⟩ := HJ.out.2.2.2.2.read
              subst e1 e2
              clear hj HJ
              by_cases hla : (j : Int) < (x.ln : Int)
              · have qb : ¬ (j : Int) < 6 := fun h => qa ⟨hla, h⟩
                have hj0 : j ≠ 0 := by omega
                clear qa
                have qj : ((j : Int) == 0) = false := by simp; omega
                have HJ0 : Hid (0 < j) := by show 0 < j; omega
                clear hj0
                have HOK := hid_of (T5.out.1.2.2.2.1.ok (m := j) (at_ := k) (by have := HLT0.out.2; omega) HJ0.out T10.out.2.2.2.1 (by rw [T5.out.1.ids.2.2]; exact HKN.out))
                have HPA := hid_of (T5.out.1.2.2.2.1.add (m := j) (at_ := k) (ls := x.ls.take j) (by have := HLT0.out.2; omega) HJ0.out T10.out.2.2.2.1 (by rw [T5.out.1.ids.2.2]; exact HKN.out) (by rw [List.length_take, HX.out.2.1.1]; have := T10.out.2.2.2.2; omega))
                obtain ⟨AH, hAH⟩ := ahb G.ps (upAt ids k) (dnAt ids k)
                obtain ⟨PS, hPS⟩ : ∃ PS, addP G.ps (upAt ids k) (dnAt ids k) (fresh i j) (x.ls.take j) = PS := ⟨_, rfl⟩
                rw [hPS] at HPA
                have HAH : Hid ((AH = true ↔ ahdP G.ps (upAt ids k) (dnAt ids k)) ∧ addP G.ps (upAt ids k) (dnAt ids k) (fresh i j) (x.ls.take j) = PS) := ⟨hAH, hPS⟩
                clear hAH hPS
                go_wp2_with (first
                  | (with_reducible change wpList _ _ _ ({ dst := some 123, op := _, type := _, pos := _, after := _, guard := _ } :: _) _ _
                     refine wpList_load_want rfl 34 (.tmp 10) rfl d10 0 rfl CT _ T5.out.2.2.2.1.range0 Try.underlying34 rfl HUD.out.2.2.1 ?_)
                  | (with_reducible change wpList _ _ _ ({ dst := some 124, op := _, type := _, pos := _, after := _, guard := _ } :: _) _ _
                     refine wpList_load_want rfl 34 (.tmp 11) rfl d11 0 rfl CB _ T5.out.2.2.2.2.range0 Try.underlying34 rfl HUD.out.2.2.2.1 ?_)
                  | fail)
                refine (add_st T5.out.1.1 T5.out.1.2.2.2.1.iv (by have := HLT0.out.2; omega) (upAt ids k) (dnAt ids k) HUD.out.2.2.2.2.1 HUD.out.2.2.2.2.2 fa j fc (fresh i j) T10.out.2.1.of.2.1 (by have := T10.out.2.2.2.1; omega) la j lc (x.ls.take j) T10.out.2.2.1.of.2.1 AH HAH.out.1 0 (HOK.out.zero HAH.out.1) PS (by rw [if_pos rfl]; exact HAH.out.2) CT CB HUD.out.1 HUD.out.2.1).mono ?_
                rintro e V3 ⟨rfl, G', hga, hps⟩
                have S3 : Hid ((GAt V3 p G' ∧ (∀ k ∈ G'.bl p, w.heap.size ≤ k) ∧ Below w.heap.size w V3 ∧ Pl (i + 1) G'.ps (ids.take k ++ fresh i j ++ ids.drop k) (ts.take k ++ x.ls.take j ++ ts.drop k)) ∧ TsR V3 ta n ts ∧ VsR V3 ia n ids ∧ n ≤ tc ∧ n ≤ ic ∧ VsR V3 fa j (fresh i j) ∧ TsR V3 la j (x.ls.take j)) := by
                  have hL := T5.out.1
                  have hkp := hga.2.2
                  have ht := hL.2.2.2.2.1.same (w' := V3) (fun gg hgg => hkp.block gg (hL.2.2.2.2.1.blk hgg).2 (hL.2.2.2.2.2.2.1 gg hgg))
                  have hi2 := hL.2.2.2.2.2.1.same (w' := V3) (fun gg hgg => hkp.block gg (hL.2.2.2.2.2.1.own hgg).2 (hL.2.2.2.2.2.2.2 gg hgg))
                  have hGX : ∀ gg ∈ G.bl p, gg < X4.heap.size := fun gg hgg => Nat.lt_of_lt_of_le (S2.out.1.1.lt gg hgg) T4.out.1.size
                  have hf := T10.out.2.1.same (w' := V3) (fun gg hgg => hkp.block gg (T10.out.2.1.own hgg).2 (fun hm => by have h1 := (T10.out.2.1.own hgg).1; have h2 := hGX gg hm; omega))
                  have hl := T10.out.2.2.1.same (w' := V3) (fun gg hgg => hkp.block gg (T10.out.2.2.1.blk hgg).2 (fun hm => by have h1 := (T10.out.2.2.1.blk hgg).1; have h2 := hGX gg hm; omega))
                  have hAt : At7 w p 0 G.ps Y G := ⟨hL.1, hL.2.1, rfl, hL.2.2.1⟩
                  have hA3 := hAt.after hga hps
                  obtain ⟨_, t1, t3⟩ := ht.of
                  obtain ⟨_, v1, v3⟩ := hi2.of
                  exact ⟨⟨hA3.1, hA3.2.1, hA3.2.2.2, by rw [hps]; exact HPA.out⟩, t1, v1, t3, v3, hf.of.2.1, hl.of.2.1⟩
                have HJ6 : Hid (j ≤ 6) := T10.out.2.2.2.1
                have HFL : Hid ((fresh i j).length = j) := fresh_len i j
                clear hga hps T5 T10 HOK HPA HAH HUD
                obtain ⟨fr, hfr⟩ : ∃ l, fresh i j = l := ⟨_, rfl⟩
                obtain ⟨lk, hlk⟩ : ∃ l, x.ls.take j = l := ⟨_, rfl⟩
                rw [hfr, hlk] at S3
                rw [hfr] at HFL
                clear hfr hlk
                go_wp2_with fail
                have HQ0t : Hid (k ≤ n ∧ n ≤ tc) := ⟨HKN.out, S3.out.2.2.2.1⟩
                have HQ0i : Hid (k ≤ n ∧ n ≤ ic) := ⟨HKN.out, S3.out.2.2.2.2.1⟩
                have HN1 : Hid (n + j ≤ 1000) := by show n + j ≤ 1000; have := HN150.out; have := HJ6.out; omega
                refine pl31 S3.out.2.1 HQ0t HN1 S3.out.2.2.2.2.2.2 ?_
                intro V4 r1 v1 v2 v3 hb4 ho4
                have S4 : Hid (Below V3.heap.size V3 V4 ∧ OT9 V3.heap.size V4 v3 (0 + k + j + (n - k)) ([] ++ ts.take k ++ lk ++ ts.drop k)) := ⟨hb4, ho4⟩
                clear hb4 ho4
                go_wp2_with fail
                refine pl32 (S3.out.2.2.1.below S4.out.1) HQ0i HN1 (S3.out.2.2.2.2.2.1.below S4.out.1) ?_
                intro V5 r2 v4 v5 v6 hb5 ho5
                have S5 : Hid (LP w p (i + 1) v3 v6 G' (ids.take k ++ fr ++ ids.drop k) (ts.take k ++ lk ++ ts.drop k) V5) := by
                  have hk2 := HKN.out
                  have hlen : (ids.take k ++ fr ++ ids.drop k).length = k + j + (n - k) := by
                    rw [List.length_append, List.length_append, List.length_take, List.length_drop, S3.out.2.2.1.1, HFL.out]
                    omega
                  have h4 := S4.out.2
                  rw [Nat.zero_add, List.nil_append] at h4 ho5
                  have hb := below_tr S4.out.1 hb5
                  have hs := S3.out.1.2.2.1.size
                  have hs4 := S4.out.1.size
                  refine ⟨S3.out.1.1.below hb, S3.out.1.2.1, below_tr S3.out.1.2.2.1 hb, S3.out.1.2.2.2, by rw [hlen]; exact (h4.below hb5).lo hs, by rw [hlen]; exact ho5.lo (Nat.le_trans hs hs4), fun gg hgg hm => ?_, fun gg hgg hm => ?_⟩
                  · have h1 := (h4.blk hgg).1
                    have h2 := S3.out.1.1.lt gg hm
                    omega
                  · have h1 := (ho5.own hgg).1
                    have h2 := S3.out.1.1.lt gg hm
                    omega
                clear hb5 ho5 S4 S3 HQ0t HQ0i HN1
                obtain ⟨ids2, hids2⟩ : ∃ l, ids.take k ++ fr ++ ids.drop k = l := ⟨_, rfl⟩
                obtain ⟨ts2, hts2⟩ : ∃ l, ts.take k ++ lk ++ ts.drop k = l := ⟨_, rfl⟩
                rw [hids2, hts2] at S5
                clear hids2 hts2
                obtain ⟨n2, ta2, tc2, rfl⟩ : ∃ n a c, v3 = .slice a n c := by
                  obtain ⟨a, c, e, _⟩ := S5.out.2.2.2.2.1.read
                  exact ⟨_, a, c, e⟩
                go_wp2_with fail
                refine (text_pl S5.out.1 S5.out.2.2.2.1).mono ?_
                rintro e Z1 ⟨xa, xn, xc, rfl, HX, HB⟩
                have HZ1 := hid_of (LP.below S5.out HB.out)
                have HX1 := HX
                clear HX HB
                go_wp2_with fail
                have HXR := hid_of HZ1.out.txt.2.1
                refine (texts_is Z1 xa ta2 xn n2 xc tc2 ts2 ts2 HX1.out HXR.out (by have h1 := HX1.out.1; unfold strs at h1; rw [List.length_map, HZ1.out.2.2.2.1.tlen] at h1; have h2 := HZ1.out.2.2.2.1.ilen; have h3 := HI25.out; omega) (by have h2 := HZ1.out.2.2.2.1.ilen; have h3 := HI25.out; have h4 := HZ1.out.txt.1.1; have h5 := HZ1.out.2.2.2.1.tlen; omega) true (by simp)).mono ?_
                rintro e Z2 ⟨rfl, hb⟩
                have HZ2 := hid_of (LP.below HZ1.out hb)
                clear hb HZ1 HX1 HXR
                go_wp2_with fail
                refine (conf_pl HZ2.out.1 HZ2.out.2.2.2.1).mono ?_
                rintro e Z3 ⟨rfl, hb⟩
                have HZ3 := hid_of (LP.below HZ2.out hb)
                clear hb HZ2
                have HLT : Hid (i < n0 ∧ i < 25) := HLT0.out
                go_wp2
                refine ⟨⟨i + 1, G', ids2, ts2, by simp, HLT.out.1, HLT.out.2, HZ3.out⟩, ?_⟩
                have := HLT.out.1; simp [intOf]; omega
              · clear qa
                by_cases hj0 : j = 0
                · subst hj0
                  have HNX : Hid (LP w p (i + 1) (.slice ta n tc) (.slice ia n ic) G ids ts Y) := LP.idle T5.out.1
                  have HLT : Hid (i < n0 ∧ i < 25) := HLT0.out
                  clear T5 T10
                  go_wp2
                  refine ⟨⟨i + 1, G, ids, ts, by simp, HLT.out.1, HLT.out.2, HNX.out⟩, ?_⟩
                  have := HLT.out.1; simp [intOf]; omega
                have qj : ((j : Int) == 0) = false := by simp; omega
                have HJ0 : Hid (0 < j) := by show 0 < j; omega
                clear hj0
                have HOK := hid_of (T5.out.1.2.2.2.1.ok (m := j) (at_ := k) (by have := HLT0.out.2; omega) HJ0.out T10.out.2.2.2.1 (by rw [T5.out.1.ids.2.2]; exact HKN.out))
                have HPA := hid_of (T5.out.1.2.2.2.1.add (m := j) (at_ := k) (ls := x.ls.take j) (by have := HLT0.out.2; omega) HJ0.out T10.out.2.2.2.1 (by rw [T5.out.1.ids.2.2]; exact HKN.out) (by rw [List.length_take, HX.out.2.1.1]; have := T10.out.2.2.2.2; omega))
                obtain ⟨AH, hAH⟩ := ahb G.ps (upAt ids k) (dnAt ids k)
                obtain ⟨PS, hPS⟩ : ∃ PS, addP G.ps (upAt ids k) (dnAt ids k) (fresh i j) (x.ls.take j) = PS := ⟨_, rfl⟩
                rw [hPS] at HPA
                have HAH : Hid ((AH = true ↔ ahdP G.ps (upAt ids k) (dnAt ids k)) ∧ addP G.ps (upAt ids k) (dnAt ids k) (fresh i j) (x.ls.take j) = PS) := ⟨hAH, hPS⟩
                clear hAH hPS
                go_wp2_with (first
                  | (with_reducible change wpList _ _ _ ({ dst := some 123, op := _, type := _, pos := _, after := _, guard := _ } :: _) _ _
                     refine wpList_load_want rfl 34 (.tmp 10) rfl d10 0 rfl CT _ T5.out.2.2.2.1.range0 Try.underlying34 rfl HUD.out.2.2.1 ?_)
                  | (with_reducible change wpList _ _ _ ({ dst := some 124, op := _, type := _, pos := _, after := _, guard := _ } :: _) _ _
                     refine wpList_load_want rfl 34 (.tmp 11) rfl d11 0 rfl CB _ T5.out.2.2.2.2.range0 Try.underlying34 rfl HUD.out.2.2.2.1 ?_)
                  | fail)
                refine (add_st T5.out.1.1 T5.out.1.2.2.2.1.iv (by have := HLT0.out.2; omega) (upAt ids k) (dnAt ids k) HUD.out.2.2.2.2.1 HUD.out.2.2.2.2.2 fa j fc (fresh i j) T10.out.2.1.of.2.1 (by have := T10.out.2.2.2.1; omega) la j lc (x.ls.take j) T10.out.2.2.1.of.2.1 AH HAH.out.1 0 (HOK.out.zero HAH.out.1) PS (by rw [if_pos rfl]; exact HAH.out.2) CT CB HUD.out.1 HUD.out.2.1).mono ?_
                rintro e V3 ⟨rfl, G', hga, hps⟩
                have S3 : Hid ((GAt V3 p G' ∧ (∀ k ∈ G'.bl p, w.heap.size ≤ k) ∧ Below w.heap.size w V3 ∧ Pl (i + 1) G'.ps (ids.take k ++ fresh i j ++ ids.drop k) (ts.take k ++ x.ls.take j ++ ts.drop k)) ∧ TsR V3 ta n ts ∧ VsR V3 ia n ids ∧ n ≤ tc ∧ n ≤ ic ∧ VsR V3 fa j (fresh i j) ∧ TsR V3 la j (x.ls.take j)) := by
                  have hL := T5.out.1
                  have hkp := hga.2.2
                  have ht := hL.2.2.2.2.1.same (w' := V3) (fun gg hgg => hkp.block gg (hL.2.2.2.2.1.blk hgg).2 (hL.2.2.2.2.2.2.1 gg hgg))
                  have hi2 := hL.2.2.2.2.2.1.same (w' := V3) (fun gg hgg => hkp.block gg (hL.2.2.2.2.2.1.own hgg).2 (hL.2.2.2.2.2.2.2 gg hgg))
                  have hGX : ∀ gg ∈ G.bl p, gg < X4.heap.size := fun gg hgg => Nat.lt_of_lt_of_le (S2.out.1.1.lt gg hgg) T4.out.1.size
                  have hf := T10.out.2.1.same (w' := V3) (fun gg hgg => hkp.block gg (T10.out.2.1.own hgg).2 (fun hm => by have h1 := (T10.out.2.1.own hgg).1; have h2 := hGX gg hm; omega))
                  have hl := T10.out.2.2.1.same (w' := V3) (fun gg hgg => hkp.block gg (T10.out.2.2.1.blk hgg).2 (fun hm => by have h1 := (T10.out.2.2.1.blk hgg).1; have h2 := hGX gg hm; omega))
                  have hAt : At7 w p 0 G.ps Y G := ⟨hL.1, hL.2.1, rfl, hL.2.2.1⟩
                  have hA3 := hAt.after hga hps
                  obtain ⟨_, t1, t3⟩ := ht.of
                  obtain ⟨_, v1, v3⟩ := hi2.of
                  exact ⟨⟨hA3.1, hA3.2.1, hA3.2.2.2, by rw [hps]; exact HPA.out⟩, t1, v1, t3, v3, hf.of.2.1, hl.of.2.1⟩
                have HJ6 : Hid (j ≤ 6) := T10.out.2.2.2.1
                have HFL : Hid ((fresh i j).length = j) := fresh_len i j
                clear hga hps T5 T10 HOK HPA HAH HUD
                obtain ⟨fr, hfr⟩ : ∃ l, fresh i j = l := ⟨_, rfl⟩
                obtain ⟨lk, hlk⟩ : ∃ l, x.ls.take j = l := ⟨_, rfl⟩
                rw [hfr, hlk] at S3
                rw [hfr] at HFL
                clear hfr hlk
                go_wp2_with fail
                have HQ0t : Hid (k ≤ n ∧ n ≤ tc) := ⟨HKN.out, S3.out.2.2.2.1⟩
                have HQ0i : Hid (k ≤ n ∧ n ≤ ic) := ⟨HKN.out, S3.out.2.2.2.2.1⟩
                have HN1 : Hid (n + j ≤ 1000) := by show n + j ≤ 1000; have := HN150.out; have := HJ6.out; omega
                refine pl31 S3.out.2.1 HQ0t HN1 S3.out.2.2.2.2.2.2 ?_
                intro V4 r1 v1 v2 v3 hb4 ho4
                have S4 : Hid (Below V3.heap.size V3 V4 ∧ OT9 V3.heap.size V4 v3 (0 + k + j + (n - k)) ([] ++ ts.take k ++ lk ++ ts.drop k)) := ⟨hb4, ho4⟩
                clear hb4 ho4
                go_wp2_with fail
                refine pl32 (S3.out.2.2.1.below S4.out.1) HQ0i HN1 (S3.out.2.2.2.2.2.1.below S4.out.1) ?_
                intro V5 r2 v4 v5 v6 hb5 ho5
                have S5 : Hid (LP w p (i + 1) v3 v6 G' (ids.take k ++ fr ++ ids.drop k) (ts.take k ++ lk ++ ts.drop k) V5) := by
                  have hk2 := HKN.out
                  have hlen : (ids.take k ++ fr ++ ids.drop k).length = k + j + (n - k) := by
                    rw [List.length_append, List.length_append, List.length_take, List.length_drop, S3.out.2.2.1.1, HFL.out]
                    omega
                  have h4 := S4.out.2
                  rw [Nat.zero_add, List.nil_append] at h4 ho5
                  have hb := below_tr S4.out.1 hb5
                  have hs := S3.out.1.2.2.1.size
                  have hs4 := S4.out.1.size
                  refine ⟨S3.out.1.1.below hb, S3.out.1.2.1, below_tr S3.out.1.2.2.1 hb, S3.out.1.2.2.2, by rw [hlen]; exact (h4.below hb5).lo hs, by rw [hlen]; exact ho5.lo (Nat.le_trans hs hs4), fun gg hgg hm => ?_, fun gg hgg hm => ?_⟩
                  · have h1 := (h4.blk hgg).1
                    have h2 := S3.out.1.1.lt gg hm
                    omega
                  · have h1 := (ho5.own hgg).1
                    have h2 := S3.out.1.1.lt gg hm
                    omega
                clear hb5 ho5 S4 S3 HQ0t HQ0i HN1
                obtain ⟨ids2, hids2⟩ : ∃ l, ids.take k ++ fr ++ ids.drop k = l := ⟨_, rfl⟩
                obtain ⟨ts2, hts2⟩ : ∃ l, ts.take k ++ lk ++ ts.drop k = l := ⟨_, rfl⟩
                rw [hids2, hts2] at S5
                clear hids2 hts2
                obtain ⟨n2, ta2, tc2, rfl⟩ : ∃ n a c, v3 = .slice a n c := by
                  obtain ⟨a, c, e, _⟩ := S5.out.2.2.2.2.1.read
                  exact ⟨_, a, c, e⟩
                go_wp2_with fail
                refine (text_pl S5.out.1 S5.out.2.2.2.1).mono ?_
                rintro e Z1 ⟨xa, xn, xc, rfl, HX, HB⟩
                have HZ1 := hid_of (LP.below S5.out HB.out)
                have HX1 := HX
                clear HX HB
                go_wp2_with fail
                have HXR := hid_of HZ1.out.txt.2.1
                refine (texts_is Z1 xa ta2 xn n2 xc tc2 ts2 ts2 HX1.out HXR.out (by have h1 := HX1.out.1; unfold strs at h1; rw [List.length_map, HZ1.out.2.2.2.1.tlen] at h1; have h2 := HZ1.out.2.2.2.1.ilen; have h3 := HI25.out; omega) (by have h2 := HZ1.out.2.2.2.1.ilen; have h3 := HI25.out; have h4 := HZ1.out.txt.1.1; have h5 := HZ1.out.2.2.2.1.tlen; omega) true (by simp)).mono ?_
                rintro e Z2 ⟨rfl, hb⟩
                have HZ2 := hid_of (LP.below HZ1.out hb)
                clear hb HZ1 HX1 HXR
                go_wp2_with fail
                refine (conf_pl HZ2.out.1 HZ2.out.2.2.2.1).mono ?_
                rintro e Z3 ⟨rfl, hb⟩
                have HZ3 := hid_of (LP.below HZ2.out hb)
                clear hb HZ2
                have HLT : Hid (i < n0 ∧ i < 25) := HLT0.out
                go_wp2
                refine ⟨⟨i + 1, G', ids2, ts2, by simp, HLT.out.1, HLT.out.2, HZ3.out⟩, ?_⟩
                have := HLT.out.1; simp [intOf]; omega
        obtain ⟨gd, od, rfl, hgd, held⟩ := S2.out.1.ids.1.2.2 (by omega)
        have HID : Hid (gd < U2.heap.size ∧ ∀ i v, ids[i]? = some v → U2.rangeAt gd (od + i * 33) v.cells) := ⟨hgd, held⟩
        clear hgd held
        by_cases hk0 : k = 0
        · have qk0 : ¬ (0 : Int) < (k : Int) := by omega
          have HU : Hid (upAt ids k = vTop) := by
            show upAt ids k = vTop
            unfold upAt
            rw [if_pos (by omega)]
          have qkn : (k : Int) < (n : Int) := by omega
          obtain ⟨vd, hvd⟩ : ∃ v, ids[k]? = some v := ⟨_, List.getElem?_eq_getElem (by rw [S2.out.1.ids.2.2]; omega)⟩
          have hvdk := S2.out.1.ids.1.2.1 vd (List.mem_of_getElem? hvd)
          obtain ⟨DC, hDC⟩ : ∃ C, vd.cells = C := ⟨_, rfl⟩
          have hed : dnAt ids k = vd := by
            unfold dnAt
            rw [if_pos (by rw [S2.out.1.ids.2.2]; omega), List.getD_eq_getElem?_getD, hvd]
            rfl
          have HD : Hid (dnAt ids k = vd ∧ Vk vd ∧ vd.cells = DC ∧ DC.length = 33 ∧ (∀ v ∈ DC, v.oneCell' = true) ∧ (Try.prog.info? 34).map (·.size) = some DC.length) := ⟨hed, hvdk, hDC, by rw [← hDC]; exact Vx.len hvdk.1, by rw [← hDC]; exact Vx.one _, by rw [← hDC]; exact info34 hvdk.1⟩
          have HRD : Hid (X4.rangeAt gd (od + k * 33) DC) := by show World.rangeAt _ _ _ _; rw [← hDC]; exact rangeAt_same (HID.out.2 k vd hvd) (T4.out.1.block gd HID.out.1)
          clear hvd hvdk hDC hed
          clear hn0 hk0
          go_wp2_with (first
            | (with_reducible change wpList _ _ _ ({ dst := some 93, op := _, type := _, pos := _, after := _, guard := _ } :: _) _ _
               refine wpList_load_want rfl 34 (.tmp 92) rfl gd (od + k * 33) rfl DC _ HRD.out Try.underlying34 rfl HD.out.2.2.2.2.2 ?_)
            | (with_reducible change wpList _ _ _ ({ dst := none, op := Op.store 34 _ _, type := _, pos := _, after := _, guard := _ } :: _) _ _
               refine Hid.out ?_)
            | fail)
          show wpList _ _ _ _ _ _
          refine wpList_store_blk rfl 34 (.tmp 11) (.tmp 93) rfl d11 0 34 CB DC rfl rfl T4.out.2.2 (by rw [HD.out.2.2.2.1, HB.out.2.1]; exact Nat.le_refl _) HD.out.2.2.2.2.2 HD.out.2.2.2.2.1 ?_
          intro X6 r1 r2
          have T6x : Hid (Below U2.heap.size U2 X6 ∧ Blk X6 d10 34 CT ∧ Blk X6 d11 34 DC) := by
            have hg := r2.out
            refine ⟨T4.out.1.grown hg T4.out.1.size (fun k hk => by have e := Option.some.inj hk; have := HS10.out; omega), T4.out.2.1.kept hg (fun e => by have e := Option.some.inj e; have := HS10.out.2; omega), blk_all r1.out (by rw [HD.out.2.2.2.1, HB.out.2.1])⟩
          clear r1 r2 T4
          clear HRD qkn
          have HUD : Hid ((upAt ids k).cells = CT ∧ (dnAt ids k).cells = DC ∧ (Try.prog.info? 34).map (·.size) = some CT.length ∧ (Try.prog.info? 34).map (·.size) = some DC.length ∧ Vk (upAt ids k) ∧ Vk (dnAt ids k)) := ⟨by rw [HU.out]; exact HT.out.1, by rw [HD.out.1]; exact HD.out.2.2.1, HT.out.2.2.2, HD.out.2.2.2.2.2, by rw [HU.out]; exact vTop_k, by rw [HD.out.1]; exact HD.out.2.1⟩
          clear HU HD
          go_wp2
          go_loopw [14, 12, 13] (fun u y z wr => ∃ j : Nat, u = iv (j : Int) ∧ Hid (j ≤ x.ln ∧ j ≤ 6 ∧ Below X6.heap.size X6 wr ∧ OV X6.heap.size wr y j (fresh i j) ∧ OT9 X6.heap.size wr z j (x.ls.take j))) (fun u _ _ _ => x.ln - (intOf u).toNat)
          case atStart => exact ⟨0, rfl, Nat.zero_le _, Nat.zero_le _, Below.refl _ _, OV.nil _ _, OT9.nil _ _⟩
          case round =>
            obtain ⟨Y, hY⟩ : ∃ V, V = wr := ⟨_, rfl⟩
            subst hY
            obtain ⟨j, rfl, HJ⟩ := hrel
            have T5 : Hid (LP w p i (.slice ta n tc) (.slice (some ⟨gd, od, none⟩) n ic) G ids ts Y ∧ Blk Y d7 54 x.cells ∧ Blk Y d9 32 YC ∧ Blk Y d10 34 CT ∧ Blk Y d11 34 DC) := by
              have hb := HJ.out.2.2.1
              have hb2 := below_tr T6x.out.1 hb
              exact ⟨S2.out.1.below hb2, S2.out.2.1.below hb2 S2.out.2.1.lt, S2.out.2.2.1.below hb2 S2.out.2.2.1.lt, T6x.out.2.1.below hb T6x.out.2.1.lt, T6x.out.2.2.below hb T6x.out.2.2.lt⟩
            have c2 : Y.cell? ⟨d7, 2, none⟩ = some (.slice x.la x.ln x.lc) := T5.out.2.1.cell rfl
            have q7 : (x.ln : Int) ≤ 140737488355328 := by have := HX.out.2.2.2.2.1; omega
            have q8 : (j : Int) ≤ 6 := by have := HJ.out.2.1; omega
            by_cases hj : j < x.ln ∧ j < 6
            · have qa : (j : Int) < (x.ln : Int) := by have := hj.1; omega
              have qb : (j : Int) < 6 := by have := hj.2; omega
              have HJ2 : Hid (j < x.ln ∧ j < 6) := hj
              have HIB : Hid (i < 100) := by show i < 100; have := HLT0.out.2; omega
              have hw := hb_k (i := i) j (by omega)
              have HWV := hid_of hw
              obtain ⟨WC, hWC⟩ : ∃ C, (⟨hb i, (j : Int)⟩ : Vx).cells = C := ⟨_, rfl⟩
              have HWC : Hid (Try.prog.built 34 [(0, .agg YC.toArray), (1, iv (j : Int))] = some WC.toArray ∧ (⟨hb i, (j : Int)⟩ : Vx).cells = WC) := ⟨by rw [← HYC.out.1, ← hWC]; exact built34h HIB.out _, hWC⟩
              have hbj := HWC.out.1
              obtain ⟨s, hs⟩ : ∃ s, x.ls[j]? = some s := ⟨_, List.getElem?_eq_getElem (by rw [HX.out.2.1.1]; exact hj.1)⟩
              have HSS := hid_of hs
              clear hj hw hWC hs
              go_wp2_with (first
              | (with_reducible change wpList _ _ _ ({ dst := some 106, op := _, type := _, pos := _, after := _, guard := _ } :: _) _ _
                 refine wpList_load_want rfl 32 (.tmp 9) rfl d9 0 rfl YC _ T5.out.2.2.1.range0 Try.underlying32 rfl HYC.out.2.2.2 ?_)
              | (with_reducible change wpList _ _ _ ({ dst := some 108, op := _, type := _, pos := _, after := _, guard := _ } :: _) _ _
                 refine wpList_built rfl 34 _ rfl WC.toArray (by rw [← hbj]; first | rfl | (simp; done) | (simp; rfl)) ?_)
              | (with_reducible change wpList _ _ _ ({ dst := some 109, op := _, type := _, pos := _, after := _, guard := _ } :: _) _ _
                 refine Hid.out ?_)
              | fail)
              show wpList _ _ _ _ _ _
              refine wpList_bslice1 rfl (.tmp 108) rfl ⟨hb i, (j : Int)⟩ HWV.out.1 (by rw [HWC.out.2]; rfl) ?_
              obtain ⟨Y1, hY1⟩ : ∃ W, Y.alloc (.cells (⟨hb i, (j : Int)⟩ : Vx).cells.toArray 34) = W := ⟨_, rfl⟩
              obtain ⟨z1, hz1⟩ : ∃ r, Y.heap.size = r := ⟨_, rfl⟩
              have T6 : Hid (Below Y.heap.size Y Y1 ∧ VsR Y1 (some ⟨z1, 0, none⟩) 1 [⟨hb i, (j : Int)⟩]) := ⟨by rw [← hY1]; exact below_al _ _, by rw [← hY1, ← hz1]; exact VsR.one Y _ HWV.out⟩
              rw [hY1, hz1]
              clear hY1 hz1 hbj
              go_wp2_with (first
              | (with_reducible change wpList _ _ _ ({ dst := some 110, op := _, type := _, pos := _, after := _, guard := _ } :: _) _ _
                 refine Hid.out ?_)
              | fail)
              show wpList _ _ _ _ _ _
              obtain ⟨fv, Y2, ra, rb, rc, _⟩ := run_app Y1 X6.heap.size 35 _ j (fresh i j) (some ⟨z1, 0, none⟩) 1 1 [⟨hb i, (j : Int)⟩] (HJ.out.2.2.2.1.below T6.out.1) T6.out.2 (by have := HJ2.out.2; omega) (Nat.le_trans HJ.out.2.2.1.size T6.out.1.size)
              refine wpList_ap rfl 35 35 _ _ rfl _ _ rfl rfl _ _ ra ?_
              have T7 : Hid (Below X6.heap.size X6 Y2 ∧ OV X6.heap.size Y2 fv (j + 1) (fresh i (j + 1)) ∧ OT9 X6.heap.size Y2 u13 j (x.ls.take j)) := by
                have hbx := below_tr HJ.out.2.2.1 T6.out.1
                have ho := HJ.out.2.2.2.1.below T6.out.1
                have ht := HJ.out.2.2.2.2.below T6.out.1
                refine ⟨hbx.grown rc hbx.size (fun g hg => (ho.own hg).1), by rw [fresh_succ]; exact rb, ht.same (fun g hg => rc.block g (ht.blk hg).2 (fun e => ?_))⟩
                have h1 := e.symm
                rcases ho.1.2 with ⟨e2, _⟩ | ⟨g1, cap, cur, e2, _, h3, _⟩
                · rw [e2] at h1; cases h1
                · rw [e2] at h1
                  have e5 : g1 = g := Option.some.inj h1
                  rcases ht.2 with ⟨e4, _⟩ | ⟨g2, cap2, cur2, e4, _, h5, _⟩
                  · rw [e4] at hg; cases hg
                  · rw [e4] at hg
                    have e6 : g2 = g := Option.some.inj hg
                    rw [e5] at h3
                    rw [e6] at h5
                    rw [h3] at h5
                    cases h5
              have c3 : Y2.cell? ⟨d7, 2, none⟩ = some (.slice x.la x.ln x.lc) := (cell_same (T7.out.1.block d7 (Nat.lt_of_lt_of_le S2.out.2.1.lt T6x.out.1.size))).trans ((S2.out.2.1.below T6x.out.1 S2.out.2.1.lt).cell rfl)
              obtain ⟨lg, loff, hla, hlg, hle⟩ := HX.out.2.1.2 (by have := HJ2.out.1; omega)
              have hbw : Below w.heap.size w Y2 := by
                have h1 := T7.out.1
                exact below_tr (S2.out.1.below T6x.out.1).2.2.1 h1
              have c4 : Y2.cell? ⟨lg, loff + j, none⟩ = some (.string s) := (cell_same (hbw.block lg hlg)).trans (hle j s HSS.out)
              rw [hla] at c3
              clear ra rb rc T5 T6 c2 hla hlg hle hbw HJ HWV HWC
              go_wp2_with (first
              | (with_reducible change wpList _ _ _ ({ dst := some 117, op := _, type := _, pos := _, after := _, guard := _ } :: _) _ _
                 refine Hid.out ?_)
              | fail)
              show wpList _ _ _ _ _ _
              refine wpList_bs rfl 36 (.tmp 116) rfl (.string s) _ rfl _ (bs9x s _) ?_
              obtain ⟨Y3, hY3⟩ : ∃ W, Y2.alloc (.cells [Value.string s].toArray 9) = W := ⟨_, rfl⟩
              obtain ⟨z2, hz2⟩ : ∃ r, Y2.heap.size = r := ⟨_, rfl⟩
              have T8 : Hid (Below Y2.heap.size Y2 Y3 ∧ TsR Y3 (some ⟨z2, 0, none⟩) 1 [s]) := ⟨by rw [← hY3]; exact below_al _ _, by rw [← hY3, ← hz2]; exact TsR.one _ _⟩
              rw [hY3, hz2]
              clear hY3 hz2 c3 c4
              go_wp2_with (first
              | (with_reducible change wpList _ _ _ ({ dst := some 118, op := _, type := _, pos := _, after := _, guard := _ } :: _) _ _
                 refine Hid.out ?_)
              | fail)
              show wpList _ _ _ _ _ _
              obtain ⟨lv, Y4, ra, rb, rc⟩ := run_appT Y3 X6.heap.size 36 _ j (x.ls.take j) (some ⟨z2, 0, none⟩) 1 1 [s] (T7.out.2.2.below T8.out.1) T8.out.2 (by have := HJ2.out.2; omega) (Nat.le_trans T7.out.1.size T8.out.1.size)
              refine wpList_ap rfl 36 36 _ _ rfl _ _ rfl rfl _ _ ra ?_
              have T9 : Hid (j + 1 ≤ x.ln ∧ j + 1 ≤ 6 ∧ Below X6.heap.size X6 Y4 ∧ OV X6.heap.size Y4 fv (j + 1) (fresh i (j + 1)) ∧ OT9 X6.heap.size Y4 lv (j + 1) (x.ls.take (j + 1))) := by
                have hbx := below_tr T7.out.1 T8.out.1
                have ho := T7.out.2.1.below T8.out.1
                have ht := T7.out.2.2.below T8.out.1
                refine ⟨HJ2.out.1, HJ2.out.2, hbx.grown rc hbx.size (fun g hg => (ht.blk hg).1), ho.same (fun g hg => rc.block g (ho.own hg).2 (fun e => ?_)), by rw [List.take_add_one, HSS.out]; exact rb⟩
                have h1 := e.symm
                rcases ho.1.2 with ⟨e2, _⟩ | ⟨g1, cap, cur, e2, _, h3, _⟩
                · rw [e2] at hg; cases hg
                · rw [e2] at hg
                  have e5 : g1 = g := Option.some.inj hg
                  rcases ht.2 with ⟨e4, _⟩ | ⟨g2, cap2, cur2, e4, _, h5, _⟩
                  · rw [e4] at h1; cases h1
                  · rw [e4] at h1
                    have e6 : g2 = g := Option.some.inj h1
                    rw [e5] at h3
                    rw [e6] at h5
                    rw [h3] at h5
                    cases h5
              clear ra rb rc T7 T8
              go_wp2
              refine ⟨⟨j + 1, by simp, T9.out⟩, ?_⟩
              have := HJ2.out.1; simp [intOf]; omega
            · have qa : ¬ ((j : Int) < (x.ln : Int) ∧ (j : Int) < 6) := fun h => hj ⟨by omega, by omega⟩
              have T10 : Hid (Below X6.heap.size X6 Y ∧ OV X6.heap.size Y u12 j (fresh i j) ∧ OT9 X6.heap.size Y u13 j (x.ls.take j) ∧ j ≤ 6 ∧ j ≤ x.ln) := ⟨HJ.out.2.2.1, HJ.out.2.2.2.1, HJ.out.2.2.2.2, HJ.out.2.1, HJ.out.1⟩
              obtain ⟨fa, fc, e1, _, _, _⟩ := HJ.out.2.2.2.1.read
              obtain ⟨la, lc, e2, _, _, _⟩ := HJ.out.2.2.2.2.read
              subst e1 e2
              clear hj HJ
              by_cases hla : (j : Int) < (x.ln : Int)
              · have qb : ¬ (j : Int) < 6 := fun h => qa ⟨hla, h⟩
                have hj0 : j ≠ 0 := by omega
                clear qa
                have qj : ((j : Int) == 0) = false := by simp; omega
                have HJ0 : Hid (0 < j) := by show 0 < j; omega
                clear hj0
                have HOK := hid_of (T5.out.1.2.2.2.1.ok (m := j) (at_ := k) (by have := HLT0.out.2; omega) HJ0.out T10.out.2.2.2.1 (by rw [T5.out.1.ids.2.2]; exact HKN.out))
                have HPA := hid_of (T5.out.1.2.2.2.1.add (m := j) (at_ := k) (ls := x.ls.take j) (by have := HLT0.out.2; omega) HJ0.out T10.out.2.2.2.1 (by rw [T5.out.1.ids.2.2]; exact HKN.out) (by rw [List.length_take, HX.out.2.1.1]; have := T10.out.2.2.2.2; omega))
                obtain ⟨AH, hAH⟩ := ahb G.ps (upAt ids k) (dnAt ids k)
                obtain ⟨PS, hPS⟩ : ∃ PS, addP G.ps (upAt ids k) (dnAt ids k) (fresh i j) (x.ls.take j) = PS := ⟨_, rfl⟩
                rw [hPS] at HPA
                have HAH : Hid ((AH = true ↔ ahdP G.ps (upAt ids k) (dnAt ids k)) ∧ addP G.ps (upAt ids k) (dnAt ids k) (fresh i j) (x.ls.take j) = PS) := ⟨hAH, hPS⟩
                clear hAH hPS
                go_wp2_with (first
                  | (with_reducible change wpList _ _ _ ({ dst := some 123, op := _, type := _, pos := _, after := _, guard := _ } :: _) _ _
                     refine wpList_load_want rfl 34 (.tmp 10) rfl d10 0 rfl CT _ T5.out.2.2.2.1.range0 Try.underlying34 rfl HUD.out.2.2.1 ?_)
                  | (with_reducible change wpList _ _ _ ({ dst := some 124, op := _, type := _, pos := _, after := _, guard := _ } :: _) _ _
                     refine wpList_load_want rfl 34 (.tmp 11) rfl d11 0 rfl DC _ T5.out.2.2.2.2.range0 Try.underlying34 rfl HUD.out.2.2.2.1 ?_)
                  | fail)
                refine (add_st T5.out.1.1 T5.out.1.2.2.2.1.iv (by have := HLT0.out.2; omega) (upAt ids k) (dnAt ids k) HUD.out.2.2.2.2.1 HUD.out.2.2.2.2.2 fa j fc (fresh i j) T10.out.2.1.of.2.1 (by have := T10.out.2.2.2.1; omega) la j lc (x.ls.take j) T10.out.2.2.1.of.2.1 AH HAH.out.1 0 (HOK.out.zero HAH.out.1) PS (by rw [if_pos rfl]; exact HAH.out.2) CT DC HUD.out.1 HUD.out.2.1).mono ?_
                rintro e V3 ⟨rfl, G', hga, hps⟩
                have S3 : Hid ((GAt V3 p G' ∧ (∀ k ∈ G'.bl p, w.heap.size ≤ k) ∧ Below w.heap.size w V3 ∧ Pl (i + 1) G'.ps (ids.take k ++ fresh i j ++ ids.drop k) (ts.take k ++ x.ls.take j ++ ts.drop k)) ∧ TsR V3 ta n ts ∧ VsR V3 (some ⟨gd, od, none⟩) n ids ∧ n ≤ tc ∧ n ≤ ic ∧ VsR V3 fa j (fresh i j) ∧ TsR V3 la j (x.ls.take j)) := by
                  have hL := T5.out.1
                  have hkp := hga.2.2
                  have ht := hL.2.2.2.2.1.same (w' := V3) (fun gg hgg => hkp.block gg (hL.2.2.2.2.1.blk hgg).2 (hL.2.2.2.2.2.2.1 gg hgg))
                  have hi2 := hL.2.2.2.2.2.1.same (w' := V3) (fun gg hgg => hkp.block gg (hL.2.2.2.2.2.1.own hgg).2 (hL.2.2.2.2.2.2.2 gg hgg))
                  have hGX : ∀ gg ∈ G.bl p, gg < X6.heap.size := fun gg hgg => Nat.lt_of_lt_of_le (S2.out.1.1.lt gg hgg) T6x.out.1.size
                  have hf := T10.out.2.1.same (w' := V3) (fun gg hgg => hkp.block gg (T10.out.2.1.own hgg).2 (fun hm => by have h1 := (T10.out.2.1.own hgg).1; have h2 := hGX gg hm; omega))
                  have hl := T10.out.2.2.1.same (w' := V3) (fun gg hgg => hkp.block gg (T10.out.2.2.1.blk hgg).2 (fun hm => by have h1 := (T10.out.2.2.1.blk hgg).1; have h2 := hGX gg hm; omega))
                  have hAt : At7 w p 0 G.ps Y G := ⟨hL.1, hL.2.1, rfl, hL.2.2.1⟩
                  have hA3 := hAt.after hga hps
                  obtain ⟨_, t1, t3⟩ := ht.of
                  obtain ⟨_, v1, v3⟩ := hi2.of
                  exact ⟨⟨hA3.1, hA3.2.1, hA3.2.2.2, by rw [hps]; exact HPA.out⟩, t1, v1, t3, v3, hf.of.2.1, hl.of.2.1⟩
                have HJ6 : Hid (j ≤ 6) := T10.out.2.2.2.1
                have HFL : Hid ((fresh i j).length = j) := fresh_len i j
                clear hga hps T5 T10 HOK HPA HAH HUD
                obtain ⟨fr, hfr⟩ : ∃ l, fresh i j = l := ⟨_, rfl⟩
                obtain ⟨lk, hlk⟩ : ∃ l, x.ls.take j = l := ⟨_, rfl⟩
                rw [hfr, hlk] at S3
                rw [hfr] at HFL
                clear hfr hlk
                go_wp2_with fail
                have HQ0t : Hid (k ≤ n ∧ n ≤ tc) := ⟨HKN.out, S3.out.2.2.2.1⟩
                have HQ0i : Hid (k ≤ n ∧ n ≤ ic) := ⟨HKN.out, S3.out.2.2.2.2.1⟩
                have HN1 : Hid (n + j ≤ 1000) := by show n + j ≤ 1000; have := HN150.out; have := HJ6.out; omega
                refine pl31 S3.out.2.1 HQ0t HN1 S3.out.2.2.2.2.2.2 ?_
                intro V4 r1 v1 v2 v3 hb4 ho4
                have S4 : Hid (Below V3.heap.size V3 V4 ∧ OT9 V3.heap.size V4 v3 (0 + k + j + (n - k)) ([] ++ ts.take k ++ lk ++ ts.drop k)) := ⟨hb4, ho4⟩
                clear hb4 ho4
                go_wp2_with fail
                refine pl32 (S3.out.2.2.1.below S4.out.1) HQ0i HN1 (S3.out.2.2.2.2.2.1.below S4.out.1) ?_
                intro V5 r2 v4 v5 v6 hb5 ho5
                have S5 : Hid (LP w p (i + 1) v3 v6 G' (ids.take k ++ fr ++ ids.drop k) (ts.take k ++ lk ++ ts.drop k) V5) := by
                  have hk2 := HKN.out
                  have hlen : (ids.take k ++ fr ++ ids.drop k).length = k + j + (n - k) := by
                    rw [List.length_append, List.length_append, List.length_take, List.length_drop, S3.out.2.2.1.1, HFL.out]
                    omega
                  have h4 := S4.out.2
                  rw [Nat.zero_add, List.nil_append] at h4 ho5
                  have hb := below_tr S4.out.1 hb5
                  have hs := S3.out.1.2.2.1.size
                  have hs4 := S4.out.1.size
                  refine ⟨S3.out.1.1.below hb, S3.out.1.2.1, below_tr S3.out.1.2.2.1 hb, S3.out.1.2.2.2, by rw [hlen]; exact (h4.below hb5).lo hs, by rw [hlen]; exact ho5.lo (Nat.le_trans hs hs4), fun gg hgg hm => ?_, fun gg hgg hm => ?_⟩
                  · have h1 := (h4.blk hgg).1
                    have h2 := S3.out.1.1.lt gg hm
                    omega
                  · have h1 := (ho5.own hgg).1
                    have h2 := S3.out.1.1.lt gg hm
                    omega
                clear hb5 ho5 S4 S3 HQ0t HQ0i HN1
                obtain ⟨ids2, hids2⟩ : ∃ l, ids.take k ++ fr ++ ids.drop k = l := ⟨_, rfl⟩
                obtain ⟨ts2, hts2⟩ : ∃ l, ts.take k ++ lk ++ ts.drop k = l := ⟨_, rfl⟩
                rw [hids2, hts2] at S5
                clear hids2 hts2
                obtain ⟨n2, ta2, tc2, rfl⟩ : ∃ n a c, v3 = .slice a n c := by
                  obtain ⟨a, c, e, _⟩ := S5.out.2.2.2.2.1.read
                  exact ⟨_, a, c, e⟩
                go_wp2_with fail
                refine (text_pl S5.out.1 S5.out.2.2.2.1).mono ?_
                rintro e Z1 ⟨xa, xn, xc, rfl, HX, HB⟩
                have HZ1 := hid_of (LP.below S5.out HB.out)
                have HX1 := HX
                clear HX HB
                go_wp2_with fail
                have HXR := hid_of HZ1.out.txt.2.1
                refine (texts_is Z1 xa ta2 xn n2 xc tc2 ts2 ts2 HX1.out HXR.out (by have h1 := HX1.out.1; unfold strs at h1; rw [List.length_map, HZ1.out.2.2.2.1.tlen] at h1; have h2 := HZ1.out.2.2.2.1.ilen; have h3 := HI25.out; omega) (by have h2 := HZ1.out.2.2.2.1.ilen; have h3 := HI25.out; have h4 := HZ1.out.txt.1.1; have h5 := HZ1.out.2.2.2.1.tlen; omega) true (by simp)).mono ?_
                rintro e Z2 ⟨rfl, hb⟩
                have HZ2 := hid_of (LP.below HZ1.out hb)
                clear hb HZ1 HX1 HXR
                go_wp2_with fail
                refine (conf_pl HZ2.out.1 HZ2.out.2.2.2.1).mono ?_
                rintro e Z3 ⟨rfl, hb⟩
                have HZ3 := hid_of (LP.below HZ2.out hb)
                clear hb HZ2
                have HLT : Hid (i < n0 ∧ i < 25) := HLT0.out
                go_wp2
                refine ⟨⟨i + 1, G', ids2, ts2, by simp, HLT.out.1, HLT.out.2, HZ3.out⟩, ?_⟩
                have := HLT.out.1; simp [intOf]; omega
              · clear qa
                by_cases hj0 : j = 0
                · subst hj0
                  have HNX : Hid (LP w p (i + 1) (.slice ta n tc) (.slice (some ⟨gd, od, none⟩) n ic) G ids ts Y) := LP.idle T5.out.1
                  have HLT : Hid (i < n0 ∧ i < 25) := HLT0.out
                  clear T5 T10
                  go_wp2
                  refine ⟨⟨i + 1, G, ids, ts, by simp, HLT.out.1, HLT.out.2, HNX.out⟩, ?_⟩
                  have := HLT.out.1; simp [intOf]; omega
                have qj : ((j : Int) == 0) = false := by simp; omega
                have HJ0 : Hid (0 < j) := by show 0 < j; omega
                clear hj0
                have HOK := hid_of (T5.out.1.2.2.2.1.ok (m := j) (at_ := k) (by have := HLT0.out.2; omega) HJ0.out T10.out.2.2.2.1 (by rw [T5.out.1.ids.2.2]; exact HKN.out))
                have HPA := hid_of (T5.out.1.2.2.2.1.add (m := j) (at_ := k) (ls := x.ls.take j) (by have := HLT0.out.2; omega) HJ0.out T10.out.2.2.2.1 (by rw [T5.out.1.ids.2.2]; exact HKN.out) (by rw [List.length_take, HX.out.2.1.1]; have := T10.out.2.2.2.2; omega))
                obtain ⟨AH, hAH⟩ := ahb G.ps (upAt ids k) (dnAt ids k)
                obtain ⟨PS, hPS⟩ : ∃ PS, addP G.ps (upAt ids k) (dnAt ids k) (fresh i j) (x.ls.take j) = PS := ⟨_, rfl⟩
                rw [hPS] at HPA
                have HAH : Hid ((AH = true ↔ ahdP G.ps (upAt ids k) (dnAt ids k)) ∧ addP G.ps (upAt ids k) (dnAt ids k) (fresh i j) (x.ls.take j) = PS) := ⟨hAH, hPS⟩
                clear hAH hPS
                go_wp2_with (first
                  | (with_reducible change wpList _ _ _ ({ dst := some 123, op := _, type := _, pos := _, after := _, guard := _ } :: _) _ _
                     refine wpList_load_want rfl 34 (.tmp 10) rfl d10 0 rfl CT _ T5.out.2.2.2.1.range0 Try.underlying34 rfl HUD.out.2.2.1 ?_)
                  | (with_reducible change wpList _ _ _ ({ dst := some 124, op := _, type := _, pos := _, after := _, guard := _ } :: _) _ _
                     refine wpList_load_want rfl 34 (.tmp 11) rfl d11 0 rfl DC _ T5.out.2.2.2.2.range0 Try.underlying34 rfl HUD.out.2.2.2.1 ?_)
                  | fail)
                refine (add_st T5.out.1.1 T5.out.1.2.2.2.1.iv (by have := HLT0.out.2; omega) (upAt ids k) (dnAt ids k) HUD.out.2.2.2.2.1 HUD.out.2.2.2.2.2 fa j fc (fresh i j) T10.out.2.1.of.2.1 (by have := T10.out.2.2.2.1; omega) la j lc (x.ls.take j) T10.out.2.2.1.of.2.1 AH HAH.out.1 0 (HOK.out.zero HAH.out.1) PS (by rw [if_pos rfl]; exact HAH.out.2) CT DC HUD.out.1 HUD.out.2.1).mono ?_
                rintro e V3 ⟨rfl, G', hga, hps⟩
                have S3 : Hid ((GAt V3 p G' ∧ (∀ k ∈ G'.bl p, w.heap.size ≤ k) ∧ Below w.heap.size w V3 ∧ Pl (i + 1) G'.ps (ids.take k ++ fresh i j ++ ids.drop k) (ts.take k ++ x.ls.take j ++ ts.drop k)) ∧ TsR V3 ta n ts ∧ VsR V3 (some ⟨gd, od, none⟩) n ids ∧ n ≤ tc ∧ n ≤ ic ∧ VsR V3 fa j (fresh i j) ∧ TsR V3 la j (x.ls.take j)) := by
                  have hL := T5.out.1
                  have hkp := hga.2.2
                  have ht := hL.2.2.2.2.1.same (w' := V3) (fun gg hgg => hkp.block gg (hL.2.2.2.2.1.blk hgg).2 (hL.2.2.2.2.2.2.1 gg hgg))
                  have hi2 := hL.2.2.2.2.2.1.same (w' := V3) (fun gg hgg => hkp.block gg (hL.2.2.2.2.2.1.own hgg).2 (hL.2.2.2.2.2.2.2 gg hgg))
                  have hGX : ∀ gg ∈ G.bl p, gg < X6.heap.size := fun gg hgg => Nat.lt_of_lt_of_le (S2.out.1.1.lt gg hgg) T6x.out.1.size
                  have hf := T10.out.2.1.same (w' := V3) (fun gg hgg => hkp.block gg (T10.out.2.1.own hgg).2 (fun hm => by have h1 := (T10.out.2.1.own hgg).1; have h2 := hGX gg hm; omega))
                  have hl := T10.out.2.2.1.same (w' := V3) (fun gg hgg => hkp.block gg (T10.out.2.2.1.blk hgg).2 (fun hm => by have h1 := (T10.out.2.2.1.blk hgg).1; have h2 := hGX gg hm; omega))
                  have hAt : At7 w p 0 G.ps Y G := ⟨hL.1, hL.2.1, rfl, hL.2.2.1⟩
                  have hA3 := hAt.after hga hps
                  obtain ⟨_, t1, t3⟩ := ht.of
                  obtain ⟨_, v1, v3⟩ := hi2.of
                  exact ⟨⟨hA3.1, hA3.2.1, hA3.2.2.2, by rw [hps]; exact HPA.out⟩, t1, v1, t3, v3, hf.of.2.1, hl.of.2.1⟩
                have HJ6 : Hid (j ≤ 6) := T10.out.2.2.2.1
                have HFL : Hid ((fresh i j).length = j) := fresh_len i j
                clear hga hps T5 T10 HOK HPA HAH HUD
                obtain ⟨fr, hfr⟩ : ∃ l, fresh i j = l := ⟨_, rfl⟩
                obtain ⟨lk, hlk⟩ : ∃ l, x.ls.take j = l := ⟨_, rfl⟩
                rw [hfr, hlk] at S3
                rw [hfr] at HFL
                clear hfr hlk
                go_wp2_with fail
                have HQ0t : Hid (k ≤ n ∧ n ≤ tc) := ⟨HKN.out, S3.out.2.2.2.1⟩
                have HQ0i : Hid (k ≤ n ∧ n ≤ ic) := ⟨HKN.out, S3.out.2.2.2.2.1⟩
                have HN1 : Hid (n + j ≤ 1000) := by show n + j ≤ 1000; have := HN150.out; have := HJ6.out; omega
                refine pl31 S3.out.2.1 HQ0t HN1 S3.out.2.2.2.2.2.2 ?_
                intro V4 r1 v1 v2 v3 hb4 ho4
                have S4 : Hid (Below V3.heap.size V3 V4 ∧ OT9 V3.heap.size V4 v3 (0 + k + j + (n - k)) ([] ++ ts.take k ++ lk ++ ts.drop k)) := ⟨hb4, ho4⟩
                clear hb4 ho4
                go_wp2_with fail
                refine pl32 (S3.out.2.2.1.below S4.out.1) HQ0i HN1 (S3.out.2.2.2.2.2.1.below S4.out.1) ?_
                intro V5 r2 v4 v5 v6 hb5 ho5
                have S5 : Hid (LP w p (i + 1) v3 v6 G' (ids.take k ++ fr ++ ids.drop k) (ts.take k ++ lk ++ ts.drop k) V5) := by
                  have hk2 := HKN.out
                  have hlen : (ids.take k ++ fr ++ ids.drop k).length = k + j + (n - k) := by
                    rw [List.length_append, List.length_append, List.length_take, List.length_drop, S3.out.2.2.1.1, HFL.out]
                    omega
                  have h4 := S4.out.2
                  rw [Nat.zero_add, List.nil_append] at h4 ho5
                  have hb := below_tr S4.out.1 hb5
                  have hs := S3.out.1.2.2.1.size
                  have hs4 := S4.out.1.size
                  refine ⟨S3.out.1.1.below hb, S3.out.1.2.1, below_tr S3.out.1.2.2.1 hb, S3.out.1.2.2.2, by rw [hlen]; exact (h4.below hb5).lo hs, by rw [hlen]; exact ho5.lo (Nat.le_trans hs hs4), fun gg hgg hm => ?_, fun gg hgg hm => ?_⟩
                  · have h1 := (h4.blk hgg).1
                    have h2 := S3.out.1.1.lt gg hm
                    omega
                  · have h1 := (ho5.own hgg).1
                    have h2 := S3.out.1.1.lt gg hm
                    omega
                clear hb5 ho5 S4 S3 HQ0t HQ0i HN1
                obtain ⟨ids2, hids2⟩ : ∃ l, ids.take k ++ fr ++ ids.drop k = l := ⟨_, rfl⟩
                obtain ⟨ts2, hts2⟩ : ∃ l, ts.take k ++ lk ++ ts.drop k = l := ⟨_, rfl⟩
                rw [hids2, hts2] at S5
                clear hids2 hts2
                obtain ⟨n2, ta2, tc2, rfl⟩ : ∃ n a c, v3 = .slice a n c := by
                  obtain ⟨a, c, e, _⟩ := S5.out.2.2.2.2.1.read
                  exact ⟨_, a, c, e⟩
                go_wp2_with fail
                refine (text_pl S5.out.1 S5.out.2.2.2.1).mono ?_
                rintro e Z1 ⟨xa, xn, xc, rfl, HX, HB⟩
                have HZ1 := hid_of (LP.below S5.out HB.out)
                have HX1 := HX
                clear HX HB
                go_wp2_with fail
                have HXR := hid_of HZ1.out.txt.2.1
                refine (texts_is Z1 xa ta2 xn n2 xc tc2 ts2 ts2 HX1.out HXR.out (by have h1 := HX1.out.1; unfold strs at h1; rw [List.length_map, HZ1.out.2.2.2.1.tlen] at h1; have h2 := HZ1.out.2.2.2.1.ilen; have h3 := HI25.out; omega) (by have h2 := HZ1.out.2.2.2.1.ilen; have h3 := HI25.out; have h4 := HZ1.out.txt.1.1; have h5 := HZ1.out.2.2.2.1.tlen; omega) true (by simp)).mono ?_
                rintro e Z2 ⟨rfl, hb⟩
                have HZ2 := hid_of (LP.below HZ1.out hb)
                clear hb HZ1 HX1 HXR
                go_wp2_with fail
                refine (conf_pl HZ2.out.1 HZ2.out.2.2.2.1).mono ?_
                rintro e Z3 ⟨rfl, hb⟩
                have HZ3 := hid_of (LP.below HZ2.out hb)
                clear hb HZ2
                have HLT : Hid (i < n0 ∧ i < 25) := HLT0.out
                go_wp2
                refine ⟨⟨i + 1, G', ids2, ts2, by simp, HLT.out.1, HLT.out.2, HZ3.out⟩, ?_⟩
                have := HLT.out.1; simp [intOf]; omega
        by_cases hkl : k < n
        · obtain ⟨k1, hk1⟩ : ∃ k1, k = k1 + 1 := ⟨k - 1, by omega⟩
          have qk1 : (k : Int) - 1 = (k1 : Int) := by omega
          have qk2 : (k1 : Int) < (n : Int) := by have := HKN.out; omega
          have qk3 : (0 : Int) < (k : Int) := by omega
          obtain ⟨vu, hvu⟩ : ∃ v, ids[k1]? = some v := ⟨_, List.getElem?_eq_getElem (by rw [S2.out.1.ids.2.2]; have := HKN.out; omega)⟩
          have hvuk := S2.out.1.ids.1.2.1 vu (List.mem_of_getElem? hvu)
          obtain ⟨UC, hUC⟩ : ∃ C, vu.cells = C := ⟨_, rfl⟩
          have heu : upAt ids k = vu := by
            unfold upAt
            rw [if_neg (by omega), show k - 1 = k1 by omega, List.getD_eq_getElem?_getD, hvu]
            rfl
          have HU : Hid (upAt ids k = vu ∧ Vk vu ∧ vu.cells = UC ∧ UC.length = 33 ∧ (∀ v ∈ UC, v.oneCell' = true) ∧ (Try.prog.info? 34).map (·.size) = some UC.length) := ⟨heu, hvuk, hUC, by rw [← hUC]; exact Vx.len hvuk.1, by rw [← hUC]; exact Vx.one _, by rw [← hUC]; exact info34 hvuk.1⟩
          have HRU : Hid (X4.rangeAt gd (od + k1 * 33) UC) := by show World.rangeAt _ _ _ _; rw [← hUC]; exact rangeAt_same (HID.out.2 k1 vu hvu) (T4.out.1.block gd HID.out.1)
          clear hvu hvuk hUC heu hk1
          go_wp2_with (first
            | (with_reducible change wpList _ _ _ ({ dst := some 85, op := _, type := _, pos := _, after := _, guard := _ } :: _) _ _
               refine wpList_load_want rfl 34 (.tmp 84) rfl gd (od + k1 * 33) rfl UC _ HRU.out Try.underlying34 rfl HU.out.2.2.2.2.2 ?_)
            | (with_reducible change wpList _ _ _ ({ dst := none, op := Op.store 34 _ _, type := _, pos := _, after := _, guard := _ } :: _) _ _
               refine Hid.out ?_)
            | fail)
          show wpList _ _ _ _ _ _
          refine wpList_store_blk rfl 34 (.tmp 10) (.tmp 85) rfl d10 0 34 CT UC rfl rfl T4.out.2.1 (by rw [HU.out.2.2.2.1, HT.out.2.1]; exact Nat.le_refl _) HU.out.2.2.2.2.2 HU.out.2.2.2.2.1 ?_
          intro X5 r1 r2
          have T5x : Hid (Below U2.heap.size U2 X5 ∧ Blk X5 d10 34 UC ∧ Blk X5 d11 34 CB) := by
            have hg := r2.out
            refine ⟨T4.out.1.grown hg T4.out.1.size (fun k hk => by have e := Option.some.inj hk; have := HS10.out; omega), blk_all r1.out (by rw [HU.out.2.2.2.1, HT.out.2.1]), T4.out.2.2.kept hg (fun e => by have e := Option.some.inj e; have := HS10.out.2; omega)⟩
          clear r1 r2 T4
          clear HRU qk1 qk2 qk3
          have qkn : (k : Int) < (n : Int) := by omega
          obtain ⟨vd, hvd⟩ : ∃ v, ids[k]? = some v := ⟨_, List.getElem?_eq_getElem (by rw [S2.out.1.ids.2.2]; omega)⟩
          have hvdk := S2.out.1.ids.1.2.1 vd (List.mem_of_getElem? hvd)
          obtain ⟨DC, hDC⟩ : ∃ C, vd.cells = C := ⟨_, rfl⟩
          have hed : dnAt ids k = vd := by
            unfold dnAt
            rw [if_pos (by rw [S2.out.1.ids.2.2]; omega), List.getD_eq_getElem?_getD, hvd]
            rfl
          have HD : Hid (dnAt ids k = vd ∧ Vk vd ∧ vd.cells = DC ∧ DC.length = 33 ∧ (∀ v ∈ DC, v.oneCell' = true) ∧ (Try.prog.info? 34).map (·.size) = some DC.length) := ⟨hed, hvdk, hDC, by rw [← hDC]; exact Vx.len hvdk.1, by rw [← hDC]; exact Vx.one _, by rw [← hDC]; exact info34 hvdk.1⟩
          have HRD : Hid (X5.rangeAt gd (od + k * 33) DC) := by show World.rangeAt _ _ _ _; rw [← hDC]; exact rangeAt_same (HID.out.2 k vd hvd) (T5x.out.1.block gd HID.out.1)
          clear hvd hvdk hDC hed
          clear hn0 hk0 hkl
          go_wp2_with (first
            | (with_reducible change wpList _ _ _ ({ dst := some 93, op := _, type := _, pos := _, after := _, guard := _ } :: _) _ _
               refine wpList_load_want rfl 34 (.tmp 92) rfl gd (od + k * 33) rfl DC _ HRD.out Try.underlying34 rfl HD.out.2.2.2.2.2 ?_)
            | (with_reducible change wpList _ _ _ ({ dst := none, op := Op.store 34 _ _, type := _, pos := _, after := _, guard := _ } :: _) _ _
               refine Hid.out ?_)
            | fail)
          show wpList _ _ _ _ _ _
          refine wpList_store_blk rfl 34 (.tmp 11) (.tmp 93) rfl d11 0 34 CB DC rfl rfl T5x.out.2.2 (by rw [HD.out.2.2.2.1, HB.out.2.1]; exact Nat.le_refl _) HD.out.2.2.2.2.2 HD.out.2.2.2.2.1 ?_
          intro X6 r1 r2
          have T6x : Hid (Below U2.heap.size U2 X6 ∧ Blk X6 d10 34 UC ∧ Blk X6 d11 34 DC) := by
            have hg := r2.out
            refine ⟨T5x.out.1.grown hg T5x.out.1.size (fun k hk => by have e := Option.some.inj hk; have := HS10.out; omega), T5x.out.2.1.kept hg (fun e => by have e := Option.some.inj e; have := HS10.out.2; omega), blk_all r1.out (by rw [HD.out.2.2.2.1, HB.out.2.1])⟩
          clear r1 r2 T5x
          clear HRD qkn
          have HUD : Hid ((upAt ids k).cells = UC ∧ (dnAt ids k).cells = DC ∧ (Try.prog.info? 34).map (·.size) = some UC.length ∧ (Try.prog.info? 34).map (·.size) = some DC.length ∧ Vk (upAt ids k) ∧ Vk (dnAt ids k)) := ⟨by rw [HU.out.1]; exact HU.out.2.2.1, by rw [HD.out.1]; exact HD.out.2.2.1, HU.out.2.2.2.2.2, HD.out.2.2.2.2.2, by rw [HU.out.1]; exact HU.out.2.1, by rw [HD.out.1]; exact HD.out.2.1⟩
          clear HU HD
          go_wp2
          go_loopw [14, 12, 13] (fun u y z wr => ∃ j : Nat, u = iv (j : Int) ∧ Hid (j ≤ x.ln ∧ j ≤ 6 ∧ Below X6.heap.size X6 wr ∧ OV X6.heap.size wr y j (fresh i j) ∧ OT9 X6.heap.size wr z j (x.ls.take j))) (fun u _ _ _ => x.ln - (intOf u).toNat)
          case atStart => exact ⟨0, rfl, Nat.zero_le _, Nat.zero_le _, Below.refl _ _, OV.nil _ _, OT9.nil _ _⟩
          case round =>
            obtain ⟨Y, hY⟩ : ∃ V, V = wr := ⟨_, rfl⟩
            subst hY
            obtain ⟨j, rfl, HJ⟩ := hrel
            have T5 : Hid (LP w p i (.slice ta n tc) (.slice (some ⟨gd, od, none⟩) n ic) G ids ts Y ∧ Blk Y d7 54 x.cells ∧ Blk Y d9 32 YC ∧ Blk Y d10 34 UC ∧ Blk Y d11 34 DC) := by
              have hb := HJ.out.2.2.1
              have hb2 := below_tr T6x.out.1 hb
              exact ⟨S2.out.1.below hb2, S2.out.2.1.below hb2 S2.out.2.1.lt, S2.out.2.2.1.below hb2 S2.out.2.2.1.lt, T6x.out.2.1.below hb T6x.out.2.1.lt, T6x.out.2.2.below hb T6x.out.2.2.lt⟩
            have c2 : Y.cell? ⟨d7, 2, none⟩ = some (.slice x.la x.ln x.lc) := T5.out.2.1.cell rfl
            have q7 : (x.ln : Int) ≤ 140737488355328 := by have := HX.out.2.2.2.2.1; omega
            have q8 : (j : Int) ≤ 6 := by have := HJ.out.2.1; omega
            by_cases hj : j < x.ln ∧ j < 6
            · have qa : (j : Int) < (x.ln : Int) := by have := hj.1; omega
              have qb : (j : Int) < 6 := by have := hj.2; omega
              have HJ2 : Hid (j < x.ln ∧ j < 6) := hj
              have HIB : Hid (i < 100) := by show i < 100; have := HLT0.out.2; omega
              have hw := hb_k (i := i) j (by omega)
              have HWV := hid_of hw
              obtain ⟨WC, hWC⟩ : ∃ C, (⟨hb i, (j : Int)⟩ : Vx).cells = C := ⟨_, rfl⟩
              have HWC : Hid (Try.prog.built 34 [(0, .agg YC.toArray), (1, iv (j : Int))] = some WC.toArray ∧ (⟨hb i, (j : Int)⟩ : Vx).cells = WC) := ⟨by rw [← HYC.out.1, ← hWC]; exact built34h HIB.out _, hWC⟩
              have hbj := HWC.out.1
              obtain ⟨s, hs⟩ : ∃ s, x.ls[j]? = some s := ⟨_, List.getElem?_eq_getElem (by rw [HX.out.2.1.1]; exact hj.1)⟩
              have HSS := hid_of hs
              clear hj hw hWC hs
              go_wp2_with (first
              | (with_reducible change wpList _ _ _ ({ dst := some 106, op := _, type := _, pos := _, after := _, guard := _ } :: _) _ _
                 refine wpList_load_want rfl 32 (.tmp 9) rfl d9 0 rfl YC _ T5.out.2.2.1.range0 Try.underlying32 rfl HYC.out.2.2.2 ?_)
              | (with_reducible change wpList _ _ _ ({ dst := some 108, op := _, type := _, pos := _, after := _, guard := _ } :: _) _ _
                 refine wpList_built rfl 34 _ rfl WC.toArray (by rw [← hbj]; first | rfl | (simp; done) | (simp; rfl)) ?_)
              | (with_reducible change wpList _ _ _ ({ dst := some 109, op := _, type := _, pos := _, after := _, guard := _ } :: _) _ _
                 refine Hid.out ?_)
              | fail)
              show wpList _ _ _ _ _ _
              refine wpList_bslice1 rfl (.tmp 108) rfl ⟨hb i, (j : Int)⟩ HWV.out.1 (by rw [HWC.out.2]; rfl) ?_
              obtain ⟨Y1, hY1⟩ : ∃ W, Y.alloc (.cells (⟨hb i, (j : Int)⟩ : Vx).cells.toArray 34) = W := ⟨_, rfl⟩
              obtain ⟨z1, hz1⟩ : ∃ r, Y.heap.size = r := ⟨_, rfl⟩
              have T6 : Hid (Below Y.heap.size Y Y1 ∧ VsR Y1 (some ⟨z1, 0, none⟩) 1 [⟨hb i, (j : Int)⟩]) := ⟨by rw [← hY1]; exact below_al _ _, by rw [← hY1, ← hz1]; exact VsR.one Y _ HWV.out⟩
              rw [hY1, hz1]
              clear hY1 hz1 hbj
              go_wp2_with (first
              | (with_reducible change wpList _ _ _ ({ dst := some 110, op := _, type := _, pos := _, after := _, guard := _ } :: _) _ _
                 refine Hid.out ?_)
              | fail)
              show wpList _ _ _ _ _ _
              obtain ⟨fv, Y2, ra, rb, rc, _⟩ := run_app Y1 X6.heap.size 35 _ j (fresh i j) (some ⟨z1, 0, none⟩) 1 1 [⟨hb i, (j : Int)⟩] (HJ.out.2.2.2.1.below T6.out.1) T6.out.2 (by have := HJ2.out.2; omega) (Nat.le_trans HJ.out.2.2.1.size T6.out.1.size)
              refine wpList_ap rfl 35 35 _ _ rfl _ _ rfl rfl _ _ ra ?_
              have T7 : Hid (Below X6.heap.size X6 Y2 ∧ OV X6.heap.size Y2 fv (j + 1) (fresh i (j + 1)) ∧ OT9 X6.heap.size Y2 u13 j (x.ls.take j)) := by
                have hbx := below_tr HJ.out.2.2.1 T6.out.1
                have ho := HJ.out.2.2.2.1.below T6.out.1
                have ht := HJ.out.2.2.2.2.below T6.out.1
                refine ⟨hbx.grown rc hbx.size (fun g hg => (ho.own hg).1), by rw [fresh_succ]; exact rb, ht.same (fun g hg => rc.block g (ht.blk hg).2 (fun e => ?_))⟩
                have h1 := e.symm
                rcases ho.1.2 with ⟨e2, _⟩ | ⟨g1, cap, cur, e2, _, h3, _⟩
                · rw [e2] at h1; cases h1
                · rw [e2] at h1
                  have e5 : g1 = g := Option.some.inj h1
                  rcases ht.2 with ⟨e4, _⟩ | ⟨g2, cap2, cur2, e4, _, h5, _⟩
                  · rw [e4] at hg; cases hg
                  · rw [e4] at hg
                    have e6 : g2 = g := Option.some.inj hg
                    rw [e5] at h3
                    rw [e6] at h5
                    rw [h3] at h5
                    cases h5
              have c3 : Y2.cell? ⟨d7, 2, none⟩ = some (.slice x.la x.ln x.lc) := (cell_same (T7.out.1.block d7 (Nat.lt_of_lt_of_le S2.out.2.1.lt T6x.out.1.size))).trans ((S2.out.2.1.below T6x.out.1 S2.out.2.1.lt).cell rfl)
              obtain ⟨lg, loff, hla, hlg, hle⟩ := HX.out.2.1.2 (by have := HJ2.out.1; omega)
              have hbw : Below w.heap.size w Y2 := by
                have h1 := T7.out.1
                exact below_tr (S2.out.1.below T6x.out.1).2.2.1 h1
              have c4 : Y2.cell? ⟨lg, loff + j, none⟩ = some (.string s) := (cell_same (hbw.block lg hlg)).trans (hle j s HSS.out)
              rw [hla] at c3
              clear ra rb rc T5 T6 c2 hla hlg hle hbw HJ HWV HWC
              go_wp2_with (first
              | (with_reducible change wpList _ _ _ ({ dst := some 117, op := _, type := _, pos := _, after := _, guard := _ } :: _) _ _
                 refine Hid.out ?_)
              | fail)
              show wpList _ _ _ _ _ _
              refine wpList_bs rfl 36 (.tmp 116) rfl (.string s) _ rfl _ (bs9x s _) ?_
              obtain ⟨Y3, hY3⟩ : ∃ W, Y2.alloc (.cells [Value.string s].toArray 9) = W := ⟨_, rfl⟩
              obtain ⟨z2, hz2⟩ : ∃ r, Y2.heap.size = r := ⟨_, rfl⟩
              have T8 : Hid (Below Y2.heap.size Y2 Y3 ∧ TsR Y3 (some ⟨z2, 0, none⟩) 1 [s]) := ⟨by rw [← hY3]; exact below_al _ _, by rw [← hY3, ← hz2]; exact TsR.one _ _⟩
              rw [hY3, hz2]
              clear hY3 hz2 c3 c4
              go_wp2_with (first
              | (with_reducible change wpList _ _ _ ({ dst := some 118, op := _, type := _, pos := _, after := _, guard := _ } :: _) _ _
                 refine Hid.out ?_)
              | fail)
              show wpList _ _ _ _ _ _
              obtain ⟨lv, Y4, ra, rb, rc⟩ := run_appT Y3 X6.heap.size 36 _ j (x.ls.take j) (some ⟨z2, 0, none⟩) 1 1 [s] (T7.out.2.2.below T8.out.1) T8.out.2 (by have := HJ2.out.2; omega) (Nat.le_trans T7.out.1.size T8.out.1.size)
              refine wpList_ap rfl 36 36 _ _ rfl _ _ rfl rfl _ _ ra ?_
              have T9 : Hid (j + 1 ≤ x.ln ∧ j + 1 ≤ 6 ∧ Below X6.heap.size X6 Y4 ∧ OV X6.heap.size Y4 fv (j + 1) (fresh i (j + 1)) ∧ OT9 X6.heap.size Y4 lv (j + 1) (x.ls.take (j + 1))) := by
                have hbx := below_tr T7.out.1 T8.out.1
                have ho := T7.out.2.1.below T8.out.1
                have ht := T7.out.2.2.below T8.out.1
                refine ⟨HJ2.out.1, HJ2.out.2, hbx.grown rc hbx.size (fun g hg => (ht.blk hg).1), ho.same (fun g hg => rc.block g (ho.own hg).2 (fun e => ?_)), by rw [List.take_add_one, HSS.out]; exact rb⟩
                have h1 := e.symm
                rcases ho.1.2 with ⟨e2, _⟩ | ⟨g1, cap, cur, e2, _, h3, _⟩
                · rw [e2] at hg; cases hg
                · rw [e2] at hg
                  have e5 : g1 = g := Option.some.inj hg
                  rcases ht.2 with ⟨e4, _⟩ | ⟨g2, cap2, cur2, e4, _, h5, _⟩
                  · rw [e4] at h1; cases h1
                  · rw [e4] at h1
                    have e6 : g2 = g := Option.some.inj h1
                    rw [e5] at h3
                    rw [e6] at h5
                    rw [h3] at h5
                    cases h5
              clear ra rb rc T7 T8
              go_wp2
              refine ⟨⟨j + 1, by simp, T9.out⟩, ?_⟩
              have := HJ2.out.1; simp [intOf]; omega
            · have qa : ¬ ((j : Int) < (x.ln : Int) ∧ (j : Int) < 6) := fun h => hj ⟨by omega, by omega⟩
              have T10 : Hid (Below X6.heap.size X6 Y ∧ OV X6.heap.size Y u12 j (fresh i j) ∧ OT9 X6.heap.size Y u13 j (x.ls.take j) ∧ j ≤ 6 ∧ j ≤ x.ln) := ⟨HJ.out.2.2.1, HJ.out.2.2.2.1, HJ.out.2.2.2.2, HJ.out.2.1, HJ.out.1⟩
              obtain ⟨fa, fc, e1, _, _, _⟩ := HJ.out.2.2.2.1.read
              obtain ⟨la, lc, e2, _, _, _⟩ := HJ.out.2.2.2.2.read
              subst e1 e2
              clear hj HJ
              by_cases hla : (j : Int) < (x.ln : Int)
              · have qb : ¬ (j : Int) < 6 := fun h => qa ⟨hla, h⟩
                have hj0 : j ≠ 0 := by omega
                clear qa
                have qj : ((j : Int) == 0) = false := by simp; omega
                have HJ0 : Hid (0 < j) := by show 0 < j; omega
                clear hj0
                have HOK := hid_of (T5.out.1.2.2.2.1.ok (m := j) (at_ := k) (by have := HLT0.out.2; omega) HJ0.out T10.out.2.2.2.1 (by rw [T5.out.1.ids.2.2]; exact HKN.out))
                have HPA := hid_of (T5.out.1.2.2.2.1.add (m := j) (at_ := k) (ls := x.ls.take j) (by have := HLT0.out.2; omega) HJ0.out T10.out.2.2.2.1 (by rw [T5.out.1.ids.2.2]; exact HKN.out) (by rw [List.length_take, HX.out.2.1.1]; have := T10.out.2.2.2.2; omega))
                obtain ⟨AH, hAH⟩ := ahb G.ps (upAt ids k) (dnAt ids k)
                obtain ⟨PS, hPS⟩ : ∃ PS, addP G.ps (upAt ids k) (dnAt ids k) (fresh i j) (x.ls.take j) = PS := ⟨_, rfl⟩
                rw [hPS] at HPA
                have HAH : Hid ((AH = true ↔ ahdP G.ps (upAt ids k) (dnAt ids k)) ∧ addP G.ps (upAt ids k) (dnAt ids k) (fresh i j) (x.ls.take j) = PS) := ⟨hAH, hPS⟩
                clear hAH hPS
                go_wp2_with (first
                  | (with_reducible change wpList _ _ _ ({ dst := some 123, op := _, type := _, pos := _, after := _, guard := _ } :: _) _ _
                     refine wpList_load_want rfl 34 (.tmp 10) rfl d10 0 rfl UC _ T5.out.2.2.2.1.range0 Try.underlying34 rfl HUD.out.2.2.1 ?_)
                  | (with_reducible change wpList _ _ _ ({ dst := some 124, op := _, type := _, pos := _, after := _, guard := _ } :: _) _ _
                     refine wpList_load_want rfl 34 (.tmp 11) rfl d11 0 rfl DC _ T5.out.2.2.2.2.range0 Try.underlying34 rfl HUD.out.2.2.2.1 ?_)
                  | fail)
                refine (add_st T5.out.1.1 T5.out.1.2.2.2.1.iv (by have := HLT0.out.2; omega) (upAt ids k) (dnAt ids k) HUD.out.2.2.2.2.1 HUD.out.2.2.2.2.2 fa j fc (fresh i j) T10.out.2.1.of.2.1 (by have := T10.out.2.2.2.1; omega) la j lc (x.ls.take j) T10.out.2.2.1.of.2.1 AH HAH.out.1 0 (HOK.out.zero HAH.out.1) PS (by rw [if_pos rfl]; exact HAH.out.2) UC DC HUD.out.1 HUD.out.2.1).mono ?_
                rintro e V3 ⟨rfl, G', hga, hps⟩
                have S3 : Hid ((GAt V3 p G' ∧ (∀ k ∈ G'.bl p, w.heap.size ≤ k) ∧ Below w.heap.size w V3 ∧ Pl (i + 1) G'.ps (ids.take k ++ fresh i j ++ ids.drop k) (ts.take k ++ x.ls.take j ++ ts.drop k)) ∧ TsR V3 ta n ts ∧ VsR V3 (some ⟨gd, od, none⟩) n ids ∧ n ≤ tc ∧ n ≤ ic ∧ VsR V3 fa j (fresh i j) ∧ TsR V3 la j (x.ls.take j)) := by
                  have hL := T5.out.1
                  have hkp := hga.2.2
                  have ht := hL.2.2.2.2.1.same (w' := V3) (fun gg hgg => hkp.block gg (hL.2.2.2.2.1.blk hgg).2 (hL.2.2.2.2.2.2.1 gg hgg))
                  have hi2 := hL.2.2.2.2.2.1.same (w' := V3) (fun gg hgg => hkp.block gg (hL.2.2.2.2.2.1.own hgg).2 (hL.2.2.2.2.2.2.2 gg hgg))
                  have hGX : ∀ gg ∈ G.bl p, gg < X6.heap.size := fun gg hgg => Nat.lt_of_lt_of_le (S2.out.1.1.lt gg hgg) T6x.out.1.size
                  have hf := T10.out.2.1.same (w' := V3) (fun gg hgg => hkp.block gg (T10.out.2.1.own hgg).2 (fun hm => by have h1 := (T10.out.2.1.own hgg).1; have h2 := hGX gg hm; omega))
                  have hl := T10.out.2.2.1.same (w' := V3) (fun gg hgg => hkp.block gg (T10.out.2.2.1.blk hgg).2 (fun hm => by have h1 := (T10.out.2.2.1.blk hgg).1; have h2 := hGX gg hm; omega))
                  have hAt : At7 w p 0 G.ps Y G := ⟨hL.1, hL.2.1, rfl, hL.2.2.1⟩
                  have hA3 := hAt.after hga hps
                  obtain ⟨_, t1, t3⟩ := ht.of
                  obtain ⟨_, v1, v3⟩ := hi2.of
                  exact ⟨⟨hA3.1, hA3.2.1, hA3.2.2.2, by rw [hps]; exact HPA.out⟩, t1, v1, t3, v3, hf.of.2.1, hl.of.2.1⟩
                have HJ6 : Hid (j ≤ 6) := T10.out.2.2.2.1
                have HFL : Hid ((fresh i j).length = j) := fresh_len i j
                clear hga hps T5 T10 HOK HPA HAH HUD
                obtain ⟨fr, hfr⟩ : ∃ l, fresh i j = l := ⟨_, rfl⟩
                obtain ⟨lk, hlk⟩ : ∃ l, x.ls.take j = l := ⟨_, rfl⟩
                rw [hfr, hlk] at S3
                rw [hfr] at HFL
                clear hfr hlk
                go_wp2_with fail
                have HQ0t : Hid (k ≤ n ∧ n ≤ tc) := ⟨HKN.out, S3.out.2.2.2.1⟩
                have HQ0i : Hid (k ≤ n ∧ n ≤ ic) := ⟨HKN.out, S3.out.2.2.2.2.1⟩
                have HN1 : Hid (n + j ≤ 1000) := by show n + j ≤ 1000; have := HN150.out; have := HJ6.out; omega
                refine pl31 S3.out.2.1 HQ0t HN1 S3.out.2.2.2.2.2.2 ?_
                intro V4 r1 v1 v2 v3 hb4 ho4
                have S4 : Hid (Below V3.heap.size V3 V4 ∧ OT9 V3.heap.size V4 v3 (0 + k + j + (n - k)) ([] ++ ts.take k ++ lk ++ ts.drop k)) := ⟨hb4, ho4⟩
                clear hb4 ho4
                go_wp2_with fail
                refine pl32 (S3.out.2.2.1.below S4.out.1) HQ0i HN1 (S3.out.2.2.2.2.2.1.below S4.out.1) ?_
                intro V5 r2 v4 v5 v6 hb5 ho5
                have S5 : Hid (LP w p (i + 1) v3 v6 G' (ids.take k ++ fr ++ ids.drop k) (ts.take k ++ lk ++ ts.drop k) V5) := by
                  have hk2 := HKN.out
                  have hlen : (ids.take k ++ fr ++ ids.drop k).length = k + j + (n - k) := by
                    rw [List.length_append, List.length_append, List.length_take, List.length_drop, S3.out.2.2.1.1, HFL.out]
                    omega
                  have h4 := S4.out.2
                  rw [Nat.zero_add, List.nil_append] at h4 ho5
                  have hb := below_tr S4.out.1 hb5
                  have hs := S3.out.1.2.2.1.size
                  have hs4 := S4.out.1.size
                  refine ⟨S3.out.1.1.below hb, S3.out.1.2.1, below_tr S3.out.1.2.2.1 hb, S3.out.1.2.2.2, by rw [hlen]; exact (h4.below hb5).lo hs, by rw [hlen]; exact ho5.lo (Nat.le_trans hs hs4), fun gg hgg hm => ?_, fun gg hgg hm => ?_⟩
                  · have h1 := (h4.blk hgg).1
                    have h2 := S3.out.1.1.lt gg hm
                    omega
                  · have h1 := (ho5.own hgg).1
                    have h2 := S3.out.1.1.lt gg hm
                    omega
                clear hb5 ho5 S4 S3 HQ0t HQ0i HN1
                obtain ⟨ids2, hids2⟩ : ∃ l, ids.take k ++ fr ++ ids.drop k = l := ⟨_, rfl⟩
                obtain ⟨ts2, hts2⟩ : ∃ l, ts.take k ++ lk ++ ts.drop k = l := ⟨_, rfl⟩
                rw [hids2, hts2] at S5
                clear hids2 hts2
                obtain ⟨n2, ta2, tc2, rfl⟩ : ∃ n a c, v3 = .slice a n c := by
                  obtain ⟨a, c, e, _⟩ := S5.out.2.2.2.2.1.read
                  exact ⟨_, a, c, e⟩
                go_wp2_with fail
                refine (text_pl S5.out.1 S5.out.2.2.2.1).mono ?_
                rintro e Z1 ⟨xa, xn, xc, rfl, HX, HB⟩
                have HZ1 := hid_of (LP.below S5.out HB.out)
                have HX1 := HX
                clear HX HB
                go_wp2_with fail
                have HXR := hid_of HZ1.out.txt.2.1
                refine (texts_is Z1 xa ta2 xn n2 xc tc2 ts2 ts2 HX1.out HXR.out (by have h1 := HX1.out.1; unfold strs at h1; rw [List.length_map, HZ1.out.2.2.2.1.tlen] at h1; have h2 := HZ1.out.2.2.2.1.ilen; have h3 := HI25.out; omega) (by have h2 := HZ1.out.2.2.2.1.ilen; have h3 := HI25.out; have h4 := HZ1.out.txt.1.1; have h5 := HZ1.out.2.2.2.1.tlen; omega) true (by simp)).mono ?_
                rintro e Z2 ⟨rfl, hb⟩
                have HZ2 := hid_of (LP.below HZ1.out hb)
                clear hb HZ1 HX1 HXR
                go_wp2_with fail
                refine (conf_pl HZ2.out.1 HZ2.out.2.2.2.1).mono ?_
                rintro e Z3 ⟨rfl, hb⟩
                have HZ3 := hid_of (LP.below HZ2.out hb)
                clear hb HZ2
                have HLT : Hid (i < n0 ∧ i < 25) := HLT0.out
                go_wp2
                refine ⟨⟨i + 1, G', ids2, ts2, by simp, HLT.out.1, HLT.out.2, HZ3.out⟩, ?_⟩
                have := HLT.out.1; simp [intOf]; omega
              · clear qa
                by_cases hj0 : j = 0
                · subst hj0
                  have HNX : Hid (LP w p (i + 1) (.slice ta n tc) (.slice (some ⟨gd, od, none⟩) n ic) G ids ts Y) := LP.idle T5.out.1
                  have HLT : Hid (i < n0 ∧ i < 25) := HLT0.out
                  clear T5 T10
                  go_wp2
                  refine ⟨⟨i + 1, G, ids, ts, by simp, HLT.out.1, HLT.out.2, HNX.out⟩, ?_⟩
                  have := HLT.out.1; simp [intOf]; omega
                have qj : ((j : Int) == 0) = false := by simp; omega
                have HJ0 : Hid (0 < j) := by show 0 < j; omega
                clear hj0
                have HOK := hid_of (T5.out.1.2.2.2.1.ok (m := j) (at_ := k) (by have := HLT0.out.2; omega) HJ0.out T10.out.2.2.2.1 (by rw [T5.out.1.ids.2.2]; exact HKN.out))
                have HPA := hid_of (T5.out.1.2.2.2.1.add (m := j) (at_ := k) (ls := x.ls.take j) (by have := HLT0.out.2; omega) HJ0.out T10.out.2.2.2.1 (by rw [T5.out.1.ids.2.2]; exact HKN.out) (by rw [List.length_take, HX.out.2.1.1]; have := T10.out.2.2.2.2; omega))
                obtain ⟨AH, hAH⟩ := ahb G.ps (upAt ids k) (dnAt ids k)
                obtain ⟨PS, hPS⟩ : ∃ PS, addP G.ps (upAt ids k) (dnAt ids k) (fresh i j) (x.ls.take j) = PS := ⟨_, rfl⟩
                rw [hPS] at HPA
                have HAH : Hid ((AH = true ↔ ahdP G.ps (upAt ids k) (dnAt ids k)) ∧ addP G.ps (upAt ids k) (dnAt ids k) (fresh i j) (x.ls.take j) = PS) := ⟨hAH, hPS⟩
                clear hAH hPS
                go_wp2_with (first
                  | (with_reducible change wpList _ _ _ ({ dst := some 123, op := _, type := _, pos := _, after := _, guard := _ } :: _) _ _
                     refine wpList_load_want rfl 34 (.tmp 10) rfl d10 0 rfl UC _ T5.out.2.2.2.1.range0 Try.underlying34 rfl HUD.out.2.2.1 ?_)
                  | (with_reducible change wpList _ _ _ ({ dst := some 124, op := _, type := _, pos := _, after := _, guard := _ } :: _) _ _
                     refine wpList_load_want rfl 34 (.tmp 11) rfl d11 0 rfl DC _ T5.out.2.2.2.2.range0 Try.underlying34 rfl HUD.out.2.2.2.1 ?_)
                  | fail)
                refine (add_st T5.out.1.1 T5.out.1.2.2.2.1.iv (by have := HLT0.out.2; omega) (upAt ids k) (dnAt ids k) HUD.out.2.2.2.2.1 HUD.out.2.2.2.2.2 fa j fc (fresh i j) T10.out.2.1.of.2.1 (by have := T10.out.2.2.2.1; omega) la j lc (x.ls.take j) T10.out.2.2.1.of.2.1 AH HAH.out.1 0 (HOK.out.zero HAH.out.1) PS (by rw [if_pos rfl]; exact HAH.out.2) UC DC HUD.out.1 HUD.out.2.1).mono ?_
                rintro e V3 ⟨rfl, G', hga, hps⟩
                have S3 : Hid ((GAt V3 p G' ∧ (∀ k ∈ G'.bl p, w.heap.size ≤ k) ∧ Below w.heap.size w V3 ∧ Pl (i + 1) G'.ps (ids.take k ++ fresh i j ++ ids.drop k) (ts.take k ++ x.ls.take j ++ ts.drop k)) ∧ TsR V3 ta n ts ∧ VsR V3 (some ⟨gd, od, none⟩) n ids ∧ n ≤ tc ∧ n ≤ ic ∧ VsR V3 fa j (fresh i j) ∧ TsR V3 la j (x.ls.take j)) := by
                  have hL := T5.out.1
                  have hkp := hga.2.2
                  have ht := hL.2.2.2.2.1.same (w' := V3) (fun gg hgg => hkp.block gg (hL.2.2.2.2.1.blk hgg).2 (hL.2.2.2.2.2.2.1 gg hgg))
                  have hi2 := hL.2.2.2.2.2.1.same (w' := V3) (fun gg hgg => hkp.block gg (hL.2.2.2.2.2.1.own hgg).2 (hL.2.2.2.2.2.2.2 gg hgg))
                  have hGX : ∀ gg ∈ G.bl p, gg < X6.heap.size := fun gg hgg => Nat.lt_of_lt_of_le (S2.out.1.1.lt gg hgg) T6x.out.1.size
                  have hf := T10.out.2.1.same (w' := V3) (fun gg hgg => hkp.block gg (T10.out.2.1.own hgg).2 (fun hm => by have h1 := (T10.out.2.1.own hgg).1; have h2 := hGX gg hm; omega))
                  have hl := T10.out.2.2.1.same (w' := V3) (fun gg hgg => hkp.block gg (T10.out.2.2.1.blk hgg).2 (fun hm => by have h1 := (T10.out.2.2.1.blk hgg).1; have h2 := hGX gg hm; omega))
                  have hAt : At7 w p 0 G.ps Y G := ⟨hL.1, hL.2.1, rfl, hL.2.2.1⟩
                  have hA3 := hAt.after hga hps
                  obtain ⟨_, t1, t3⟩ := ht.of
                  obtain ⟨_, v1, v3⟩ := hi2.of
                  exact ⟨⟨hA3.1, hA3.2.1, hA3.2.2.2, by rw [hps]; exact HPA.out⟩, t1, v1, t3, v3, hf.of.2.1, hl.of.2.1⟩
                have HJ6 : Hid (j ≤ 6) := T10.out.2.2.2.1
                have HFL : Hid ((fresh i j).length = j) := fresh_len i j
                clear hga hps T5 T10 HOK HPA HAH HUD
                obtain ⟨fr, hfr⟩ : ∃ l, fresh i j = l := ⟨_, rfl⟩
                obtain ⟨lk, hlk⟩ : ∃ l, x.ls.take j = l := ⟨_, rfl⟩
                rw [hfr, hlk] at S3
                rw [hfr] at HFL
                clear hfr hlk
                go_wp2_with fail
                have HQ0t : Hid (k ≤ n ∧ n ≤ tc) := ⟨HKN.out, S3.out.2.2.2.1⟩
                have HQ0i : Hid (k ≤ n ∧ n ≤ ic) := ⟨HKN.out, S3.out.2.2.2.2.1⟩
                have HN1 : Hid (n + j ≤ 1000) := by show n + j ≤ 1000; have := HN150.out; have := HJ6.out; omega
                refine pl31 S3.out.2.1 HQ0t HN1 S3.out.2.2.2.2.2.2 ?_
                intro V4 r1 v1 v2 v3 hb4 ho4
                have S4 : Hid (Below V3.heap.size V3 V4 ∧ OT9 V3.heap.size V4 v3 (0 + k + j + (n - k)) ([] ++ ts.take k ++ lk ++ ts.drop k)) := ⟨hb4, ho4⟩
                clear hb4 ho4
                go_wp2_with fail
                refine pl32 (S3.out.2.2.1.below S4.out.1) HQ0i HN1 (S3.out.2.2.2.2.2.1.below S4.out.1) ?_
                intro V5 r2 v4 v5 v6 hb5 ho5
                have S5 : Hid (LP w p (i + 1) v3 v6 G' (ids.take k ++ fr ++ ids.drop k) (ts.take k ++ lk ++ ts.drop k) V5) := by
                  have hk2 := HKN.out
                  have hlen : (ids.take k ++ fr ++ ids.drop k).length = k + j + (n - k) := by
                    rw [List.length_append, List.length_append, List.length_take, List.length_drop, S3.out.2.2.1.1, HFL.out]
                    omega
                  have h4 := S4.out.2
                  rw [Nat.zero_add, List.nil_append] at h4 ho5
                  have hb := below_tr S4.out.1 hb5
                  have hs := S3.out.1.2.2.1.size
                  have hs4 := S4.out.1.size
                  refine ⟨S3.out.1.1.below hb, S3.out.1.2.1, below_tr S3.out.1.2.2.1 hb, S3.out.1.2.2.2, by rw [hlen]; exact (h4.below hb5).lo hs, by rw [hlen]; exact ho5.lo (Nat.le_trans hs hs4), fun gg hgg hm => ?_, fun gg hgg hm => ?_⟩
                  · have h1 := (h4.blk hgg).1
                    have h2 := S3.out.1.1.lt gg hm
                    omega
                  · have h1 := (ho5.own hgg).1
                    have h2 := S3.out.1.1.lt gg hm
                    omega
                clear hb5 ho5 S4 S3 HQ0t HQ0i HN1
                obtain ⟨ids2, hids2⟩ : ∃ l, ids.take k ++ fr ++ ids.drop k = l := ⟨_, rfl⟩
                obtain ⟨ts2, hts2⟩ : ∃ l, ts.take k ++ lk ++ ts.drop k = l := ⟨_, rfl⟩
                rw [hids2, hts2] at S5
                clear hids2 hts2
                obtain ⟨n2, ta2, tc2, rfl⟩ : ∃ n a c, v3 = .slice a n c := by
                  obtain ⟨a, c, e, _⟩ := S5.out.2.2.2.2.1.read
                  exact ⟨_, a, c, e⟩
                go_wp2_with fail
                refine (text_pl S5.out.1 S5.out.2.2.2.1).mono ?_
                rintro e Z1 ⟨xa, xn, xc, rfl, HX, HB⟩
                have HZ1 := hid_of (LP.below S5.out HB.out)
                have HX1 := HX
                clear HX HB
                go_wp2_with fail
                have HXR := hid_of HZ1.out.txt.2.1
                refine (texts_is Z1 xa ta2 xn n2 xc tc2 ts2 ts2 HX1.out HXR.out (by have h1 := HX1.out.1; unfold strs at h1; rw [List.length_map, HZ1.out.2.2.2.1.tlen] at h1; have h2 := HZ1.out.2.2.2.1.ilen; have h3 := HI25.out; omega) (by have h2 := HZ1.out.2.2.2.1.ilen; have h3 := HI25.out; have h4 := HZ1.out.txt.1.1; have h5 := HZ1.out.2.2.2.1.tlen; omega) true (by simp)).mono ?_
                rintro e Z2 ⟨rfl, hb⟩
                have HZ2 := hid_of (LP.below HZ1.out hb)
                clear hb HZ1 HX1 HXR
                go_wp2_with fail
                refine (conf_pl HZ2.out.1 HZ2.out.2.2.2.1).mono ?_
                rintro e Z3 ⟨rfl, hb⟩
                have HZ3 := hid_of (LP.below HZ2.out hb)
                clear hb HZ2
                have HLT : Hid (i < n0 ∧ i < 25) := HLT0.out
                go_wp2
                refine ⟨⟨i + 1, G', ids2, ts2, by simp, HLT.out.1, HLT.out.2, HZ3.out⟩, ?_⟩
                have := HLT.out.1; simp [intOf]; omega
        obtain ⟨k1, hk1⟩ : ∃ k1, k = k1 + 1 := ⟨k - 1, by omega⟩
        have qk1 : (k : Int) - 1 = (k1 : Int) := by omega
        have qk2 : (k1 : Int) < (n : Int) := by have := HKN.out; omega
        have qk3 : (0 : Int) < (k : Int) := by omega
        obtain ⟨vu, hvu⟩ : ∃ v, ids[k1]? = some v := ⟨_, List.getElem?_eq_getElem (by rw [S2.out.1.ids.2.2]; have := HKN.out; omega)⟩
        have hvuk := S2.out.1.ids.1.2.1 vu (List.mem_of_getElem? hvu)
        obtain ⟨UC, hUC⟩ : ∃ C, vu.cells = C := ⟨_, rfl⟩
        have heu : upAt ids k = vu := by
          unfold upAt
          rw [if_neg (by omega), show k - 1 = k1 by omega, List.getD_eq_getElem?_getD, hvu]
          rfl
        have HU : Hid (upAt ids k = vu ∧ Vk vu ∧ vu.cells = UC ∧ UC.length = 33 ∧ (∀ v ∈ UC, v.oneCell' = true) ∧ (Try.prog.info? 34).map (·.size) = some UC.length) := ⟨heu, hvuk, hUC, by rw [← hUC]; exact Vx.len hvuk.1, by rw [← hUC]; exact Vx.one _, by rw [← hUC]; exact info34 hvuk.1⟩
        have HRU : Hid (X4.rangeAt gd (od + k1 * 33) UC) := by show World.rangeAt _ _ _ _; rw [← hUC]; exact rangeAt_same (HID.out.2 k1 vu hvu) (T4.out.1.block gd HID.out.1)
        clear hvu hvuk hUC heu hk1
        go_wp2_with (first
          | (with_reducible change wpList _ _ _ ({ dst := some 85, op := _, type := _, pos := _, after := _, guard := _ } :: _) _ _
             refine wpList_load_want rfl 34 (.tmp 84) rfl gd (od + k1 * 33) rfl UC _ HRU.out Try.underlying34 rfl HU.out.2.2.2.2.2 ?_)
          | (with_reducible change wpList _ _ _ ({ dst := none, op := Op.store 34 _ _, type := _, pos := _, after := _, guard := _ } :: _) _ _
             refine Hid.out ?_)
          | fail)
        show wpList _ _ _ _ _ _
        refine wpList_store_blk rfl 34 (.tmp 10) (.tmp 85) rfl d10 0 34 CT UC rfl rfl T4.out.2.1 (by rw [HU.out.2.2.2.1, HT.out.2.1]; exact Nat.le_refl _) HU.out.2.2.2.2.2 HU.out.2.2.2.2.1 ?_
        intro X5 r1 r2
        have T5x : Hid (Below U2.heap.size U2 X5 ∧ Blk X5 d10 34 UC ∧ Blk X5 d11 34 CB) := by
          have hg := r2.out
          refine ⟨T4.out.1.grown hg T4.out.1.size (fun k hk => by have e := Option.some.inj hk; have := HS10.out; omega), blk_all r1.out (by rw [HU.out.2.2.2.1, HT.out.2.1]), T4.out.2.2.kept hg (fun e => by have e := Option.some.inj e; have := HS10.out.2; omega)⟩
        clear r1 r2 T4
        clear HRU qk1 qk2 qk3
        have qkn : ¬ (k : Int) < (n : Int) := by omega
        have HD : Hid (dnAt ids k = vBot) := by
          show dnAt ids k = vBot
          unfold dnAt
          rw [if_neg (by rw [S2.out.1.ids.2.2]; omega)]
        have HUD : Hid ((upAt ids k).cells = UC ∧ (dnAt ids k).cells = CB ∧ (Try.prog.info? 34).map (·.size) = some UC.length ∧ (Try.prog.info? 34).map (·.size) = some CB.length ∧ Vk (upAt ids k) ∧ Vk (dnAt ids k)) := ⟨by rw [HU.out.1]; exact HU.out.2.2.1, by rw [HD.out]; exact HB.out.1, HU.out.2.2.2.2.2, HB.out.2.2.2, by rw [HU.out.1]; exact HU.out.2.1, by rw [HD.out]; exact vBot_k⟩
        clear HU HD
        clear hn0 hk0 hkl
        go_wp2
        go_loopw [14, 12, 13] (fun u y z wr => ∃ j : Nat, u = iv (j : Int) ∧ Hid (j ≤ x.ln ∧ j ≤ 6 ∧ Below X5.heap.size X5 wr ∧ OV X5.heap.size wr y j (fresh i j) ∧ OT9 X5.heap.size wr z j (x.ls.take j))) (fun u _ _ _ => x.ln - (intOf u).toNat)
        case atStart => exact ⟨0, rfl, Nat.zero_le _, Nat.zero_le _, Below.refl _ _, OV.nil _ _, OT9.nil _ _⟩
        case round =>
          obtain ⟨Y, hY⟩ : ∃ V, V = wr := ⟨_, rfl⟩
          subst hY
          obtain ⟨j, rfl, HJ⟩ := hrel
          have T5 : Hid (LP w p i (.slice ta n tc) (.slice (some ⟨gd, od, none⟩) n ic) G ids ts Y ∧ Blk Y d7 54 x.cells ∧ Blk Y d9 32 YC ∧ Blk Y d10 34 UC ∧ Blk Y d11 34 CB) := by
            have hb := HJ.out.2.2.1
            have hb2 := below_tr T5x.out.1 hb
            exact ⟨S2.out.1.below hb2, S2.out.2.1.below hb2 S2.out.2.1.lt, S2.out.2.2.1.below hb2 S2.out.2.2.1.lt, T5x.out.2.1.below hb T5x.out.2.1.lt, T5x.out.2.2.below hb T5x.out.2.2.lt⟩
          have c2 : Y.cell? ⟨d7, 2, none⟩ = some (.slice x.la x.ln x.lc) := T5.out.2.1.cell rfl
          have q7 : (x.ln : Int) ≤ 140737488355328 := by have := HX.out.2.2.2.2.1; omega
          have q8 : (j : Int) ≤ 6 := by have := HJ.out.2.1; omega
          by_cases hj : j < x.ln ∧ j < 6
          · have qa : (j : Int) < (x.ln : Int) := by have := hj.1; omega
            have qb : (j : Int) < 6 := by have := hj.2; omega
            have HJ2 : Hid (j < x.ln ∧ j < 6) := hj
            have HIB : Hid (i < 100) := by show i < 100; have := HLT0.out.2; omega
            have hw := hb_k (i := i) j (by omega)
            have HWV := hid_of hw
            obtain ⟨WC, hWC⟩ : ∃ C, (⟨hb i, (j : Int)⟩ : Vx).cells = C := ⟨_, rfl⟩
            have HWC : Hid (Try.prog.built 34 [(0, .agg YC.toArray), (1, iv (j : Int))] = some WC.toArray ∧ (⟨hb i, (j : Int)⟩ : Vx).cells = WC) := ⟨by rw [← HYC.out.1, ← hWC]; exact built34h HIB.out _, hWC⟩
            have hbj := HWC.out.1
            obtain ⟨s, hs⟩ : ∃ s, x.ls[j]? = some s := ⟨_, List.getElem?_eq_getElem (by rw [HX.out.2.1.1]; exact hj.1)⟩
            have HSS := hid_of hs
            clear hj hw hWC hs
            go_wp2_with (first
            | (with_reducible change wpList _ _ _ ({ dst := some 106, op := _, type := _, pos := _, after := _, guard := _ } :: _) _ _
               refine wpList_load_want rfl 32 (.tmp 9) rfl d9 0 rfl YC _ T5.out.2.2.1.range0 Try.underlying32 rfl HYC.out.2.2.2 ?_)
            | (with_reducible change wpList _ _ _ ({ dst := some 108, op := _, type := _, pos := _, after := _, guard := _ } :: _) _ _
               refine wpList_built rfl 34 _ rfl WC.toArray (by rw [← hbj]; first | rfl | (simp; done) | (simp; rfl)) ?_)
            | (with_reducible change wpList _ _ _ ({ dst := some 109, op := _, type := _, pos := _, after := _, guard := _ } :: _) _ _
               refine Hid.out ?_)
            | fail)
            show wpList _ _ _ _ _ _
            refine wpList_bslice1 rfl (.tmp 108) rfl ⟨hb i, (j : Int)⟩ HWV.out.1 (by rw [HWC.out.2]; rfl) ?_
            obtain ⟨Y1, hY1⟩ : ∃ W, Y.alloc (.cells (⟨hb i, (j : Int)⟩ : Vx).cells.toArray 34) = W := ⟨_, rfl⟩
            obtain ⟨z1, hz1⟩ : ∃ r, Y.heap.size = r := ⟨_, rfl⟩
            have T6 : Hid (Below Y.heap.size Y Y1 ∧ VsR Y1 (some ⟨z1, 0, none⟩) 1 [⟨hb i, (j : Int)⟩]) := ⟨by rw [← hY1]; exact below_al _ _, by rw [← hY1, ← hz1]; exact VsR.one Y _ HWV.out⟩
            rw [hY1, hz1]
            clear hY1 hz1 hbj
            go_wp2_with (first
            | (with_reducible change wpList _ _ _ ({ dst := some 110, op := _, type := _, pos := _, after := _, guard := _ } :: _) _ _
               refine Hid.out ?_)
            | fail)
            show wpList _ _ _ _ _ _
            obtain ⟨fv, Y2, ra, rb, rc, _⟩ := run_app Y1 X5.heap.size 35 _ j (fresh i j) (some ⟨z1, 0, none⟩) 1 1 [⟨hb i, (j : Int)⟩] (HJ.out.2.2.2.1.below T6.out.1) T6.out.2 (by have := HJ2.out.2; omega) (Nat.le_trans HJ.out.2.2.1.size T6.out.1.size)
            refine wpList_ap rfl 35 35 _ _ rfl _ _ rfl rfl _ _ ra ?_
            have T7 : Hid (Below X5.heap.size X5 Y2 ∧ OV X5.heap.size Y2 fv (j + 1) (fresh i (j + 1)) ∧ OT9 X5.heap.size Y2 u13 j (x.ls.take j)) := by
              have hbx := below_tr HJ.out.2.2.1 T6.out.1
              have ho := HJ.out.2.2.2.1.below T6.out.1
              have ht := HJ.out.2.2.2.2.below T6.out.1
              refine ⟨hbx.grown rc hbx.size (fun g hg => (ho.own hg).1), by rw [fresh_succ]; exact rb, ht.same (fun g hg => rc.block g (ht.blk hg).2 (fun e => ?_))⟩
              have h1 := e.symm
              rcases ho.1.2 with ⟨e2, _⟩ | ⟨g1, cap, cur, e2, _, h3, _⟩
              · rw [e2] at h1; cases h1
              · rw [e2] at h1
                have e5 : g1 = g := Option.some.inj h1
                rcases ht.2 with ⟨e4, _⟩ | ⟨g2, cap2, cur2, e4, _, h5, _⟩
                · rw [e4] at hg; cases hg
                · rw [e4] at hg
                  have e6 : g2 = g := Option.some.inj hg
                  rw [e5] at h3
                  rw [e6] at h5
                  rw [h3] at h5
                  cases h5
            have c3 : Y2.cell? ⟨d7, 2, none⟩ = some (.slice x.la x.ln x.lc) := (cell_same (T7.out.1.block d7 (Nat.lt_of_lt_of_le S2.out.2.1.lt T5x.out.1.size))).trans ((S2.out.2.1.below T5x.out.1 S2.out.2.1.lt).cell rfl)
            obtain ⟨lg, loff, hla, hlg, hle⟩ := HX.out.2.1.2 (by have := HJ2.out.1; omega)
            have hbw : Below w.heap.size w Y2 := by
              have h1 := T7.out.1
              exact below_tr (S2.out.1.below T5x.out.1).2.2.1 h1
            have c4 : Y2.cell? ⟨lg, loff + j, none⟩ = some (.string s) := (cell_same (hbw.block lg hlg)).trans (hle j s HSS.out)
            rw [hla] at c3
            clear ra rb rc T5 T6 c2 hla hlg hle hbw HJ HWV HWC
            go_wp2_with (first
            | (with_reducible change wpList _ _ _ ({ dst := some 117, op := _, type := _, pos := _, after := _, guard := _ } :: _) _ _
               refine Hid.out ?_)
            | fail)
            show wpList _ _ _ _ _ _
            refine wpList_bs rfl 36 (.tmp 116) rfl (.string s) _ rfl _ (bs9x s _) ?_
            obtain ⟨Y3, hY3⟩ : ∃ W, Y2.alloc (.cells [Value.string s].toArray 9) = W := ⟨_, rfl⟩
            obtain ⟨z2, hz2⟩ : ∃ r, Y2.heap.size = r := ⟨_, rfl⟩
            have T8 : Hid (Below Y2.heap.size Y2 Y3 ∧ TsR Y3 (some ⟨z2, 0, none⟩) 1 [s]) := ⟨by rw [← hY3]; exact below_al _ _, by rw [← hY3, ← hz2]; exact TsR.one _ _⟩
            rw [hY3, hz2]
            clear hY3 hz2 c3 c4
            go_wp2_with (first
            | (with_reducible change wpList _ _ _ ({ dst := some 118, op := _, type := _, pos := _, after := _, guard := _ } :: _) _ _
               refine Hid.out ?_)
            | fail)
            show wpList _ _ _ _ _ _
            obtain ⟨lv, Y4, ra, rb, rc⟩ := run_appT Y3 X5.heap.size 36 _ j (x.ls.take j) (some ⟨z2, 0, none⟩) 1 1 [s] (T7.out.2.2.below T8.out.1) T8.out.2 (by have := HJ2.out.2; omega) (Nat.le_trans T7.out.1.size T8.out.1.size)
            refine wpList_ap rfl 36 36 _ _ rfl _ _ rfl rfl _ _ ra ?_
            have T9 : Hid (j + 1 ≤ x.ln ∧ j + 1 ≤ 6 ∧ Below X5.heap.size X5 Y4 ∧ OV X5.heap.size Y4 fv (j + 1) (fresh i (j + 1)) ∧ OT9 X5.heap.size Y4 lv (j + 1) (x.ls.take (j + 1))) := by
              have hbx := below_tr T7.out.1 T8.out.1
              have ho := T7.out.2.1.below T8.out.1
              have ht := T7.out.2.2.below T8.out.1
              refine ⟨HJ2.out.1, HJ2.out.2, hbx.grown rc hbx.size (fun g hg => (ht.blk hg).1), ho.same (fun g hg => rc.block g (ho.own hg).2 (fun e => ?_)), by rw [List.take_add_one, HSS.out]; exact rb⟩
              have h1 := e.symm
              rcases ho.1.2 with ⟨e2, _⟩ | ⟨g1, cap, cur, e2, _, h3, _⟩
              · rw [e2] at hg; cases hg
              · rw [e2] at hg
                have e5 : g1 = g := Option.some.inj hg
                rcases ht.2 with ⟨e4, _⟩ | ⟨g2, cap2, cur2, e4, _, h5, _⟩
                · rw [e4] at h1; cases h1
                · rw [e4] at h1
                  have e6 : g2 = g := Option.some.inj h1
                  rw [e5] at h3
                  rw [e6] at h5
                  rw [h3] at h5
                  cases h5
            clear ra rb rc T7 T8
            go_wp2
            refine ⟨⟨j + 1, by simp, T9.out⟩, ?_⟩
            have := HJ2.out.1; simp [intOf]; omega
          · have qa : ¬ ((j : Int) < (x.ln : Int) ∧ (j : Int) < 6) := fun h => hj ⟨by omega, by omega⟩
            have T10 : Hid (Below X5.heap.size X5 Y ∧ OV X5.heap.size Y u12 j (fresh i j) ∧ OT9 X5.heap.size Y u13 j (x.ls.take j) ∧ j ≤ 6 ∧ j ≤ x.ln) := ⟨HJ.out.2.2.1, HJ.out.2.2.2.1, HJ.out.2.2.2.2, HJ.out.2.1, HJ.out.1⟩
            obtain ⟨fa, fc, e1, _, _, _⟩ := HJ.out.2.2.2.1.read
            obtain ⟨la, lc, e2, _, _, _⟩ := HJ.out.2.2.2.2.read
            subst e1 e2
            clear hj HJ
            by_cases hla : (j : Int) < (x.ln : Int)
            · have qb : ¬ (j : Int) < 6 := fun h => qa ⟨hla, h⟩
              have hj0 : j ≠ 0 := by omega
              clear qa
              have qj : ((j : Int) == 0) = false := by simp; omega
              have HJ0 : Hid (0 < j) := by show 0 < j; omega
              clear hj0
              have HOK := hid_of (T5.out.1.2.2.2.1.ok (m := j) (at_ := k) (by have := HLT0.out.2; omega) HJ0.out T10.out.2.2.2.1 (by rw [T5.out.1.ids.2.2]; exact HKN.out))
              have HPA := hid_of (T5.out.1.2.2.2.1.add (m := j) (at_ := k) (ls := x.ls.take j) (by have := HLT0.out.2; omega) HJ0.out T10.out.2.2.2.1 (by rw [T5.out.1.ids.2.2]; exact HKN.out) (by rw [List.length_take, HX.out.2.1.1]; have := T10.out.2.2.2.2; omega))
              obtain ⟨AH, hAH⟩ := ahb G.ps (upAt ids k) (dnAt ids k)
              obtain ⟨PS, hPS⟩ : ∃ PS, addP G.ps (upAt ids k) (dnAt ids k) (fresh i j) (x.ls.take j) = PS := ⟨_, rfl⟩
              rw [hPS] at HPA
              have HAH : Hid ((AH = true ↔ ahdP G.ps (upAt ids k) (dnAt ids k)) ∧ addP G.ps (upAt ids k) (dnAt ids k) (fresh i j) (x.ls.take j) = PS) := ⟨hAH, hPS⟩
              clear hAH hPS
              go_wp2_with (first
                | (with_reducible change wpList _ _ _ ({ dst := some 123, op := _, type := _, pos := _, after := _, guard := _ } :: _) _ _
                   refine wpList_load_want rfl 34 (.tmp 10) rfl d10 0 rfl UC _ T5.out.2.2.2.1.range0 Try.underlying34 rfl HUD.out.2.2.1 ?_)
                | (with_reducible change wpList _ _ _ ({ dst := some 124, op := _, type := _, pos := _, after := _, guard := _ } :: _) _ _
                   refine wpList_load_want rfl 34 (.tmp 11) rfl d11 0 rfl CB _ T5.out.2.2.2.2.range0 Try.underlying34 rfl HUD.out.2.2.2.1 ?_)
                | fail)
              refine (add_st T5.out.1.1 T5.out.1.2.2.2.1.iv (by have := HLT0.out.2; omega) (upAt ids k) (dnAt ids k) HUD.out.2.2.2.2.1 HUD.out.2.2.2.2.2 fa j fc (fresh i j) T10.out.2.1.of.2.1 (by have := T10.out.2.2.2.1; omega) la j lc (x.ls.take j) T10.out.2.2.1.of.2.1 AH HAH.out.1 0 (HOK.out.zero HAH.out.1) PS (by rw [if_pos rfl]; exact HAH.out.2) UC CB HUD.out.1 HUD.out.2.1).mono ?_
              rintro e V3 ⟨rfl, G', hga, hps⟩
              have S3 : Hid ((GAt V3 p G' ∧ (∀ k ∈ G'.bl p, w.heap.size ≤ k) ∧ Below w.heap.size w V3 ∧ Pl (i + 1) G'.ps (ids.take k ++ fresh i j ++ ids.drop k) (ts.take k ++ x.ls.take j ++ ts.drop k)) ∧ TsR V3 ta n ts ∧ VsR V3 (some ⟨gd, od, none⟩) n ids ∧ n ≤ tc ∧ n ≤ ic ∧ VsR V3 fa j (fresh i j) ∧ TsR V3 la j (x.ls.take j)) := by
                have hL := T5.out.1
                have hkp := hga.2.2
                have ht := hL.2.2.2.2.1.same (w' := V3) (fun gg hgg => hkp.block gg (hL.2.2.2.2.1.blk hgg).2 (hL.2.2.2.2.2.2.1 gg hgg))
                have hi2 := hL.2.2.2.2.2.1.same (w' := V3) (fun gg hgg => hkp.block gg (hL.2.2.2.2.2.1.own hgg).2 (hL.2.2.2.2.2.2.2 gg hgg))
                have hGX : ∀ gg ∈ G.bl p, gg < X5.heap.size := fun gg hgg => Nat.lt_of_lt_of_le (S2.out.1.1.lt gg hgg) T5x.out.1.size
                have hf := T10.out.2.1.same (w' := V3) (fun gg hgg => hkp.block gg (T10.out.2.1.own hgg).2 (fun hm => by have h1 := (T10.out.2.1.own hgg).1; have h2 := hGX gg hm; omega))
                have hl := T10.out.2.2.1.same (w' := V3) (fun gg hgg => hkp.block gg (T10.out.2.2.1.blk hgg).2 (fun hm => by have h1 := (T10.out.2.2.1.blk hgg).1; have h2 := hGX gg hm; omega))
                have hAt : At7 w p 0 G.ps Y G := ⟨hL.1, hL.2.1, rfl, hL.2.2.1⟩
                have hA3 := hAt.after hga hps
                obtain ⟨_, t1, t3⟩ := ht.of
                obtain ⟨_, v1, v3⟩ := hi2.of
                exact ⟨⟨hA3.1, hA3.2.1, hA3.2.2.2, by rw [hps]; exact HPA.out⟩, t1, v1, t3, v3, hf.of.2.1, hl.of.2.1⟩
              have HJ6 : Hid (j ≤ 6) := T10.out.2.2.2.1
              have HFL : Hid ((fresh i j).length = j) := fresh_len i j
              clear hga hps T5 T10 HOK HPA HAH HUD
              obtain ⟨fr, hfr⟩ : ∃ l, fresh i j = l := ⟨_, rfl⟩
              obtain ⟨lk, hlk⟩ : ∃ l, x.ls.take j = l := ⟨_, rfl⟩
              rw [hfr, hlk] at S3
              rw [hfr] at HFL
              clear hfr hlk
              go_wp2_with fail
              have HQ0t : Hid (k ≤ n ∧ n ≤ tc) := ⟨HKN.out, S3.out.2.2.2.1⟩
              have HQ0i : Hid (k ≤ n ∧ n ≤ ic) := ⟨HKN.out, S3.out.2.2.2.2.1⟩
              have HN1 : Hid (n + j ≤ 1000) := by show n + j ≤ 1000; have := HN150.out; have := HJ6.out; omega
              refine pl31 S3.out.2.1 HQ0t HN1 S3.out.2.2.2.2.2.2 ?_
              intro V4 r1 v1 v2 v3 hb4 ho4
              have S4 : Hid (Below V3.heap.size V3 V4 ∧ OT9 V3.heap.size V4 v3 (0 + k + j + (n - k)) ([] ++ ts.take k ++ lk ++ ts.drop k)) := ⟨hb4, ho4⟩
              clear hb4 ho4
              go_wp2_with fail
              refine pl32 (S3.out.2.2.1.below S4.out.1) HQ0i HN1 (S3.out.2.2.2.2.2.1.below S4.out.1) ?_
              intro V5 r2 v4 v5 v6 hb5 ho5
              have S5 : Hid (LP w p (i + 1) v3 v6 G' (ids.take k ++ fr ++ ids.drop k) (ts.take k ++ lk ++ ts.drop k) V5) := by
                have hk2 := HKN.out
                have hlen : (ids.take k ++ fr ++ ids.drop k).length = k + j + (n - k) := by
                  rw [List.length_append, List.length_append, List.length_take, List.length_drop, S3.out.2.2.1.1, HFL.out]
                  omega
                have h4 := S4.out.2
                rw [Nat.zero_add, List.nil_append] at h4 ho5
                have hb := below_tr S4.out.1 hb5
                have hs := S3.out.1.2.2.1.size
                have hs4 := S4.out.1.size
                refine ⟨S3.out.1.1.below hb, S3.out.1.2.1, below_tr S3.out.1.2.2.1 hb, S3.out.1.2.2.2, by rw [hlen]; exact (h4.below hb5).lo hs, by rw [hlen]; exact ho5.lo (Nat.le_trans hs hs4), fun gg hgg hm => ?_, fun gg hgg hm => ?_⟩
                · have h1 := (h4.blk hgg).1
                  have h2 := S3.out.1.1.lt gg hm
                  omega
                · have h1 := (ho5.own hgg).1
                  have h2 := S3.out.1.1.lt gg hm
                  omega
              clear hb5 ho5 S4 S3 HQ0t HQ0i HN1
              obtain ⟨ids2, hids2⟩ : ∃ l, ids.take k ++ fr ++ ids.drop k = l := ⟨_, rfl⟩
              obtain ⟨ts2, hts2⟩ : ∃ l, ts.take k ++ lk ++ ts.drop k = l := ⟨_, rfl⟩
              rw [hids2, hts2] at S5
              clear hids2 hts2
              obtain ⟨n2, ta2, tc2, rfl⟩ : ∃ n a c, v3 = .slice a n c := by
                obtain ⟨a, c, e, _⟩ := S5.out.2.2.2.2.1.read
                exact ⟨_, a, c, e⟩
              go_wp2_with fail
              refine (text_pl S5.out.1 S5.out.2.2.2.1).mono ?_
              rintro e Z1 ⟨xa, xn, xc, rfl, HX, HB⟩
              have HZ1 := hid_of (LP.below S5.out HB.out)
              have HX1 := HX
              clear HX HB
              go_wp2_with fail
              have HXR := hid_of HZ1.out.txt.2.1
              refine (texts_is Z1 xa ta2 xn n2 xc tc2 ts2 ts2 HX1.out HXR.out (by have h1 := HX1.out.1; unfold strs at h1; rw [List.length_map, HZ1.out.2.2.2.1.tlen] at h1; have h2 := HZ1.out.2.2.2.1.ilen; have h3 := HI25.out; omega) (by have h2 := HZ1.out.2.2.2.1.ilen; have h3 := HI25.out; have h4 := HZ1.out.txt.1.1; have h5 := HZ1.out.2.2.2.1.tlen; omega) true (by simp)).mono ?_
              rintro e Z2 ⟨rfl, hb⟩
              have HZ2 := hid_of (LP.below HZ1.out hb)
              clear hb HZ1 HX1 HXR
              go_wp2_with fail
              refine (conf_pl HZ2.out.1 HZ2.out.2.2.2.1).mono ?_
              rintro e Z3 ⟨rfl, hb⟩
              have HZ3 := hid_of (LP.below HZ2.out hb)
              clear hb HZ2
              have HLT : Hid (i < n0 ∧ i < 25) := HLT0.out
              go_wp2
              refine ⟨⟨i + 1, G', ids2, ts2, by simp, HLT.out.1, HLT.out.2, HZ3.out⟩, ?_⟩
              have := HLT.out.1; simp [intOf]; omega
            · clear qa
              by_cases hj0 : j = 0
              · subst hj0
                have HNX : Hid (LP w p (i + 1) (.slice ta n tc) (.slice (some ⟨gd, od, none⟩) n ic) G ids ts Y) := LP.idle T5.out.1
                have HLT : Hid (i < n0 ∧ i < 25) := HLT0.out
                clear T5 T10
                go_wp2
                refine ⟨⟨i + 1, G, ids, ts, by simp, HLT.out.1, HLT.out.2, HNX.out⟩, ?_⟩
                have := HLT.out.1; simp [intOf]; omega
              have qj : ((j : Int) == 0) = false := by simp; omega
              have HJ0 : Hid (0 < j) := by show 0 < j; omega
              clear hj0
              have HOK := hid_of (T5.out.1.2.2.2.1.ok (m := j) (at_ := k) (by have := HLT0.out.2; omega) HJ0.out T10.out.2.2.2.1 (by rw [T5.out.1.ids.2.2]; exact HKN.out))
              have HPA := hid_of (T5.out.1.2.2.2.1.add (m := j) (at_ := k) (ls := x.ls.take j) (by have := HLT0.out.2; omega) HJ0.out T10.out.2.2.2.1 (by rw [T5.out.1.ids.2.2]; exact HKN.out) (by rw [List.length_take, HX.out.2.1.1]; have := T10.out.2.2.2.2; omega))
              obtain ⟨AH, hAH⟩ := ahb G.ps (upAt ids k) (dnAt ids k)
              obtain ⟨PS, hPS⟩ : ∃ PS, addP G.ps (upAt ids k) (dnAt ids k) (fresh i j) (x.ls.take j) = PS := ⟨_, rfl⟩
              rw [hPS] at HPA
              have HAH : Hid ((AH = true ↔ ahdP G.ps (upAt ids k) (dnAt ids k)) ∧ addP G.ps (upAt ids k) (dnAt ids k) (fresh i j) (x.ls.take j) = PS) := ⟨hAH, hPS⟩
              clear hAH hPS
              go_wp2_with (first
                | (with_reducible change wpList _ _ _ ({ dst := some 123, op := _, type := _, pos := _, after := _, guard := _ } :: _) _ _
                   refine wpList_load_want rfl 34 (.tmp 10) rfl d10 0 rfl UC _ T5.out.2.2.2.1.range0 Try.underlying34 rfl HUD.out.2.2.1 ?_)
                | (with_reducible change wpList _ _ _ ({ dst := some 124, op := _, type := _, pos := _, after := _, guard := _ } :: _) _ _
                   refine wpList_load_want rfl 34 (.tmp 11) rfl d11 0 rfl CB _ T5.out.2.2.2.2.range0 Try.underlying34 rfl HUD.out.2.2.2.1 ?_)
                | fail)
              refine (add_st T5.out.1.1 T5.out.1.2.2.2.1.iv (by have := HLT0.out.2; omega) (upAt ids k) (dnAt ids k) HUD.out.2.2.2.2.1 HUD.out.2.2.2.2.2 fa j fc (fresh i j) T10.out.2.1.of.2.1 (by have := T10.out.2.2.2.1; omega) la j lc (x.ls.take j) T10.out.2.2.1.of.2.1 AH HAH.out.1 0 (HOK.out.zero HAH.out.1) PS (by rw [if_pos rfl]; exact HAH.out.2) UC CB HUD.out.1 HUD.out.2.1).mono ?_
              rintro e V3 ⟨rfl, G', hga, hps⟩
              have S3 : Hid ((GAt V3 p G' ∧ (∀ k ∈ G'.bl p, w.heap.size ≤ k) ∧ Below w.heap.size w V3 ∧ Pl (i + 1) G'.ps (ids.take k ++ fresh i j ++ ids.drop k) (ts.take k ++ x.ls.take j ++ ts.drop k)) ∧ TsR V3 ta n ts ∧ VsR V3 (some ⟨gd, od, none⟩) n ids ∧ n ≤ tc ∧ n ≤ ic ∧ VsR V3 fa j (fresh i j) ∧ TsR V3 la j (x.ls.take j)) := by
                have hL := T5.out.1
                have hkp := hga.2.2
                have ht := hL.2.2.2.2.1.same (w' := V3) (fun gg hgg => hkp.block gg (hL.2.2.2.2.1.blk hgg).2 (hL.2.2.2.2.2.2.1 gg hgg))
                have hi2 := hL.2.2.2.2.2.1.same (w' := V3) (fun gg hgg => hkp.block gg (hL.2.2.2.2.2.1.own hgg).2 (hL.2.2.2.2.2.2.2 gg hgg))
                have hGX : ∀ gg ∈ G.bl p, gg < X5.heap.size := fun gg hgg => Nat.lt_of_lt_of_le (S2.out.1.1.lt gg hgg) T5x.out.1.size
                have hf := T10.out.2.1.same (w' := V3) (fun gg hgg => hkp.block gg (T10.out.2.1.own hgg).2 (fun hm => by have h1 := (T10.out.2.1.own hgg).1; have h2 := hGX gg hm; omega))
                have hl := T10.out.2.2.1.same (w' := V3) (fun gg hgg => hkp.block gg (T10.out.2.2.1.blk hgg).2 (fun hm => by have h1 := (T10.out.2.2.1.blk hgg).1; have h2 := hGX gg hm; omega))
                have hAt : At7 w p 0 G.ps Y G := ⟨hL.1, hL.2.1, rfl, hL.2.2.1⟩
                have hA3 := hAt.after hga hps
                obtain ⟨_, t1, t3⟩ := ht.of
                obtain ⟨_, v1, v3⟩ := hi2.of
                exact ⟨⟨hA3.1, hA3.2.1, hA3.2.2.2, by rw [hps]; exact HPA.out⟩, t1, v1, t3, v3, hf.of.2.1, hl.of.2.1⟩
              have HJ6 : Hid (j ≤ 6) := T10.out.2.2.2.1
              have HFL : Hid ((fresh i j).length = j) := fresh_len i j
              clear hga hps T5 T10 HOK HPA HAH HUD
              obtain ⟨fr, hfr⟩ : ∃ l, fresh i j = l := ⟨_, rfl⟩
              obtain ⟨lk, hlk⟩ : ∃ l, x.ls.take j = l := ⟨_, rfl⟩
              rw [hfr, hlk] at S3
              rw [hfr] at HFL
              clear hfr hlk
              go_wp2_with fail
              have HQ0t : Hid (k ≤ n ∧ n ≤ tc) := ⟨HKN.out, S3.out.2.2.2.1⟩
              have HQ0i : Hid (k ≤ n ∧ n ≤ ic) := ⟨HKN.out, S3.out.2.2.2.2.1⟩
              have HN1 : Hid (n + j ≤ 1000) := by show n + j ≤ 1000; have := HN150.out; have := HJ6.out; omega
              refine pl31 S3.out.2.1 HQ0t HN1 S3.out.2.2.2.2.2.2 ?_
              intro V4 r1 v1 v2 v3 hb4 ho4
              have S4 : Hid (Below V3.heap.size V3 V4 ∧ OT9 V3.heap.size V4 v3 (0 + k + j + (n - k)) ([] ++ ts.take k ++ lk ++ ts.drop k)) := ⟨hb4, ho4⟩
              clear hb4 ho4
              go_wp2_with fail
              refine pl32 (S3.out.2.2.1.below S4.out.1) HQ0i HN1 (S3.out.2.2.2.2.2.1.below S4.out.1) ?_
              intro V5 r2 v4 v5 v6 hb5 ho5
              have S5 : Hid (LP w p (i + 1) v3 v6 G' (ids.take k ++ fr ++ ids.drop k) (ts.take k ++ lk ++ ts.drop k) V5) := by
                have hk2 := HKN.out
                have hlen : (ids.take k ++ fr ++ ids.drop k).length = k + j + (n - k) := by
                  rw [List.length_append, List.length_append, List.length_take, List.length_drop, S3.out.2.2.1.1, HFL.out]
                  omega
                have h4 := S4.out.2
                rw [Nat.zero_add, List.nil_append] at h4 ho5
                have hb := below_tr S4.out.1 hb5
                have hs := S3.out.1.2.2.1.size
                have hs4 := S4.out.1.size
                refine ⟨S3.out.1.1.below hb, S3.out.1.2.1, below_tr S3.out.1.2.2.1 hb, S3.out.1.2.2.2, by rw [hlen]; exact (h4.below hb5).lo hs, by rw [hlen]; exact ho5.lo (Nat.le_trans hs hs4), fun gg hgg hm => ?_, fun gg hgg hm => ?_⟩
                · have h1 := (h4.blk hgg).1
                  have h2 := S3.out.1.1.lt gg hm
                  omega
                · have h1 := (ho5.own hgg).1
                  have h2 := S3.out.1.1.lt gg hm
                  omega
              clear hb5 ho5 S4 S3 HQ0t HQ0i HN1
              obtain ⟨ids2, hids2⟩ : ∃ l, ids.take k ++ fr ++ ids.drop k = l := ⟨_, rfl⟩
              obtain ⟨ts2, hts2⟩ : ∃ l, ts.take k ++ lk ++ ts.drop k = l := ⟨_, rfl⟩
              rw [hids2, hts2] at S5
              clear hids2 hts2
              obtain ⟨n2, ta2, tc2, rfl⟩ : ∃ n a c, v3 = .slice a n c := by
                obtain ⟨a, c, e, _⟩ := S5.out.2.2.2.2.1.read
                exact ⟨_, a, c, e⟩
              go_wp2_with fail
              refine (text_pl S5.out.1 S5.out.2.2.2.1).mono ?_
              rintro e Z1 ⟨xa, xn, xc, rfl, HX, HB⟩
              have HZ1 := hid_of (LP.below S5.out HB.out)
              have HX1 := HX
              clear HX HB
              go_wp2_with fail
              have HXR := hid_of HZ1.out.txt.2.1
              refine (texts_is Z1 xa ta2 xn n2 xc tc2 ts2 ts2 HX1.out HXR.out (by have h1 := HX1.out.1; unfold strs at h1; rw [List.length_map, HZ1.out.2.2.2.1.tlen] at h1; have h2 := HZ1.out.2.2.2.1.ilen; have h3 := HI25.out; omega) (by have h2 := HZ1.out.2.2.2.1.ilen; have h3 := HI25.out; have h4 := HZ1.out.txt.1.1; have h5 := HZ1.out.2.2.2.1.tlen; omega) true (by simp)).mono ?_
              rintro e Z2 ⟨rfl, hb⟩
              have HZ2 := hid_of (LP.below HZ1.out hb)
              clear hb HZ1 HX1 HXR
              go_wp2_with fail
              refine (conf_pl HZ2.out.1 HZ2.out.2.2.2.1).mono ?_
              rintro e Z3 ⟨rfl, hb⟩
              have HZ3 := hid_of (LP.below HZ2.out hb)
              clear hb HZ2
              have HLT : Hid (i < n0 ∧ i < 25) := HLT0.out
              go_wp2
              refine ⟨⟨i + 1, G', ids2, ts2, by simp, HLT.out.1, HLT.out.2, HZ3.out⟩, ?_⟩
              have := HLT.out.1; simp [intOf]; omega
    · have q1 : ¬ (i : Int) < (n0 : Int) := by omega
      have hh := HI.out.2.2
      rw [HLN.out] at hh
      have HH := hid_of hh
      clear hh hi
      go_wp2_with fail
      refine (text_pl HH.out.1 HH.out.2.2.2.1).mono ?_
      rintro e Z1 ⟨xa, xn, xc, rfl, HX, HB⟩
      have HZ1 := hid_of (LP.below HH.out HB.out)
      have HX1 := HX
      clear HX HB
      go_wp2_with fail
      have HXR := hid_of HZ1.out.txt.2.1
      refine (texts_is Z1 xa ta xn n xc tc ts ts HX1.out HXR.out (by have h1 := HX1.out.1; unfold strs at h1; rw [List.length_map, HZ1.out.2.2.2.1.tlen] at h1; have h2 := HZ1.out.2.2.2.1.ilen; have h3 := HI25.out; omega) (by have h2 := HZ1.out.2.2.2.1.ilen; have h3 := HI25.out; have h4 := HZ1.out.txt.1.1; have h5 := HZ1.out.2.2.2.1.tlen; omega) true (by simp)).mono ?_
      rintro e Z2 ⟨rfl, hb⟩
      have HZ2 : Hid (Below w.heap.size w Z2) := below_tr HZ1.out.2.2.1 hb
      clear hb HZ1 HX1 HXR
      go_wp2_with fail
      refine (lives_is Z2).mono ?_
      rintro e Z3 ⟨rfl, hb⟩
      have HZ3 : Hid (Below w.heap.size w Z3) := below_tr HZ2.out hb
      clear hb
      go_wp2
      go_ret
      exact ⟨rfl, HZ3.out⟩
end Go.Proofs.Ytjcihaohpbmogaa.Oct
