/-
  Layer 10 (patch): Encode of the reference; Name of both sides.
-/
import Derived.Test.YtgdecjacbkicmaaDoorQkD
import Derived.Test.YtgdecjacbkicmaaDoorQkUlr
import Derived.Test.YtgdecjacbkicmaaDoorQkB
import Derived.Test.YtgdecjacbkicmaaDoorQkH
import Derived.Deep.MidRow
import Derived.Deep.RegionHeld
/- Layer 10 (patch): Encode of the reference; Name of both sides. -/
namespace Go.Proofs.YtgdecjacbkicmaaDoor.Oct
open Go.RowKit
set_option maxRecDepth 100000
set_option linter.unusedSimpArgs false
set_option linter.unusedVariables false

theorem toH {w : World} {a : Option Addr} {n c : Nat} {l : List UInt8} (h : In w a n c l) : Hsh.In w a n c l := h
def KS (w : World) : Prop := Hsh.KT w ∧ Hsh.ST w
theorem KS.below {w w' : World} (h : KS w) (hb : Below w.heap.size w w') : KS w' := ⟨h.1.below hb, h.2.below hb⟩
theorem encO_len2 (D : List Hs) (o : OpV) (hD : D.length ≤ 100000) (h : opB D o = true) (ho : o.ts.length = o.ln) (hln : o.ln ≤ 64) : (encO D o).length ≤ 200 + 210 * o.ln := by
  obtain ⟨h1, h2⟩ := op_of h
  have hp := encT_len o.path (by have := path_len h1; omega)
  have hp2 := path_len h1
  unfold encO
  rw [List.length_cons, List.length_append, List.length_append]
  rcases h2 with ⟨hk, _, hb, hu, hd⟩ | ⟨hk, _, hd, hu⟩
  · rw [if_pos hk, List.length_append, List.length_append]
    have a1 := encV_len D o.up hD hu
    have a2 := encV_len D o.dn hD hd
    have a3 := enc_ten o.ln (by omega)
    have a4 := flat_len encT 210 o.ts (fun t ht => by have := (not_bad (hb t ht)).1; have := encT_len t (by omega); omega)
    rw [ho] at a4
    omega
  · rw [if_neg (by omega)]
    have a1 := encV_len D o.up hD (.inr (.inr hu))
    simp only [List.length_nil]
    omega
theorem flat_len2 (D : List Hs) : ∀ (O : List OpV), (∀ o ∈ O, (encO D o).length ≤ 200 + 210 * o.ln) → (O.flatMap (encO D)).length ≤ 200 * O.length + 210 * many O
  | [], _ => by simp
  | x :: O, h => by
    have ih := flat_len2 D O (fun y hy => h y (by simp [hy]))
    have h1 := h x (by simp)
    have e : many (x :: O) = x.ln + many O := by unfold many; rw [List.map_cons, List.sum_cons]
    rw [List.flatMap_cons, List.length_append, List.length_cons, e, Nat.mul_add, Nat.mul_add, Nat.mul_one]
    omega
theorem ptB_len2 {w : World} {p : PV} (h : PR w p) (hc : chk p = 0) : (ptB p).length ≤ 100000 := by
  obtain ⟨hh, hdd, hoo⟩ := chk_of hc
  obtain ⟨s1, s2, s3, s4, _⟩ := head_of hh
  obtain ⟨s5, _⟩ := deps_of hdd
  obtain ⟨s6, s7, s8, s9⟩ := ops_of hoo
  have dl := h.deps.1
  have ol := h.ops.1
  have a1 := encT_len p.au (by omega)
  have a2 := enc_ten p.tm.toNat (by omega)
  have a3 := encT_len p.nt (by omega)
  have a4 := enc_ten p.dn (by omega)
  have a5 := enc_ten p.on (by omega)
  have a6 := flat_len id 32 p.D (fun x hx => Nat.le_of_eq (h.deps.2.1 x hx))
  have a7 := flat_len2 p.D p.O (fun x hx => encO_len2 p.D x (by omega) (s9 x hx) (h.ops.2.1 x hx).1.2.2.1 (by have := many_mem hx; omega))
  unfold ptB
  simp only [List.length_cons, List.length_append]
  omega
/-- the bytes of a patch, or none -/
def ebs (p : PV) (E : Int) : List UInt8 := if E = 0 then ptB p else []
/-- the hash of a patch, or none -/
def ehs (p : PV) (E : Int) : List UInt8 := if E = 0 then Sha.sum (ptB p) else z32
theorem ehs_len (p : PV) (E : Int) : (ehs p E).length = 32 := by
  unfold ehs
  split
  · exact Hsh.sum_length _
  · rfl
theorem encode_ebs (w : World) (p : PV) (h : PR w p) (E : Int) (hE : chk p = E) (L : List UInt8) (hL : ebs p E = L) : Calls Tryd.prog 6 #[.agg p.cells.toArray] w fun e w' => ∃ (va : Option Addr) (n c : Nat), e = .returned (.tuple #[.slice va n c, iv E]) ∧ In w' va n c L ∧ Below w.heap.size w w' := by
  refine (encode_is w p h).mono ?_
  rintro e w' ⟨h1, hb⟩
  subst hL
  unfold ebs
  rcases h1 with ⟨hc, rfl⟩ | ⟨hc, va, n, c, rfl, ho, hn⟩
  · rw [if_neg (by rw [← hE]; exact hc)]
    exact ⟨none, 0, 0, by rw [hE], In.nil w', hb⟩
  · rw [if_pos (by rw [← hE]; exact hc)]
    refine ⟨va, n, c, by rw [← hE, hc], ?_, hb⟩
    exact own_inn ho.out (by have := ptB_len h hc; omega)
set_option maxHeartbeats 4000000 in
theorem rencode_is (w : World) (p : PV) (h : PR w p) (hz : p.dn ≤ 100000) (E : Int) (hE : chk p = E) (L : List UInt8) (hL : ebs p E = L) : Calls Tryd.prog 8 #[.agg p.cells.toArray] w fun e w' => ∃ (va : Option Addr) (n c : Nat), e = .returned (.tuple #[.slice va n c, iv E]) ∧ In w' va n c L ∧ Below w.heap.size w w' := by
  obtain ⟨d1, hd1⟩ : ∃ d, w.heap.size = d := ⟨_, rfl⟩
  obtain ⟨W, hW⟩ : ∃ W, w.alloc (.cells p.cells.toArray 25) = W := ⟨_, rfl⟩
  have b1 : Below w.heap.size w W := by rw [← hW]; exact below_al _ _
  have k1 : Blk W d1 25 p.cells := by rw [← hW, ← hd1]; exact Blk.new w _ _
  have H0 : Hid (Below w.heap.size w W ∧ Blk W d1 25 p.cells ∧ PR W p ∧ p.dn ≤ 100000 ∧ chk p = E ∧ ebs p E = L) := ⟨b1, k1, h.below b1, hz, hE, hL⟩
  clear h hz hE hL b1 k1
  go_enter Tryd.func8, Tryd.ntmps8
  go_wp2_with (with_reducible change wpList _ _ _ ({ dst := some 5, op := _, type := _, pos := _, after := _, guard := _ } :: _) _ _; refine Hid.out ?_)
  show wpList _ _ _ _ _ _
  refine wpList_load_mid rfl 25 (.tmp 1) rfl d1 0 rfl p.cells _ H0.out.2.1.range0 Tryd.underlying25 rfl (info25 p) ?_
  clear hd1 hW
  go_wp2_with fail
  refine (rcheck_is W p H0.out.2.2.1 H0.out.2.2.2.1 E H0.out.2.2.2.2.1).mono ?_
  rintro e W1 ⟨rfl, hb1⟩
  have H1 : Hid (Below w.heap.size w W1 ∧ Blk W1 d1 25 p.cells ∧ PR W1 p) := ⟨below_tr H0.out.1 hb1, H0.out.2.1.below hb1 H0.out.2.1.lt, H0.out.2.2.1.below hb1⟩
  clear hb1
  by_cases hE0 : E = 0
  · subst hE0
    have hl := H0.out.2.2.2.2.2
    unfold ebs at hl
    rw [if_pos rfl] at hl
    have HLp : Hid (ptB p = L) := hl
    clear hl
    go_wp2_with (with_reducible change wpList _ _ _ ({ dst := some 10, op := _, type := _, pos := _, after := _, guard := _ } :: _) _ _; refine Hid.out ?_)
    show wpList _ _ _ _ _ _
    refine wpList_load_mid rfl 25 (.tmp 1) rfl d1 0 rfl p.cells _ H1.out.2.1.range0 Tryd.underlying25 rfl (info25 p) ?_
    go_wp2_with fail
    refine (bytes_is W1 p H1.out.2.2 H0.out.2.2.2.2.1 L HLp.out).mono ?_
    rintro e W2 ⟨va, n, c, rfl, hin, hb2⟩
    have HF : Hid (In W2 va n c L ∧ Below w.heap.size w W2) := ⟨hin, below_tr H1.out.1 hb2⟩
    clear hin hb2
    go_wp2
    go_ret2
    exact ⟨va, n, c, rfl, HF.out.1, HF.out.2⟩
  · have e1 : (E != 0) = true := by simpa using hE0
    have hl := H0.out.2.2.2.2.2
    unfold ebs at hl
    rw [if_neg hE0] at hl
    have HF : Hid (In W1 none 0 0 L ∧ Below w.heap.size w W1) := ⟨by rw [← hl]; exact In.nil W1, H1.out.1⟩
    clear hE0 hl
    go_wp2
    go_ret2
    exact ⟨none, 0, 0, rfl, HF.out.1, HF.out.2⟩
theorem built36z : Tryd.prog.built 36 [] = some (U z32).toArray := by kernel_rfl
set_option maxHeartbeats 4000000 in
theorem pname_is (w : World) (p : PV) (h : PR w p) (hz : p.dn ≤ 100000) (hk : KS w) (E : Int) (hE : chk p = E) (H : List UInt8) (hH : ehs p E = H) : Calls Tryd.prog 9 #[.agg p.cells.toArray] w fun e w' => e = .returned (.tuple #[.agg (U H).toArray, iv E]) ∧ Below w.heap.size w w' := by
  have hH32 : H.length = 32 := by rw [← hH]; exact ehs_len p E
  obtain ⟨Z, hZ, HZ⟩ := zero47
  obtain ⟨d1, hd1⟩ : ∃ d, w.heap.size = d := ⟨_, rfl⟩
  obtain ⟨Wa, hWa⟩ : ∃ W, w.alloc (.cells p.cells.toArray 25) = W := ⟨_, rfl⟩
  obtain ⟨d2, hd2⟩ : ∃ d, Wa.heap.size = d := ⟨_, rfl⟩
  obtain ⟨W, hW⟩ : ∃ W, Wa.alloc (.cells Z.toArray 36) = W := ⟨_, rfl⟩
  have b1 : Below w.heap.size w Wa := by rw [← hWa]; exact below_al _ _
  have b2 : Below Wa.heap.size Wa W := by rw [← hW]; exact below_al _ _
  have k1 : Blk Wa d1 25 p.cells := by rw [← hWa, ← hd1]; exact Blk.new w _ _
  have k2 : Blk W d2 36 Z := by rw [← hW, ← hd2]; exact Blk.new Wa _ _
  have HZL : Hid (Z.length = 32) := by show _ = _; rw [HZ.out]; rfl
  have H0 : Hid (Below w.heap.size w W ∧ Blk W d1 25 p.cells ∧ Blk W d2 36 Z ∧ PR W p ∧ KS W ∧ chk p = E ∧ w.heap.size ≤ d2 ∧ H.length = 32 ∧ ehs p E = H ∧ p.dn ≤ 100000) := ⟨below_tr b1 b2, k1.below b2 k1.lt, k2, h.below (below_tr b1 b2), hk.below (below_tr b1 b2), hE, by have := b1.size; omega, hH32, hH, hz⟩
  clear h hz hk hE hH b1 b2 k1 k2 HZ hH32
  go_enter Tryd.func9, Tryd.ntmps9
  go_wp2_with (with_reducible change wpList _ _ _ ({ dst := some 7, op := _, type := _, pos := _, after := _, guard := _ } :: _) _ _; refine Hid.out ?_)
  show wpList _ _ _ _ _ _
  refine wpList_load_mid rfl 25 (.tmp 1) rfl d1 0 rfl p.cells _ H0.out.2.1.range0 Tryd.underlying25 rfl (info25 p) ?_
  clear hd1 hWa hd2 hW
  go_wp2_with fail
  obtain ⟨L, hL⟩ : ∃ L, ebs p E = L := ⟨_, rfl⟩
  have HLb : Hid (ebs p E = L) := hL
  clear hL
  refine (encode_ebs W p H0.out.2.2.2.1 E H0.out.2.2.2.2.2.1 L HLb.out).mono ?_
  rintro e V2 ⟨va, n, c, rfl, hin, hb2⟩
  have H2 : Hid (Below w.heap.size w V2 ∧ Blk V2 d2 36 Z ∧ KS V2 ∧ In V2 va n c L) := ⟨below_tr H0.out.1 hb2, H0.out.2.2.1.below hb2 H0.out.2.2.1.lt, H0.out.2.2.2.2.1.below hb2, hin⟩
  clear hin hb2
  by_cases hE0 : E = 0
  · subst hE0
    have hl := H0.out.2.2.2.2.2.2.2.2.1
    unfold ehs at hl
    rw [if_pos rfl] at hl
    have HS : Hid (Sha.sum (ptB p) = H ∧ (ptB p).length ≤ 100000) := ⟨hl, ptB_len2 H0.out.2.2.2.1 H0.out.2.2.2.2.2.1⟩
    clear hl
    have hlb := HLb.out
    unfold ebs at hlb
    rw [if_pos rfl] at hlb
    have HN : Hid (n < 900000000000 ∧ Sha.sum L = H) := ⟨by have h2 := H2.out.2.2.2.1; have h3 := HS.out.2; rw [hlb] at h3; omega, by rw [← hlb]; exact HS.out.1⟩
    clear hlb
    go_wp2_with fail
    refine (Hsh.sum_is' L H HN.out.2 va n c V2 H2.out.2.2.1.1 H2.out.2.2.1.2 (toH H2.out.2.2.2) HN.out.1).mono ?_
    rintro e V3 ⟨rfl, hb3⟩
    have H3 : Hid (Below w.heap.size w V3 ∧ Blk V3 d2 36 Z) := ⟨below_tr H2.out.1 hb3.out, H2.out.2.1.below hb3.out H2.out.2.1.lt⟩
    clear hb3
    go_wp2_with (with_reducible change wpList _ _ _ ({ dst := none, op := Op.store 36 _ _, type := _, pos := _, after := _, guard := _ } :: _) _ _; refine Hid.out ?_)
    show wpList _ _ _ _ _ _
    refine wpList_store_blk rfl 36 (.tmp 2) (.tmp 16) rfl d2 0 36 Z (U H) rfl rfl H3.out.2 (by rw [HZL.out, U_length, H0.out.2.2.2.2.2.2.2.1]; omega) (info47 _ H0.out.2.2.2.2.2.2.2.1) (U_one _) ?_
    intro W9 hx hgs
    have HF : Hid (Blk W9 d2 36 (U H) ∧ Below w.heap.size w W9) := ⟨blk_all hx.out (by rw [HZL.out, U_length, H0.out.2.2.2.2.2.2.2.1]), below_gr H3.out.1 hgs.out H0.out.2.2.2.2.2.2.1⟩
    clear hx hgs
    go_wp2
    exact ret_cu rfl rfl rfl HF.out.1 Tryd.underlying36 rfl (info47 _ H0.out.2.2.2.2.2.2.2.1) ⟨rfl, HF.out.2⟩
  · have e1 : (E != 0) = true := by simpa using hE0
    have hl := H0.out.2.2.2.2.2.2.2.2.1
    unfold ehs at hl
    rw [if_neg hE0] at hl
    subst hl
    have H3 : Hid (Below w.heap.size w V2 ∧ Blk V2 d2 36 Z) := ⟨H2.out.1, H2.out.2.1⟩
    have HBL := built36z
    clear hE0
    go_wp2_with (with_reducible change wpList _ _ _ ({ dst := some 13, op := _, type := _, pos := _, after := _, guard := _ } :: _) _ _; refine Hid.out ?_)
    show wpList _ _ _ _ _ _
    refine wpList_built rfl 36 _ rfl (U z32).toArray (by rw [← HBL]; first | (simp; done) | (simp; rfl)) ?_
    clear HBL
    go_wp2_with (with_reducible change wpList _ _ _ ({ dst := none, op := Op.store 36 _ _, type := _, pos := _, after := _, guard := _ } :: _) _ _; refine Hid.out ?_)
    show wpList _ _ _ _ _ _
    refine wpList_store_blk rfl 36 (.tmp 2) (.tmp 13) rfl d2 0 36 Z (U z32) rfl rfl H3.out.2 (by rw [HZL.out, U_length]; show 0 + 32 ≤ 32; omega) (info47 _ (show z32.length = 32 from rfl)) (U_one _) ?_
    intro W9 hx hgs
    have HF : Hid (Blk W9 d2 36 (U z32) ∧ Below w.heap.size w W9) := ⟨blk_all hx.out (by rw [HZL.out, U_length]; rfl), below_gr H3.out.1 hgs.out H0.out.2.2.2.2.2.2.1⟩
    clear hx hgs
    go_wp2
    exact ret_cu rfl rfl rfl HF.out.1 Tryd.underlying36 rfl (info47 _ (show z32.length = 32 from rfl)) ⟨rfl, HF.out.2⟩
set_option maxHeartbeats 4000000 in
theorem prname_is (w : World) (p : PV) (h : PR w p) (hz : p.dn ≤ 100000) (hk : KS w) (E : Int) (hE : chk p = E) (H : List UInt8) (hH : ehs p E = H) : Calls Tryd.prog 10 #[.agg p.cells.toArray] w fun e w' => e = .returned (.tuple #[.agg (U H).toArray, iv E]) ∧ Below w.heap.size w w' := by
  have hH32 : H.length = 32 := by rw [← hH]; exact ehs_len p E
  obtain ⟨Z, hZ, HZ⟩ := zero47
  obtain ⟨d1, hd1⟩ : ∃ d, w.heap.size = d := ⟨_, rfl⟩
  obtain ⟨Wa, hWa⟩ : ∃ W, w.alloc (.cells p.cells.toArray 25) = W := ⟨_, rfl⟩
  obtain ⟨d2, hd2⟩ : ∃ d, Wa.heap.size = d := ⟨_, rfl⟩
  obtain ⟨W, hW⟩ : ∃ W, Wa.alloc (.cells Z.toArray 36) = W := ⟨_, rfl⟩
  have b1 : Below w.heap.size w Wa := by rw [← hWa]; exact below_al _ _
  have b2 : Below Wa.heap.size Wa W := by rw [← hW]; exact below_al _ _
  have k1 : Blk Wa d1 25 p.cells := by rw [← hWa, ← hd1]; exact Blk.new w _ _
  have k2 : Blk W d2 36 Z := by rw [← hW, ← hd2]; exact Blk.new Wa _ _
  have HZL : Hid (Z.length = 32) := by show _ = _; rw [HZ.out]; rfl
  have H0 : Hid (Below w.heap.size w W ∧ Blk W d1 25 p.cells ∧ Blk W d2 36 Z ∧ PR W p ∧ KS W ∧ chk p = E ∧ w.heap.size ≤ d2 ∧ H.length = 32 ∧ ehs p E = H ∧ p.dn ≤ 100000) := ⟨below_tr b1 b2, k1.below b2 k1.lt, k2, h.below (below_tr b1 b2), hk.below (below_tr b1 b2), hE, by have := b1.size; omega, hH32, hH, hz⟩
  clear h hz hk hE hH b1 b2 k1 k2 HZ hH32
  go_enter Tryd.func10, Tryd.ntmps10
  go_wp2_with (with_reducible change wpList _ _ _ ({ dst := some 5, op := _, type := _, pos := _, after := _, guard := _ } :: _) _ _; refine Hid.out ?_)
  show wpList _ _ _ _ _ _
  refine wpList_load_mid rfl 25 (.tmp 1) rfl d1 0 rfl p.cells _ H0.out.2.1.range0 Tryd.underlying25 rfl (info25 p) ?_
  clear hd1 hWa hd2 hW
  go_wp2_with fail
  refine (rcheck_is W p H0.out.2.2.2.1 H0.out.2.2.2.2.2.2.2.2.2 E H0.out.2.2.2.2.2.1).mono ?_
  rintro e V2 ⟨rfl, hb2⟩
  have H2 : Hid (Below w.heap.size w V2 ∧ Blk V2 d2 36 Z ∧ Blk V2 d1 25 p.cells ∧ PR V2 p) := ⟨below_tr H0.out.1 hb2, H0.out.2.2.1.below hb2 H0.out.2.2.1.lt, H0.out.2.1.below hb2 H0.out.2.1.lt, H0.out.2.2.2.1.below hb2⟩
  clear hb2
  by_cases hE0 : E = 0
  · subst hE0
    have hl := H0.out.2.2.2.2.2.2.2.2.1
    unfold ehs at hl
    rw [if_pos rfl] at hl
    have HS : Hid (Sha.sum (ptB p) = H ∧ (ptB p).length ≤ 100000) := ⟨hl, ptB_len2 H0.out.2.2.2.1 H0.out.2.2.2.2.2.1⟩
    clear hl
    go_wp2_with (with_reducible change wpList _ _ _ ({ dst := some 11, op := _, type := _, pos := _, after := _, guard := _ } :: _) _ _; refine Hid.out ?_)
    show wpList _ _ _ _ _ _
    refine wpList_load_mid rfl 25 (.tmp 1) rfl d1 0 rfl p.cells _ H2.out.2.2.1.range0 Tryd.underlying25 rfl (info25 p) ?_
    go_wp2_with fail
    refine (bytes_is V2 p H2.out.2.2.2 H0.out.2.2.2.2.2.1 _ rfl).mono ?_
    rintro e V4 ⟨va, n, c, rfl, hin, hb4⟩
    have H4 : Hid (Below w.heap.size w V4 ∧ Blk V4 d2 36 Z ∧ In V4 va n c (ptB p)) := ⟨below_tr H2.out.1 hb4, H2.out.2.1.below hb4 H2.out.2.1.lt, hin⟩
    clear hin hb4 H2
    have H2 := H4
    go_wp2_with fail
    refine (Hsh.refIs (ptB p) H HS.out.1 va n c V4 (toH H4.out.2.2) (by have := H4.out.2.2.1; have := HS.out.2; omega)).mono ?_
    rintro e V3 ⟨rfl, hb3⟩
    have H3 : Hid (Below w.heap.size w V3 ∧ Blk V3 d2 36 Z) := ⟨below_tr H2.out.1 hb3.out, H2.out.2.1.below hb3.out H2.out.2.1.lt⟩
    clear hb3
    go_wp2_with (with_reducible change wpList _ _ _ ({ dst := none, op := Op.store 36 _ _, type := _, pos := _, after := _, guard := _ } :: _) _ _; refine Hid.out ?_)
    show wpList _ _ _ _ _ _
    refine wpList_store_blk rfl 36 (.tmp 2) (.tmp 13) rfl d2 0 36 Z (U H) rfl rfl H3.out.2 (by rw [HZL.out, U_length, H0.out.2.2.2.2.2.2.2.1]; omega) (info47 _ H0.out.2.2.2.2.2.2.2.1) (U_one _) ?_
    intro W9 hx hgs
    have HF : Hid (Blk W9 d2 36 (U H) ∧ Below w.heap.size w W9) := ⟨blk_all hx.out (by rw [HZL.out, U_length, H0.out.2.2.2.2.2.2.2.1]), below_gr H3.out.1 hgs.out H0.out.2.2.2.2.2.2.1⟩
    clear hx hgs
    go_wp2
    exact ret_cu rfl rfl rfl HF.out.1 Tryd.underlying36 rfl (info47 _ H0.out.2.2.2.2.2.2.2.1) ⟨rfl, HF.out.2⟩
  · have e1 : (E != 0) = true := by simpa using hE0
    have hl := H0.out.2.2.2.2.2.2.2.2.1
    unfold ehs at hl
    rw [if_neg hE0] at hl
    subst hl
    have H3 : Hid (Below w.heap.size w V2 ∧ Blk V2 d2 36 Z) := ⟨H2.out.1, H2.out.2.1⟩
    have HBL := built36z
    clear hE0
    go_wp2_with (with_reducible change wpList _ _ _ ({ dst := some 9, op := _, type := _, pos := _, after := _, guard := _ } :: _) _ _; refine Hid.out ?_)
    show wpList _ _ _ _ _ _
    refine wpList_built rfl 36 _ rfl (U z32).toArray (by rw [← HBL]; first | (simp; done) | (simp; rfl)) ?_
    clear HBL
    go_wp2_with (with_reducible change wpList _ _ _ ({ dst := none, op := Op.store 36 _ _, type := _, pos := _, after := _, guard := _ } :: _) _ _; refine Hid.out ?_)
    show wpList _ _ _ _ _ _
    refine wpList_store_blk rfl 36 (.tmp 2) (.tmp 9) rfl d2 0 36 Z (U z32) rfl rfl H3.out.2 (by rw [HZL.out, U_length]; show 0 + 32 ≤ 32; omega) (info47 _ (show z32.length = 32 from rfl)) (U_one _) ?_
    intro W9 hx hgs
    have HF : Hid (Blk W9 d2 36 (U z32) ∧ Below w.heap.size w W9) := ⟨blk_all hx.out (by rw [HZL.out, U_length]; rfl), below_gr H3.out.1 hgs.out H0.out.2.2.2.2.2.2.1⟩
    clear hx hgs
    go_wp2
    exact ret_cu rfl rfl rfl HF.out.1 Tryd.underlying36 rfl (info47 _ (show z32.length = 32 from rfl)) ⟨rfl, HF.out.2⟩
end Go.Proofs.YtgdecjacbkicmaaDoor.Oct
