/-
  Layer 16 (token): how a token is written.
  Layer 2 (hash): 'Equal'.
  Layer 3 (mac): 'Check', and the law on it, walked.
  Layer 2 (hash): 'Unhex', and what is read of what 'Hex' tells.
  Layer 2 (hash): 'Unhex'.
  Layer 16 (token): strings.LastIndex, laid.
-/
import Derived.Test.YtjeahlfmapacfaaDoorTagAll
import Derived.Test.YtjeahlfmapacfaaDoorHex
import Derived.Test.YtjeahlfmapacfaaDoorItoa
import Derived.Test.YtjeahlfmapacfaaDoorMem
import Derived.WalkLawsBesides
import Derived.Lib.AppendIntMem
import Derived.Test.YtjeahlfmapacfaaDoorRot
import Derived.Test.YtjeahlfmapacfaaDoorArgs
import Derived.Deep.Draws
import Derived.Test.YtjeahlfmapacfaaDoorRows
import Derived.Shelf.Strings.LastIndex
import Derived.WalkKit
import Derived.Below
/- Layer 16 (token): how a token is written. -/
namespace Go.Proofs.YtjeahlfmapacfaaDoor.Oct
open Go.RowKit Sha
set_option linter.unusedSimpArgs false
set_option linter.unusedVariables false

abbrev iv (n : Int) : Value := .int .i64 n
abbrev bv (n : Int) : Value := .int .u8 n
abbrev BA := ByteArray
abbrev e0 : BA := ⟨#[]⟩
theorem toList_d (s : BA) : s.toList = s.data.toList := ByteArray.toList_eq s
theorem ba_ext {s t : BA} (h : s.data.toList = t.data.toList) : s = t := by
  have : s.data = t.data := Array.toList_inj.1 h
  cases s; cases t; simpa using this
theorem below_al (w : World) (o : Obj) : Below w.heap.size w (w.alloc o) := (Below.refl _ w).alloc (Nat.le_refl _) o
theorem below_tr {w w1 w2 : World} (h : Below w.heap.size w w1) (k : Below w1.heap.size w1 w2) : Below w.heap.size w w2 := h.trans (k.mono h.size)
theorem below_drew0 (A : World) : Below A.heap.size A A.drew := ⟨rfl, rfl, rfl, Nat.le_refl _, fun _ _ => rfl⟩
theorem below_gr {w w1 w2 : World} {g : Nat} (h : Below w.heap.size w w1) (k : w1.grownBy w2 (some g)) (hg : w.heap.size ≤ g) : Below w.heap.size w w2 :=
  h.grown k h.size (fun j hj => by cases hj; exact hg)
theorem gr_of {w w' : World} {r : Option Nat} (h : Below w.heap.size w w') : w.grownBy w' r := ⟨h.os, h.tape, h.output, h.size, fun k hk _ => h.block k hk⟩
theorem blk_all {w : World} {b : Nat} {t : TypeId} {L cs : List Value} (h : Blk w b t (L.take 0 ++ cs ++ L.drop (0 + cs.length))) (hl : L.length = cs.length) : Blk w b t cs := by
  have e : L.take 0 ++ cs ++ L.drop (0 + cs.length) = cs := by rw [Nat.zero_add, ← hl, List.drop_length]; simp
  rw [e] at h
  exact h
theorem dec_small {u : Nat} (h : u < 10) : Lib.decDigits u = [UInt8.ofNat (48 + u)] := by rw [Lib.decDigits, dif_pos h]
theorem dec_big {u : Nat} (h : ¬ u < 10) : Lib.decDigits u = Lib.decDigits (u / 10) ++ Lib.decDigits (u % 10) := by
  rw [Lib.decDigits, dif_neg h, dec_small (u := u % 10) (by omega)]
theorem dec_ten : ∀ (k u : Nat), u < 10 ^ (k + 1) → (Lib.decDigits u).length ≤ k + 1
  | 0, u, h => by rw [dec_small (by simpa using h)]; simp
  | k + 1, u, h => by
    by_cases h1 : u < 10
    · rw [dec_small h1]; simp
    · have h2 := dec_ten k (u / 10) (by rw [Nat.pow_succ] at h; exact Nat.div_lt_of_lt_mul (by rw [Nat.mul_comm]; exact h))
      rw [dec_big h1, List.length_append, dec_small (u := u % 10) (by omega)]
      simp
      omega
theorem dec_len (u : Nat) (h : u ≤ 1099511627776) : (Lib.decDigits u).length ≤ 13 := dec_ten 12 u (by omega)
def PT (w : World) : Prop := Lib.TabIs Tryd.prog w "internal/strconv.uint64pow10" .u64 Lib.pow10Tab
theorem PT.below {w w' : World} (h : PT w) (hb : Below w.heap.size w w') : PT w' := Lib.tabBelow_of_tabIs h w' hb
theorem below_grow (w : World) (k : Nat) (os : Array Obj) : Below w.heap.size w (Sort.grow (w.drewN k) os) := by
  refine ⟨rfl, rfl, rfl, ?_, fun j hj => ?_⟩
  · rw [Sort.size_grow]; exact Nat.le_add_right _ _
  · show (w.heap ++ os)[j]? = w.heap[j]?
    rw [Array.getElem?_append_left hj]
theorem itoa_b (n : Nat) (hn : n ≤ 1099511627776) (w : World) (h : PT w) (s : BA) (hs : s = ⟨(Lib.decDigits n).toArray⟩) : Calls Tryd.prog 33 #[iv (n : Int)] w fun e w' => e = .returned (.string s) ∧ Below w.heap.size w w' := by
  subst hs
  refine (itoa_is (n : Int) (by omega) (by omega) w h).mono ?_
  rintro e w' ⟨rfl, k, os, rfl⟩
  refine ⟨?_, below_grow w k os⟩
  unfold Lib.itoa
  rw [if_neg (by omega)]
  rfl


/-- the cells behind the elements may be written -/
def Spare (w : World) (b n cap : Nat) : Prop := ∀ j, n ≤ j → j < cap → (w.cell? ⟨b, j, none⟩).isSome = true ∧ w.frozen? ⟨b, j, none⟩ = false

theorem bytesRow_size (s : ByteArray) (cap : Nat) (h : s.size ≤ cap) : (bytesRow s cap).size = cap := by
  have e : s.data.size = s.size := rfl
  simp only [bytesRow, Array.size_append, Array.size_map, Array.size_replicate]
  omega

/-- '[]byte(s)' -/
theorem label_made {P : Program} (w : World) (src dst e : TypeId) (s : ByteArray) (hs : P.underlying src = some .string) (hd : P.underlying dst = some (.slice e)) (he : P.underlying e = some (.int .u8)) (hsz : s.size ≤ 140737488355328) :
    ∃ cap W, (convert src dst (.string s)).run P w = .ok (.slice (some ⟨w.heap.size, 0, none⟩) s.size cap) W ∧ Hid (In W (some ⟨w.heap.size, 0, none⟩) s.size cap s.data.toList) ∧ Hid (Spare W w.heap.size s.size cap) ∧ Hid (Below w.heap.size w W) ∧ Hid (W.heap.size = w.heap.size + 1) := by
  have hge := grownCap_ge w s.size 0 e
  refine ⟨grownCap w s.size 0 e, _, run_bytes_of_string w src dst e s hs hd he, ?_, ?_, ?_, ?_⟩
  · refine ⟨rfl, hge, hsz, by simp, fun _ => ⟨w.heap.size, 0, rfl, by simp, fun i c hc => ?_⟩⟩
    have hlt : i < s.data.size := by have := (List.getElem?_eq_some_iff.1 hc).1; simpa using this
    have e1 := World.cell?_alloc_mark w.drew (bytesRow s (grownCap w s.size 0 e)) e ((bytesRow s (grownCap w s.size 0 e)).size, (bytesRow s (grownCap w s.size 0 e)).size + 1) i
    rw [Nat.zero_add]
    refine e1.trans ?_
    rw [bytesRow_at s _ i hlt]
    have e2 : s.data[i] = c := by
      rw [Array.getElem?_toList, Array.getElem?_eq_getElem hlt] at hc
      exact Option.some.inj hc
    rw [e2]
  · intro j h1 h2
    have e1 := World.cell?_alloc_mark w.drew (bytesRow s (grownCap w s.size 0 e)) e ((bytesRow s (grownCap w s.size 0 e)).size, (bytesRow s (grownCap w s.size 0 e)).size + 1) j
    have e2 := World.frozen?_alloc_mark w.drew (bytesRow s (grownCap w s.size 0 e)) e (bytesRow s (grownCap w s.size 0 e)).size ((bytesRow s (grownCap w s.size 0 e)).size + 1) j
    have hsz := bytesRow_size s (grownCap w s.size 0 e) hge
    refine ⟨?_, ?_⟩
    · refine (congrArg Option.isSome e1).trans ?_
      rw [Array.getElem?_eq_getElem (by rw [hsz]; exact h2)]
      rfl
    · refine e2.trans ?_
      rw [hsz]
      simp
      omega
  · have h := (Below.refl w.heap.size w.drew).alloc (Nat.le_refl _) (.cells (bytesRow s (grownCap w s.size 0 e)) e ((bytesRow s (grownCap w s.size 0 e)).size, (bytesRow s (grownCap w s.size 0 e)).size + 1))
    exact ⟨h.os, h.tape, h.output, h.size, h.block⟩
  · show _ = _
    simp

theorem wpList_conv {P : Program} {w w' : World} {ops : Array Oper} {rest : List Oper} {o : Oper} {a : Act} {Q : Exit → Act → World → Prop} (hw : Region.wanted o (yielded ops a.tmps) = true) (x : Operand) (src dst : TypeId) (ho : o.op = .convert src dst x) (v v' : Value) (hx : a.eval x = v)
    (hrun : (convert src dst v).run P w = .ok v' w') (h : wpList P ops Q rest (a.put o.dst v') w') : wpList P ops Q (o :: rest) a w := by
  refine Go.BigFrame.wpList_want hw fun K hK => ?_
  unfold Oper.wp
  simp [execOp, ho, hx, hrun, Result.andThen]
  exact hK _ _ h


/-- what a token says, ahead of its tag -/
def bodyT (k : Nat) (u : List UInt8) (t : Nat) : List UInt8 := Lib.decDigits k ++ 46 :: (u ++ 46 :: Lib.decDigits t)
/-- a text with its tag -/
def sealT (S b : List UInt8) : List UInt8 := b ++ 46 :: hexOf (tagOf S b)
def txtT (S : List UInt8) (k : Nat) (u : List UInt8) (t : Nat) : List UInt8 := sealT S (bodyT k u t)
/-- the variables that a book's calls read -/
def VT (w : World) : Prop := KT w ∧ ST w ∧ PT w
theorem VT.below {w w' : World} (h : VT w) (hb : Below w.heap.size w w') : VT w' := ⟨h.1.below hb, h.2.1.below hb, h.2.2.below hb⟩
abbrev pt : BA := ⟨#[46]⟩
theorem size67 : (Tryd.prog.info? 67).map (·.size) = some 32 := by kernel_rfl
theorem zero67 (W : World) : (zeroValue 67).run Tryd.prog W = .ok (.agg (zb 32).toArray) W := by kernel_rfl
set_option maxRecDepth 100000 in
set_option maxHeartbeats 1000000 in
theorem write_tok {w : World} {b : Nat} {a : Option Addr} {n cp : Nat} {mv : Value} {S : List UInt8} (hB : Blk w b 57 [.slice a n cp, mv]) (hS : In w a n cp S) (hn : n ≤ 20000) (hV : VT w) (k : Nat) (hk : k ≤ 1000) (u : BA) (hu : u.size ≤ 15000) (t : Nat) (ht : t ≤ 1099511627776) (X : BA) (hX : X.data.toList = txtT S k u.data.toList t) :
    Calls Tryd.prog 23 #[.pointer (some ⟨b, 0, none⟩), iv (k : Int), .string u, iv (t : Int)] w fun e w' => e = .returned (.string X) ∧ Below w.heap.size w w' := by
  obtain ⟨d1, hd1⟩ : ∃ s : BA, s = ⟨(Lib.decDigits k).toArray⟩ := ⟨_, rfl⟩
  obtain ⟨d2, hd2⟩ : ∃ s : BA, s = ⟨(Lib.decDigits t).toArray⟩ := ⟨_, rfl⟩
  have z1 : d1.size ≤ 13 := by rw [hd1]; show (Lib.decDigits k).toArray.size ≤ _; rw [List.size_toArray]; exact dec_len k (by omega)
  have z2 : d2.size ≤ 13 := by rw [hd2]; show (Lib.decDigits t).toArray.size ≤ _; rw [List.size_toArray]; exact dec_len t ht
  obtain ⟨Y, hY⟩ : ∃ Y : BA, d1 ++ pt ++ u ++ pt ++ d2 = Y := ⟨_, rfl⟩
  have hYL : Y.data.toList = bodyT k u.data.toList t := by rw [← hY, hd1, hd2]; simp [ByteArray.data_append, bodyT]
  have zY : Y.size ≤ 15100 := by
    rw [← hY]
    simp only [ByteArray.size_append]
    have : pt.size = 1 := rfl
    omega
  obtain ⟨T, hT⟩ : ∃ T, tagOf S Y.data.toList = T := ⟨_, rfl⟩
  have hTL : T.length = 32 := by rw [← hT]; exact tagOf_len _ _
  obtain ⟨H, hH⟩ : ∃ H : BA, ⟨(hexOf T).toArray⟩ = H := ⟨_, rfl⟩
  have zH : H.size = 64 := by rw [← hH]; show (hexOf T).toArray.size = 64; rw [List.size_toArray, hexOf_length, hTL]
  have hXX : Y ++ pt ++ H = X := by
    refine ba_ext ?_
    rw [hX]
    unfold txtT sealT
    rw [← hYL, hT, ← hH]
    simp [ByteArray.data_append]
  have HC1 : Hid (∀ V, PT V → Calls Tryd.prog 33 #[iv (k : Int)] V fun e V2 => e = .returned (.string d1) ∧ Below V.heap.size V V2) := fun V hV => itoa_b k (by omega) V hV d1 hd1
  have HC2 : Hid (∀ V, PT V → Calls Tryd.prog 33 #[iv (t : Int)] V fun e V2 => e = .returned (.string d2) ∧ Below V.heap.size V V2) := fun V hV => itoa_b t ht V hV d2 hd2
  have HB : Hid (Blk w b 57 [.slice a n cp, mv] ∧ In w a n cp S ∧ n ≤ 20000 ∧ VT w ∧ Y.size ≤ 15100) := ⟨hB, hS, hn, hV, zY⟩
  have HT : Hid (tagOf S Y.data.toList = T ∧ T.length = 32 ∧ (⟨(hexOf T).toArray⟩ : BA) = H) := ⟨hT, hTL, hH⟩
  have hz := zero67
  have qy : (Y.size : Int) ≤ 15100 := by omega
  have qh : (H.size : Int) = 64 := by omega
  have qu : (u.size : Int) ≤ 15000 := by omega
  have qd1 : (d1.size : Int) ≤ 13 := by omega
  have qd2 : (d2.size : Int) ≤ 13 := by omega
  clear hB hS hn hV hk hu ht hX hd1 hd2 z1 z2 hYL zY hT hTL hH zH
  go_enter Tryd.func23, Tryd.ntmps23
  go_wp2_with fail
  refine (HC1.out w HB.out.2.2.2.1.2.2).mono ?_
  rintro e W1 ⟨rfl, hb1⟩
  have H1 : Hid (Below w.heap.size w W1) := hb1
  clear hb1
  go_wp2_with fail
  refine (HC2.out W1 (HB.out.2.2.2.1.2.2.below H1.out)).mono ?_
  rintro e W2 ⟨rfl, hb2⟩
  have H2 : Hid (Below w.heap.size w W2) := below_tr H1.out hb2
  have c0 : W2.cell? ⟨b, 0, none⟩ = some (.slice a n cp) := (HB.out.1.below H2.out HB.out.1.lt).cell rfl
  clear hb2
  go_wp2_with (with_reducible change wpList _ _ _ ({ dst := some 25, op := _, type := _, pos := _, after := _, guard := _ } :: _) _ _; refine Hid.out ?_)
  show wpList _ _ _ _ _ _
  obtain ⟨cap, W3, hcv, HIN3, -, HB3, -⟩ := label_made (P := Tryd.prog) W2 9 22 5 Y Tryd.underlying9 Tryd.underlying22 Tryd.underlying5 (by have := HB.out.2.2.2.2; omega)
  refine wpList_conv rfl (.tmp 24) 9 22 rfl (.string Y) _ rfl hcv ?_
  have H3 : Hid (Below w.heap.size w W3) := below_tr H2.out HB3.out
  clear hcv HB3 c0
  go_wp2_with fail
  refine (tag_is S Y.data.toList T HT.out.1 a (some ⟨W2.heap.size, 0, none⟩) n Y.size cp cap W3 (HB.out.2.2.2.1.1.below H3.out) (HB.out.2.2.2.1.2.1.below H3.out) (HB.out.2.1.below H3.out) HIN3.out (by have := HB.out.2.2.1; omega) (by have := HB.out.2.2.2.2; omega)).mono ?_
  rintro e W4 ⟨rfl, HW4⟩
  have H4 : Hid (Below w.heap.size w W4) := below_tr H3.out HW4.out
  obtain ⟨g, hg⟩ : ∃ g, W4.heap.size = g := ⟨_, rfl⟩
  have HG : Hid (W4.heap.size = g ∧ w.heap.size ≤ g) := ⟨hg, by have := H4.out.size; omega⟩
  clear HW4 HIN3
  go_wp2_with (with_reducible change wpList _ _ _ ({ dst := none, op := Op.store 67 _ _, type := _, pos := _, after := _, guard := _ } :: _) _ _; refine Hid.out ?_)
  show wpList _ _ _ _ _ _
  refine wpList_store_blk rfl 67 (.tmp 10) (.tmp 26) rfl g 0 67 (zb 32) (U T) rfl rfl (by rw [← HG.out.1]; exact Blk.new W4 _ _) (by rw [U_length, HT.out.2.1, zb_length]; omega) (by rw [size67, U_length, HT.out.2.1]) (U_one _) ?_
  intro W5 hx5 hg5
  have H5 : Hid (Below w.heap.size w W5 ∧ Blk W5 g 67 (U T)) := ⟨below_gr (below_tr H4.out (below_al _ _)) hg5.out HG.out.2, blk_all hx5.out (by rw [U_length, HT.out.2.1, zb_length])⟩
  have hsl := slice25 g
  clear hx5 hg5 hg
  go_wp2_with fail
  refine (hex_is T (some ⟨g, 0, none⟩) 32 32 W5 (in25 HT.out.2.1 H5.out.2) (by omega)).mono ?_
  rintro e W6 ⟨rfl, hb6⟩
  have H6 : Hid (Below w.heap.size w W6) := below_tr H5.out.1 hb6
  rw [HT.out.2.2]
  clear hb6 hsl
  go_wp2
  go_ret
  exact ⟨by first | rfl | rw [← hXX], H6.out⟩
end Go.Proofs.YtjeahlfmapacfaaDoor.Oct

/- Layer 2 (hash): 'Equal'. -/
namespace Go.Proofs.YtjeahlfmapacfaaDoor.Oct
open Go.RowKit Sha

/-- what the first t bytes differ in -/
def dif (l r : List UInt8) : Nat → UInt8
  | 0 => 0
  | t + 1 => dif l r t ||| (l.getD t 0 ^^^ r.getD t 0)
theorem u8or_zero (x y : UInt8) : x ||| y = 0 ↔ x = 0 ∧ y = 0 := by
  constructor
  · intro h
    have h' := congrArg UInt8.toBitVec h
    simp only [UInt8.toBitVec_or, UInt8.toBitVec_ofNat] at h'
    have h1 := BitVec.or_eq_zero_iff.1 h'
    exact ⟨UInt8.toBitVec_inj.1 h1.1, UInt8.toBitVec_inj.1 h1.2⟩
  · rintro ⟨rfl, rfl⟩; rfl
theorem u8xor_zero (x y : UInt8) : x ^^^ y = 0 ↔ x = y := by
  constructor
  · intro h
    have h' := congrArg UInt8.toBitVec h
    simp only [UInt8.toBitVec_xor, UInt8.toBitVec_ofNat] at h'
    exact UInt8.toBitVec_inj.1 (BitVec.xor_eq_zero_iff.1 h')
  · rintro rfl; exact UInt8.xor_self
theorem dif_zero (l r : List UInt8) : ∀ t, dif l r t = 0 ↔ ∀ i, i < t → l.getD i 0 = r.getD i 0
  | 0 => by simp [dif]
  | t + 1 => by
    unfold dif
    rw [u8or_zero, u8xor_zero, dif_zero l r t]
    constructor
    · rintro ⟨h1, h2⟩ i hi
      rcases Nat.lt_or_ge i t with h | h
      · exact h1 i h
      · rw [show i = t by omega]; exact h2
    · intro h
      exact ⟨fun i hi => h i (by omega), h t (by omega)⟩
theorem dif_all {l r : List UInt8} (h : l.length = r.length) : dif l r l.length = 0 ↔ l = r := by
  rw [dif_zero]
  constructor
  · intro e
    refine List.ext_getElem h fun i h1 h2 => ?_
    have := e i h1
    simpa [h1, h2] using this
  · rintro rfl i _; rfl
theorem lt8 (x : UInt8) : x.toNat < 256 := x.toNat_lt
theorem dif_next (l r : List UInt8) (t : Nat) : bits BinOp.or IntKind.u8 ((dif l r t).toNat : Int) (bits BinOp.xor IntKind.u8 ((l.getD t 0).toNat : Int) ((r.getD t 0).toNat : Int)) = ((dif l r (t + 1)).toNat : Int) := by
  rw [u8_xor_nat _ _ (lt8 _) (lt8 _), ← UInt8.toNat_xor, u8_or_nat _ _ (lt8 _) (lt8 _), ← UInt8.toNat_or]
  rfl

set_option maxHeartbeats 400000 in
theorem equal_is (l r : List UInt8) (a b : Option Addr) (n m cp cq : Nat) (w : World) (hl : In w a n cp l) (hr : In w b m cq r) :
    Calls Tryd.prog 54 #[.slice a n cp, .slice b m cq] w fun e w' => e = .returned (.bool (decide (l = r))) ∧ ∃ k, w' = w.drewN k := by
  have HL : Hid (In w a n cp l) := hl
  have HR : Hid (In w b m cq r) := hr
  have b1 := hl.2.2.1
  have b2 := hr.2.2.1
  have e1 := hl.1
  have e2 := hr.1
  clear hl hr
  by_cases hnm : n = m
  · subst hnm
    have HE : Hid (l.length = n) := e1
    have HF : Hid (r.length = n) := e2
    clear e1 e2 b2
    go_enter Tryd.func54, Tryd.ntmps54
    go_wp2_with fail
    go_loopw [14, 5] (fun i d wr => ∃ t : Nat, i = .int .i64 t ∧ t ≤ n ∧ d = .int .u8 ((dif l r t).toNat : Int) ∧ ∃ k, wr = w.drewN k) (fun i _ _ => n - (intOf i).toNat)
    case atStart => exact ⟨0, rfl, by omega, rfl, 0, rfl⟩
    case round =>
      obtain ⟨t, rfl, ht, rfl, k, rfl⟩ := hrel
      by_cases hlt : t = n
      · subst hlt
        go_wp2
        go_ret
        refine ⟨?_, k, rfl⟩
        congr 2
        have e := dif_all (l := l) (r := r) (by rw [HE.out, HF.out])
        rw [HE.out] at e
        show Value.bool (((dif l r t).toNat : Int) == 0) = _
        congr 1
        rw [Bool.eq_iff_iff, beq_iff_eq, decide_eq_true_iff, ← e]
        constructor
        · intro h
          have h0 : (dif l r t).toNat = 0 := by omega
          exact UInt8.toNat_inj.1 h0
        · intro h; rw [h]; rfl
      · have q1 : (t : Int) < (n : Int) := by omega
        have HT : Hid (t < n) := by show t < n; omega
        obtain ⟨ba, oa, rfl, ha1, ha2⟩ := HL.out.2.2.2.2 (by omega)
        obtain ⟨bb, ob, rfl, hb1, hb2⟩ := HR.out.2.2.2.2 (by omega)
        have c1 : w.cell? ⟨ba, oa + t, none⟩ = some (.int .u8 ((l.getD t 0).toNat : Int)) := ha2 t _ (by rw [List.getD_eq_getElem?_getD, List.getElem?_eq_getElem (by rw [HE.out]; exact HT.out)]; rfl)
        have c2 : w.cell? ⟨bb, ob + t, none⟩ = some (.int .u8 ((r.getD t 0).toNat : Int)) := hb2 t _ (by rw [List.getD_eq_getElem?_getD, List.getElem?_eq_getElem (by rw [HF.out]; exact HT.out)]; rfl)
        obtain ⟨X, hX⟩ : ∃ X, X = ((l.getD t 0).toNat : Int) := ⟨_, rfl⟩
        obtain ⟨Y, hY⟩ : ∃ Y, Y = ((r.getD t 0).toNat : Int) := ⟨_, rfl⟩
        obtain ⟨Z, hZ⟩ : ∃ Z, Z = ((dif l r t).toNat : Int) := ⟨_, rfl⟩
        have HD : Hid _ := dif_next l r t
        rw [← hX, ← hY, ← hZ] at HD
        rw [← hX] at c1
        rw [← hY] at c2
        rw [← hZ]
        clear ha2 hb2 hlt hX hY hZ
        go_wp2
        go_region
        go_wp2
        refine ⟨⟨t + 1, by simp, HT.out, ?_, k + 1, rfl⟩, ?_⟩
        · exact congrArg (Value.int IntKind.u8) HD.out
        · have := HT.out
          show n - (intOf (.int .i64 ((t : Int) + 1))).toNat < n - (intOf (.int .i64 (t : Int))).toNat
          simp only [intOf]
          omega
  · have q : ¬ (n : Int) = (m : Int) := by omega
    have HN : Hid (¬ l = r) := by intro h; apply hnm; rw [← e1, ← e2, h]
    clear hnm e1 e2
    go_enter Tryd.func54, Tryd.ntmps54
    go_wp2
    go_ret
    refine ⟨?_, 0, rfl⟩
    rw [decide_eq_false HN.out]
    rfl

end Go.Proofs.YtjeahlfmapacfaaDoor.Oct

/- Layer 3 (mac): 'Check', and the law on it, walked. -/
namespace Go.Proofs.YtjeahlfmapacfaaDoor.Oct
open Go.RowKit Sha

theorem below_drewN {B : Nat} {w w' : World} (h : Below B w w') (k : Nat) : Below B w (w'.drewN k) := ⟨h.os, h.tape, h.output, h.size, h.block⟩

set_option maxHeartbeats 1000000 in
set_option maxRecDepth 100000 in
theorem check_is (key msg tag T : List UInt8) (r : Bool) (hT : tagOf key msg = T) (hres : decide (T = tag) = r) (a b c : Option Addr) (n m p cp cq cr : Nat) (w : World) (hk : KT w) (hs : ST w) (hl : In w a n cp key) (hr : In w b m cq msg) (ht : In w c p cr tag) (hn : n ≤ 20000) (hm : m ≤ 20000) :
    Calls Tryd.prog 41 #[.slice a n cp, .slice b m cq, .slice c p cr] w fun e w' => e = .returned (.bool r) ∧ Hid (Below w.heap.size w w') := by
  have HK : Hid (KT w) := hk
  have HS : Hid (ST w) := hs
  have HL : Hid (In w a n cp key) := hl
  have HR : Hid (In w b m cq msg) := hr
  have HTG : Hid (In w c p cr tag) := ht
  have HN : Hid (n ≤ 20000) := hn
  have HM : Hid (m ≤ 20000) := hm
  have HT : Hid (tagOf key msg = T) := hT
  have HRES : Hid (decide (T = tag) = r) := hres
  have HTL : Hid (T.length = 32) := by show _ = _; rw [← hT]; exact tagOf_len _ _
  have HUT : Hid ((U T).length = 32) := by show _ = _; rw [U_length]; exact HTL.out
  have h25 := slice25
  clear hk hs hl hr ht hn hm hT hres
  go_enter Tryd.func41, Tryd.ntmps41
  go_wp2_with fail
  refine (tag_is key msg T HT.out a b n m cp cq w HK.out HS.out HL.out HR.out (by have := HN.out; omega) (by have := HM.out; omega)).mono ?_
  rintro e w1 ⟨rfl, HB1⟩
  go_wp2_with (first
    | (with_reducible change wpList _ _ _ ({ dst := none, op := Op.store 67 _ _, type := _, pos := _, after := _, guard := _ } :: _) _ _
       refine wpList_store_blk rfl 67 (.tmp 7) (.tmp 10) rfl w1.heap.size 0 67 (zb 32) (U T) rfl rfl (Blk.new w1 _ 67) (by rw [HUT.out, zb_length]; omega) (by rw [size25, HUT.out]) (U_one _) ?_
       intro w2 hB2 hG2
       have H2 : Hid (Blk w2 w1.heap.size 67 (U T) ∧ Below w1.heap.size w1 w2) := new25 HUT.out hB2.out hG2.out
       clear hB2 hG2)
    | fail)
  have HBW2 : Hid (Below w.heap.size w w2) := HB1.out.trans (H2.out.2.mono HB1.out.size)
  refine (equal_is T tag (some ⟨w1.heap.size, 0, none⟩) c 32 p 32 cr w2 (in25 HTL.out H2.out.1) (HTG.out.below HBW2.out)).mono ?_
  rintro e w3 ⟨rfl, k, rfl⟩
  rw [HRES.out]
  go_wp2
  go_ret
  exact ⟨rfl, below_drewN HBW2.out k⟩

theorem slice25_31 (b : Nat) (W : World) : (Instr.sliceAt 67 (.pointer (some ⟨b, 0, none⟩)) none (some (.int .i64 31)) none).run Tryd.prog W = .ok (.slice (some ⟨b, 0, none⟩) 31 32) W := by
  obtain ⟨i, hi, -⟩ := Option.map_eq_some_iff.1 size5
  simp [Instr.sliceAt, Instr.sureAddr, run_underlying Tryd.underlying67, Instr.sliceBounds, Instr.sliceBound, asIntOf, sizeOf, typeInfo, hi, Addr.add_lit]

/-- an append behind bytes that have no room, as a step of a region that draws -/
theorem step_append_full {P : Program} (w : World) {y : Nat → Option Bool} {o : Oper} {a : Act} {K : Act → World → Prop} {Q : Exit → Act → World → Prop} {E : Prop} (hw : Region.wanted o y = true) (s x : Operand) (t : TypeId)
    (ho : o.op = .call { callee := .builtin .append, args := #[s, x], argTypes := #[t, t] })
    (e : TypeId) (i : TypeInfo) (ht : P.underlying t = some (.slice e)) (hi : P.info? e = some i) (hz : i.zero = some (.int .u8 0)) (hsize : i.size = 1) (hby : i.bytes = 1)
    (b n cap : Nat) (l r : List UInt8) (hs : a.eval s = .slice (some ⟨b, 0, none⟩) n cap) (hin : In w (some ⟨b, 0, none⟩) n cap l)
    (ad : Addr) (m c : Nat) (hx : a.eval x = .slice (some ad) m c) (hr : In w (some ad) m c r) (hm : n + m ≤ 140737488355328) (hfull : cap < n + m)
    (h : ∀ a' c' w', Hid (In w' a' (n + m) c' (l ++ r)) → Hid (Below w.heap.size w w') → K (a.put o.dst (.slice a' (n + m) c')) w') : if Region.wanted o y = true then Oper.wp P o a w K Q else E := by
  rw [if_pos hw]
  have hl := hin.1
  have hrl := hr.1
  have holds : ∀ j u, (U l)[j]? = some u → w.cell? ⟨b, 0 + j, none⟩ = some u := by
    intro j u hj
    have hlt : j < l.length := by have := (List.getElem?_eq_some_iff.1 hj).1; rwa [U_length] at this
    obtain ⟨b', off', e1, _, e3⟩ := hin.2.2.2.2 (by omega)
    simp only [Option.some.injEq, Addr.mk.injEq, and_true] at e1
    obtain ⟨rfl, rfl⟩ := e1
    rw [U_get l j hlt] at hj
    rw [e3 j l[j] (List.getElem?_eq_getElem hlt)]
    exact hj
  have hnews : ∀ j u, (U r)[j]? = some u → w.cell? (ad.add j) = some u := by
    intro j u hj
    have hp : 0 < (U r).length := by have := (List.getElem?_eq_some_iff.1 hj).1; omega
    obtain ⟨ad', e1, e2⟩ := cells_of_in hr hp
    obtain rfl := Option.some.inj e1
    exact e2 j u hj
  obtain ⟨v', w', hrun, r1, r2⟩ := run_append_arg_grows (P := P) w t o.type e i (.int .u8 0) 1 1 ht hi hz hsize hby rfl (by omega) ⟨b, 0, none⟩ n cap (U l) (by rw [U_length]; omega) (fun j u hj => by rw [Addr.add_lit]; exact holds j u hj) ad m c (U r) (by rw [U_length]; omega) hnews (by omega) (by unfold maxLen; omega) (by omega)
  unfold Oper.wp
  simp [execOp, ho, resolve, invoke, builtin, hs, hx, hrun, Result.andThen]
  have hown : Own e w.heap.size w' v' (l ++ r) := by
    show w'.ownsRow w.heap.size e 1 v' (l ++ r).length (U (l ++ r))
    rw [List.length_append, U_append, hl, hrl]
    exact r1
  obtain ⟨a', c', hv, hin', -⟩ := own_in hown (by rw [List.length_append]; omega)
  rw [List.length_append, hl, hrl] at hv hin'
  subst hv
  exact h _ _ _ hin' ((Below.refl _ w).grown r2 (Nat.le_refl _) (by intro k hk; cases hk))

theorem ne_take {T : List UInt8} (h : T.length = 32) : decide (T = T.take 31) = false := by
  rw [decide_eq_false_iff_not]
  intro e
  have := congrArg List.length e
  rw [List.length_take, h] at this
  omega
theorem ne_more {T : List UInt8} : decide (T = T ++ [0]) = false := by
  rw [decide_eq_false_iff_not]
  intro e
  have := congrArg List.length e
  rw [List.length_append] at this
  simp at this
theorem in_take {w : World} {b : Nat} {T : List UInt8} (h : In w (some ⟨b, 0, none⟩) 32 32 T) : In w (some ⟨b, 0, none⟩) 31 32 (T.take 31) := by
  obtain ⟨h1, h2, h3, h4, h5⟩ := h
  refine ⟨by rw [List.length_take, h1]; rfl, by omega, by omega, by simp, fun _ => ?_⟩
  obtain ⟨b', off', e1, e2, e3⟩ := h5 (by omega)
  refine ⟨b', off', e1, e2, fun i c hc => e3 i c ?_⟩
  rw [List.getElem?_take] at hc
  split at hc
  · exact hc
  · cases hc
end Go.Proofs.YtjeahlfmapacfaaDoor.Oct

/- Layer 2 (hash): 'Unhex', and what is read of what 'Hex' tells. -/
namespace Go.Proofs.YtjeahlfmapacfaaDoor.Oct
open Go.RowKit Sha

def dv (c : UInt8) : Option Nat := if 48 ≤ c.toNat ∧ c.toNat ≤ 57 then some (c.toNat - 48) else if 97 ≤ c.toNat ∧ c.toNat ≤ 102 then some (c.toNat - 87) else none
def pairOf (a b : UInt8) : Option UInt8 := (dv a).bind fun x => (dv b).map fun y => UInt8.ofNat (16 * x + y)
def unhexL : List UInt8 → Option (List UInt8)
  | [] => some []
  | [_] => none
  | a :: b :: r => (pairOf a b).bind fun c => (unhexL r).map (c :: ·)
theorem unhexL_append : ∀ (p q : List UInt8), p.length % 2 = 0 → unhexL (p ++ q) = (unhexL p).bind fun o => (unhexL q).map (o ++ ·)
  | [], q, _ => by simp [unhexL]
  | [_], _, h => by simp at h
  | a :: b :: r, q, h => by
    have ih := unhexL_append r q (by simp at h; omega)
    simp only [List.cons_append, unhexL, ih]
    cases pairOf a b <;> cases unhexL r <;> cases unhexL q <;> simp
theorem unhexL_odd : ∀ p : List UInt8, p.length % 2 = 1 → unhexL p = none
  | [], h => by simp at h
  | [_], _ => rfl
  | a :: b :: r, h => by
    have ih := unhexL_odd r (by simp at h; omega)
    simp [unhexL, ih]
theorem dv_lt {a : UInt8} {x : Nat} (h : dv a = some x) : x < 16 := by
  unfold dv at h
  split at h
  · have := Option.some.inj h; omega
  · split at h
    · have := Option.some.inj h; omega
    · cases h
theorem dv_digit : ∀ x : Fin 16, dv (digits.getD x.val 0) = some x.val := by decide +kernel
theorem digit_dv : ∀ a : Fin 256, (dv (UInt8.ofNat a.val)).all (fun x => digits.getD x 0 == UInt8.ofNat a.val) = true := by decide +kernel
theorem digit_of {a : UInt8} {x : Nat} (h : dv a = some x) : digits.getD x 0 = a := by
  have e := digit_dv ⟨a.toNat, a.toNat_lt⟩
  simp only [UInt8.ofNat_toNat, h, Option.all_some, beq_iff_eq] at e
  exact e
theorem ofNat16 {x y : Nat} (hx : x < 16) (hy : y < 16) : (UInt8.ofNat (16 * x + y)).toNat = 16 * x + y := by
  rw [UInt8.toNat_ofNat']; omega
theorem unhex_hex : ∀ l : List UInt8, unhexL (hexOf l) = some l
  | [] => rfl
  | c :: l => by
    have hc := c.toNat_lt
    have h1 := dv_digit ⟨c.toNat / 16, by omega⟩
    have h2 := dv_digit ⟨c.toNat % 16, by omega⟩
    have e : UInt8.ofNat (16 * (c.toNat / 16) + c.toNat % 16) = c := by rw [show 16 * (c.toNat / 16) + c.toNat % 16 = c.toNat by omega, UInt8.ofNat_toNat]
    simp only at h1 h2
    simp only [hexOf, unhexL, pairOf, h1, h2, unhex_hex l, Option.bind_some, Option.map_some, e]
theorem hex_unhex : ∀ (s o : List UInt8), unhexL s = some o → hexOf o = s
  | [], o, h => by
    have := Option.some.inj h
    subst this; rfl
  | [_], _, h => by simp [unhexL] at h
  | a :: b :: r, o, h => by
    simp only [unhexL, pairOf, Option.bind_eq_some_iff, Option.map_eq_some_iff] at h
    obtain ⟨c, ⟨x, hx, y, hy, rfl⟩, o', ho, rfl⟩ := h
    have ih := hex_unhex r o' ho
    have hx1 := dv_lt hx
    have hy1 := dv_lt hy
    simp only [hexOf, ofNat16 hx1 hy1, ih]
    rw [show (16 * x + y) / 16 = x by omega, show (16 * x + y) % 16 = y by omega, digit_of hx, digit_of hy]

theorem digitValue_is (c : UInt8) (w : World) : Calls Tryd.prog 53 #[.int .u8 (c.toNat : Int)] w fun e w' => e = .returned (.tuple #[.int .u8 (((dv c).getD 0 : Nat) : Int), .bool (dv c).isSome]) ∧ w = w' := by
  have hc := c.toNat_lt
  unfold dv
  generalize c.toNat = X at *
  by_cases h1 : 48 ≤ X
  · by_cases h2 : X ≤ 57
    · rw [if_pos ⟨h1, h2⟩]
      have q1 : (48 : Int) ≤ (X : Int) := by omega
      have q2 : (X : Int) ≤ 57 := by omega
      go_enter Tryd.func53, Tryd.ntmps53
      go_wp2
      go_ret2
      refine ⟨?_, rfl⟩
      have : ((X - 48 : Nat) : Int) = (X : Int) - 48 := by omega
      simp [this]
    · rw [if_neg (by omega)]
      have q1 : (48 : Int) ≤ (X : Int) := by omega
      have q2 : (57 : Int) < (X : Int) := by omega
      by_cases h3 : 97 ≤ X
      · by_cases h4 : X ≤ 102
        · rw [if_pos ⟨h3, h4⟩]
          have q3 : (97 : Int) ≤ (X : Int) := by omega
          have q4 : (X : Int) ≤ 102 := by omega
          go_enter Tryd.func53, Tryd.ntmps53
          go_wp2
          go_ret2
          refine ⟨?_, rfl⟩
          have : ((X - 87 : Nat) : Int) = (X : Int) - 97 + 10 := by omega
          simp [this]
        · rw [if_neg (by omega)]
          have q3 : (97 : Int) ≤ (X : Int) := by omega
          have q4 : (102 : Int) < (X : Int) := by omega
          go_enter Tryd.func53, Tryd.ntmps53
          go_wp2
          go_ret2
          exact ⟨rfl, rfl⟩
      · rw [if_neg (by omega)]
        have q3 : (X : Int) < 97 := by omega
        go_enter Tryd.func53, Tryd.ntmps53
        go_wp2
        go_ret2
        exact ⟨rfl, rfl⟩
  · rw [if_neg (by omega), if_neg (by omega)]
    have q1 : (X : Int) < 48 := by omega
    have q3 : (X : Int) < 97 := by omega
    go_enter Tryd.func53, Tryd.ntmps53
    go_wp2
    go_ret2
    exact ⟨rfl, rfl⟩

end Go.Proofs.YtjeahlfmapacfaaDoor.Oct

/- Layer 2 (hash): 'Unhex'. -/
namespace Go.Proofs.YtjeahlfmapacfaaDoor.Oct
open Go.RowKit Sha

/-- what 'Unhex' tells of a text -/
def Told (w w' : World) (s : List UInt8) (e : Ending) : Prop := ∃ v : Value, e = .returned (.tuple #[v, .int .i64 (if (unhexL s).isSome then 0 else 20)]) ∧ Own 5 w.heap.size w' v ((unhexL s).getD [])

theorem or_pair : ∀ x y : Fin 16, bits BinOp.or IntKind.u8 ((x.val : Int) * 16) (y.val : Int) = (((16 * x.val + y.val) : Nat) : Int) := by decide +kernel

theorem own_none (w : World) (B : Nat) : Own 5 B w (.slice none 0 0) [] := ⟨rfl, .inl ⟨rfl, rfl⟩⟩

theorem dv_some (c : UInt8) (x : Nat) (h : dv c = some x) (w : World) : Calls Tryd.prog 53 #[.int .u8 (c.toNat : Int)] w fun e w' => e = .returned (.tuple #[.int .u8 (x : Int), .bool true]) ∧ w = w' := by
  have e := digitValue_is c w
  rw [h] at e
  exact e
theorem dv_non (c : UInt8) (h : dv c = none) (w : World) : Calls Tryd.prog 53 #[.int .u8 (c.toNat : Int)] w fun e w' => e = .returned (.tuple #[.int .u8 0, .bool false]) ∧ w = w' := by
  have e := digitValue_is c w
  rw [h] at e
  exact e
theorem unhex_cut {l : List UInt8} {k : Nat} (hk : k % 2 = 0) (hl : k ≤ l.length) (h : unhexL (l.take k) = none) : unhexL l = none := by
  have e := unhexL_append (l.take k) (l.drop k) (by rw [List.length_take]; omega)
  rw [List.take_append_drop, h] at e
  exact e

set_option maxHeartbeats 1000000 in
set_option maxRecDepth 100000 in
theorem unhex_is (s : ByteArray) (l : List UInt8) (hl : s.data.toList = l) (w : World) (hn : s.size ≤ 100000) :
    Calls Tryd.prog 40 #[.string s] w fun e w' => Told w w' l e ∧ Below w.heap.size w w' := by
  obtain ⟨i0, hi, hz0, hz1, hz2⟩ := info_parts info5
  have HL : Hid (s.data.toList = l) := hl
  obtain ⟨n, hsn⟩ : ∃ n, s.size = n := ⟨_, rfl⟩
  have HLL : Hid (l.length = n) := by show _ = _; rw [← hl, ← hsn]; rfl
  rw [hsn] at hn
  have HN : Hid (n ≤ 100000) := hn
  have q0 : (n : Int) ≤ 100000 := by omega
  by_cases hodd : n % 2 = 1
  · have q1 : (n : Int) % 2 ≠ 0 := by omega
    have q1' : (n : Int).tmod 2 ≠ 0 := by rw [Int.tmod_eq_emod_of_nonneg (by omega)]; exact q1
    have HU : Hid (unhexL l = none) := unhexL_odd l (by rw [HLL.out]; exact hodd)
    clear hl
    go_enter Tryd.func40, Tryd.ntmps40
    go_wp2
    go_ret2
    refine ⟨⟨.slice none 0 0, ?_, ?_⟩, Below.refl _ _⟩
    · rw [HU.out]; rfl
    · rw [HU.out]; exact own_none _ _
  · obtain ⟨m, hm⟩ : ∃ m, n = 2 * m := ⟨n / 2, by omega⟩
    have HM : Hid (n = 2 * m) := hm
    have q1 : (n : Int) % 2 = 0 := by omega
    have q1' : (n : Int).tmod 2 = 0 := by rw [Int.tmod_eq_emod_of_nonneg (by omega)]; exact q1
    have q2 : (n : Int) / 2 = (m : Int) := by omega
    have q2' : (n : Int).tdiv 2 = (m : Int) := by rw [Int.tdiv_eq_ediv_of_nonneg (by omega)]; exact q2
    have q3 : m ≤ 50000 := by omega
    clear hl hm hodd
    go_enter Tryd.func40, Tryd.ntmps40
    go_wp2_with (at_make; refine wpList_make_two _ rfl _ _ 22 rfl 5 i0 Tryd.underlying22 hi hz0 hz1 hz2 _ _ _ _ 0 m rfl rfl (by omega) (by omega) (by omega) (by omega) ?_)
    intro w1 hrow1 hsz1 hb1
    have HO1 : Hid (Own 5 w.heap.size w1 (.slice (some ⟨w.heap.size, 0, none⟩) 0 m) []) := ⟨rfl, .inr ⟨_, m, _, rfl, Nat.le_refl _, hrow1.out, Nat.zero_le _, by unfold maxLen; omega, by simp [noughts], rfl⟩⟩
    have HB1 : Hid (Below w.heap.size w w1) := hb1
    clear hrow1 hsz1 hb1
    go_wp2_with fail
    go_loopw [21, 4] (fun i v wr => ∃ (t : Nat) (o : List UInt8), i = .int .i64 t ∧ t ≤ m ∧ Hid (unhexL (l.take (2 * t)) = some o) ∧ Hid (o.length = t) ∧ Hid (Own 5 w.heap.size wr v o) ∧ Hid (Below w.heap.size w wr)) (fun i _ _ => m - (intOf i).toNat)
    case atStart => exact ⟨0, [], rfl, by omega, rfl, rfl, HO1.out, HB1.out⟩
    case round =>
      obtain ⟨t, o, rfl, ht, hu, hol, ho, hb⟩ := hrel
      by_cases hlt : t = m
      · subst hlt
        have HU : Hid (unhexL l = some o) := by
          have e := hu.out
          rw [List.take_of_length_le (by rw [HLL.out, HM.out]; exact Nat.le_refl _)] at e
          exact e
        go_wp2
        go_ret2
        refine ⟨⟨u4, ?_, ?_⟩, hb.out⟩
        · rw [HU.out]; rfl
        · rw [HU.out]; exact ho.out
      · have q4 : (t : Int) < (m : Int) := by omega
        have HT : Hid (t < m) := by show t < m; omega
        have h2t : 2 * t < l.length := by rw [HLL.out, HM.out]; omega
        have h2t1 : 2 * t + 1 < l.length := by rw [HLL.out, HM.out]; omega
        obtain ⟨c, hc⟩ : ∃ c, c = l[2 * t] := ⟨_, rfl⟩
        obtain ⟨d, hd⟩ : ∃ d, d = l[2 * t + 1] := ⟨_, rfl⟩
        have HNX : Hid (unhexL (l.take (2 * (t + 1))) = (pairOf c d).map (fun x => o ++ [x])) := by
          show _ = _
          rw [show 2 * (t + 1) = 2 * t + 1 + 1 by omega, List.take_succ_eq_append_getElem h2t1, List.take_succ_eq_append_getElem h2t, List.append_assoc, unhexL_append _ _ (by rw [List.length_take]; omega), hu.out, ← hc, ← hd]
          simp only [List.cons_append, List.nil_append, unhexL, Option.bind_some]
          cases pairOf c d <;> simp
        have hg1 : ∀ h, s[2 * t]'h = c := by
          intro h
          subst hc
          have e := HL.out
          subst e
          rfl
        have hg2 : ∀ h, s[2 * t + 1]'h = d := by
          intro h
          subst hd
          have e := HL.out
          subst e
          rfl
        have r1 : 2 * (t : Int) < (n : Int) := by have := HM.out; omega
        have r2 : 2 * (t : Int) + 1 < (n : Int) := by have := HM.out; omega
        have r3 : (2 * (t : Int)).toNat = 2 * t := by omega
        have r4 : (2 * (t : Int) + 1).toNat = 2 * t + 1 := by omega
        clear hlt hc hd h2t h2t1
        cases hdc : dv c with
        | none =>
          have HDC : Hid (dv c = none) := hdc
          have HU : Hid (unhexL l = none) := by
            refine unhex_cut (k := 2 * (t + 1)) (by omega) (by rw [HLL.out, HM.out]; have := HT.out; omega) ?_
            rw [HNX.out, pairOf, HDC.out]; rfl
          clear hdc
          go_wp2_with fail
          refine (dv_non c HDC.out _).mono ?_
          rintro e w2 ⟨rfl, rfl⟩
          go_wp2_with fail
          refine (digitValue_is d _).mono ?_
          rintro e w2 ⟨rfl, rfl⟩
          go_wp2
          go_ret2
          refine ⟨⟨.slice none 0 0, ?_, ?_⟩, hb.out⟩
          · rw [HU.out]; rfl
          · rw [HU.out]; exact own_none _ _
        | some x =>
          have HDC : Hid (dv c = some x) := hdc
          clear hdc
          cases hdd : dv d with
          | none =>
            have HDD : Hid (dv d = none) := hdd
            have HU : Hid (unhexL l = none) := by
              refine unhex_cut (k := 2 * (t + 1)) (by omega) (by rw [HLL.out, HM.out]; have := HT.out; omega) ?_
              rw [HNX.out, pairOf, HDC.out, HDD.out]; rfl
            clear hdd
            go_wp2_with fail
            refine (dv_some c x HDC.out _).mono ?_
            rintro e w2 ⟨rfl, rfl⟩
            go_wp2_with fail
            refine (dv_non d HDD.out _).mono ?_
            rintro e w2 ⟨rfl, rfl⟩
            go_wp2
            go_ret2
            refine ⟨⟨.slice none 0 0, ?_, ?_⟩, hb.out⟩
            · rw [HU.out]; rfl
            · rw [HU.out]; exact own_none _ _
          | some y =>
            have HDD : Hid (dv d = some y) := hdd
            clear hdd
            have hx := dv_lt HDC.out
            have hy := dv_lt HDD.out
            have hor := or_pair ⟨x, hx⟩ ⟨y, hy⟩
            simp only at hor
            obtain ⟨z, hz⟩ : ∃ z, z = UInt8.ofNat (16 * x + y) := ⟨_, rfl⟩
            have hzn : ((16 * x + y : Nat) : Int) = (z.toNat : Int) := by rw [hz, ofNat16 hx hy]
            rw [hzn] at hor
            have HP : Hid (pairOf c d = some z) := by show _ = _; rw [pairOf, HDC.out, HDD.out, hz]; rfl
            have q5 : (x : Int) < 16 := by omega
            clear hz hzn
            go_wp2_with fail
            refine (dv_some c x HDC.out _).mono ?_
            rintro e w2 ⟨rfl, rfl⟩
            go_wp2_with fail
            refine (dv_some d y HDD.out _).mono ?_
            rintro e w2 ⟨rfl, rfl⟩
            have HI : Hid (In (wr.alloc (.cells (U [z]).toArray 5)) (some ⟨wr.heap.size, 0, none⟩) 1 1 [z]) := in_new wr 5 [z] (by simp)
            have HO : Hid ((wr.alloc (.cells (U [z]).toArray 5)).ownsRow w.heap.size 5 1 u4 t (U o)) := World.ownsRow.alloc (show wr.ownsRow w.heap.size 5 1 u4 t (U o) from own_size hol.out ho.out) _
            go_wp2_with (at_builtin; refine wpList_append_in _ rfl (.tmp 47) (.tmp 52) 22 rfl w.heap.size 5 i0 Tryd.underlying22 hi hz0 hz1 hz2 u4 o t hol.out rfl HO.out (some ⟨wr.heap.size, 0, none⟩) 1 1 [z] rfl HI.out (by have := HT.out; omega) (by have := hb.out.size; simp; omega) ?_; intro v' w' ho' hg'; have HOX : Hid (Own 5 w.heap.size w' v' (o ++ [z])) := ho'; have HBX : Hid (Below w.heap.size w w') := (hb.out.alloc hb.out.size _).grown hg' (by have := hb.out.size; simp; omega) (by intro b hb; exact (HO.out.lt b hb).1); clear ho' hg')
            refine ⟨⟨t + 1, o ++ [z], by simp, HT.out, ?_, ?_, HOX, HBX⟩, ?_⟩
            · show _ = _
              rw [HNX.out, HP.out]; rfl
            · show _ = _
              rw [List.length_append, hol.out]; rfl
            · have := HT.out
              simp only [intOf]
              omega
end Go.Proofs.YtjeahlfmapacfaaDoor.Oct

/- Layer 16 (token): strings.LastIndex, laid. -/
namespace Go.Proofs.YtjeahlfmapacfaaDoor.Oct
open Go.RowKit
set_option maxRecDepth 100000

def lLst_ren : Go.Shelf.Ren := ⟨fun | 148 => 39 | 222 => 51 | 223 => 52 | 269 => 67 | n => n, fun | 9 => 9 | 3 => 3 | 4 => 4 | 5 => 5 | 146 => 112 | 51 => 93 | 46 => 52 | n => n, fun | n => n⟩
theorem lLst : Go.Proofs.Lays.n148 Tryd.prog lLst_ren := {
  mixed := by kernel_rfl
  f148 := Tryd.func39.trans (congrArg some (by kernel_rfl))
  f222 := Tryd.func51.trans (congrArg some (by kernel_rfl))
  f223 := Tryd.func52.trans (congrArg some (by kernel_rfl))
  f269 := Tryd.func67.trans (congrArg some (by kernel_rfl))
  t3 := Tryd.underlying3
  a3 := Tryd.isAgg3
  z3 := Tryd.sizeOf3
  v3 := Tryd.zeroValue3
  t4 := Tryd.underlying4
  a4 := Tryd.isAgg4
  z4 := Tryd.sizeOf4
  v4 := Tryd.zeroValue4
  t5 := Tryd.underlying5
  a5 := Tryd.isAgg5
  z5 := Tryd.sizeOf5
  v5 := Tryd.zeroValue5
  t9 := Tryd.underlying9
  a9 := Tryd.isAgg9
  z9 := Tryd.sizeOf9
  v9 := Tryd.zeroValue9
  t46 := Tryd.underlying52
  a46 := Tryd.isAgg52
  z46 := Tryd.sizeOf52
  v46 := Tryd.zeroValue52
  t51 := Tryd.underlying93
  a51 := Tryd.isAgg93
  z51 := Tryd.sizeOf93
  v51 := Tryd.zeroValue93
  t146 := Tryd.underlying112
  a146 := Tryd.isAgg112
  z146 := Tryd.sizeOf112
  v146 := Tryd.zeroValue112 }
theorem lst_is (s sub : ByteArray) (h1 : sub.size = 1) (hs : s.size < 4611686018427387904) (w : World) :
    Calls Tryd.prog 39 #[.string s, .string sub] w fun e w' => e = .returned (.int .i64 (Lib.lastIndexByte s ((sub[0]'(by omega)).toNat : Int))) ∧ w' = w := Any.strings_LastIndex_one lLst s sub h1 hs w
end Go.Proofs.YtjeahlfmapacfaaDoor.Oct
