/-
  Layer 16 (token): how a token is written.
-/
import Derived.Test.YtjeahlfmapacfaaDoorTagAll
import Derived.Test.YtjeahlfmapacfaaDoorHex
import Derived.Test.YtjeahlfmapacfaaDoorItoa
import Derived.Test.YtjeahlfmapacfaaDoorMem
import Derived.WalkLawsBesides
import Derived.Lib.AppendIntMem
namespace Go.Proofs.YtjeahlfmapacfaaDoor.Oct
open Go.RowKit Sha
set_option linter.unusedSimpArgs false
set_option linter.unusedVariables false

abbrev iv (n : Int) : Value := .int .i64 n
abbrev bv (n : Int) : Value := .int .u8 n
abbrev BA := ByteArray
abbrev e0 : BA := ⟨#[]⟩
theorem toList_d (s : BA) : s.toList = s.data.toList := ByteArray.toList_eq s
theorem ba_ext {s t : BA} (h : s.data.toList = t.data.toList) : s = t := by
  have : s.data = t.data := Array.toList_inj.1 h
  cases s; cases t; simpa using this
theorem below_al (w : World) (o : Obj) : Below w.heap.size w (w.alloc o) := (Below.refl _ w).alloc (Nat.le_refl _) o
theorem below_tr {w w1 w2 : World} (h : Below w.heap.size w w1) (k : Below w1.heap.size w1 w2) : Below w.heap.size w w2 := h.trans (k.mono h.size)
theorem below_drew0 (A : World) : Below A.heap.size A A.drew := ⟨rfl, rfl, rfl, Nat.le_refl _, fun _ _ => rfl⟩
theorem below_gr {w w1 w2 : World} {g : Nat} (h : Below w.heap.size w w1) (k : w1.grownBy w2 (some g)) (hg : w.heap.size ≤ g) : Below w.heap.size w w2 :=
  h.grown k h.size (fun j hj => by cases hj; exact hg)
theorem gr_of {w w' : World} {r : Option Nat} (h : Below w.heap.size w w') : w.grownBy w' r := ⟨h.os, h.tape, h.output, h.size, fun k hk _ => h.block k hk⟩
theorem blk_all {w : World} {b : Nat} {t : TypeId} {L cs : List Value} (h : Blk w b t (L.take 0 ++ cs ++ L.drop (0 + cs.length))) (hl : L.length = cs.length) : Blk w b t cs := by
  have e : L.take 0 ++ cs ++ L.drop (0 + cs.length) = cs := by rw [Nat.zero_add, ← hl, List.drop_length]; simp
  rw [e] at h
  exact h
theorem dec_small {u : Nat} (h : u < 10) : Lib.decDigits u = [UInt8.ofNat (48 + u)] := by rw [Lib.decDigits, dif_pos h]
theorem dec_big {u : Nat} (h : ¬ u < 10) : Lib.decDigits u = Lib.decDigits (u / 10) ++ Lib.decDigits (u % 10) := by
  rw [Lib.decDigits, dif_neg h, dec_small (u := u % 10) (by omega)]
theorem dec_ten : ∀ (k u : Nat), u < 10 ^ (k + 1) → (Lib.decDigits u).length ≤ k + 1
  | 0, u, h => by rw [dec_small (by simpa using h)]; simp
  | k + 1, u, h => by
    by_cases h1 : u < 10
    · rw [dec_small h1]; simp
    · have h2 := dec_ten k (u / 10) (by rw [Nat.pow_succ] at h; exact Nat.div_lt_of_lt_mul (by rw [Nat.mul_comm]; exact h))
      rw [dec_big h1, List.length_append, dec_small (u := u % 10) (by omega)]
      simp
      omega
theorem dec_len (u : Nat) (h : u ≤ 1099511627776) : (Lib.decDigits u).length ≤ 13 := dec_ten 12 u (by omega)
def PT (w : World) : Prop := Lib.TabIs Tryd.prog w "internal/strconv.uint64pow10" .u64 Lib.pow10Tab
theorem PT.below {w w' : World} (h : PT w) (hb : Below w.heap.size w w') : PT w' := Lib.tabBelow_of_tabIs h w' hb
theorem below_grow (w : World) (k : Nat) (os : Array Obj) : Below w.heap.size w (Sort.grow (w.drewN k) os) := by
  refine ⟨rfl, rfl, rfl, ?_, fun j hj => ?_⟩
  · rw [Sort.size_grow]; exact Nat.le_add_right _ _
  · show (w.heap ++ os)[j]? = w.heap[j]?
    rw [Array.getElem?_append_left hj]
theorem itoa_b (n : Nat) (hn : n ≤ 1099511627776) (w : World) (h : PT w) (s : BA) (hs : s = ⟨(Lib.decDigits n).toArray⟩) : Calls Tryd.prog 33 #[iv (n : Int)] w fun e w' => e = .returned (.string s) ∧ Below w.heap.size w w' := by
  subst hs
  refine (itoa_is (n : Int) (by omega) (by omega) w h).mono ?_
  rintro e w' ⟨rfl, k, os, rfl⟩
  refine ⟨?_, below_grow w k os⟩
  unfold Lib.itoa
  rw [if_neg (by omega)]
  rfl


/-- the cells behind the elements may be written -/
def Spare (w : World) (b n cap : Nat) : Prop := ∀ j, n ≤ j → j < cap → (w.cell? ⟨b, j, none⟩).isSome = true ∧ w.frozen? ⟨b, j, none⟩ = false

theorem bytesRow_size (s : ByteArray) (cap : Nat) (h : s.size ≤ cap) : (bytesRow s cap).size = cap := by
  have e : s.data.size = s.size := rfl
  simp only [bytesRow, Array.size_append, Array.size_map, Array.size_replicate]
  omega

/-- '[]byte(s)' -/
theorem label_made {P : Program} (w : World) (src dst e : TypeId) (s : ByteArray) (hs : P.underlying src = some .string) (hd : P.underlying dst = some (.slice e)) (he : P.underlying e = some (.int .u8)) (hsz : s.size ≤ 140737488355328) :
    ∃ cap W, (convert src dst (.string s)).run P w = .ok (.slice (some ⟨w.heap.size, 0, none⟩) s.size cap) W ∧ Hid (In W (some ⟨w.heap.size, 0, none⟩) s.size cap s.data.toList) ∧ Hid (Spare W w.heap.size s.size cap) ∧ Hid (Below w.heap.size w W) ∧ Hid (W.heap.size = w.heap.size + 1) := by
  have hge := grownCap_ge w s.size 0 e
  refine ⟨grownCap w s.size 0 e, _, run_bytes_of_string w src dst e s hs hd he, ?_, ?_, ?_, ?_⟩
  · refine ⟨rfl, hge, hsz, by simp, fun _ => ⟨w.heap.size, 0, rfl, by simp, fun i c hc => ?_⟩⟩
    have hlt : i < s.data.size := by have := (List.getElem?_eq_some_iff.1 hc).1; simpa using this
    have e1 := World.cell?_alloc_mark w.drew (bytesRow s (grownCap w s.size 0 e)) e ((bytesRow s (grownCap w s.size 0 e)).size, (bytesRow s (grownCap w s.size 0 e)).size + 1) i
    rw [Nat.zero_add]
    refine e1.trans ?_
    rw [bytesRow_at s _ i hlt]
    have e2 : s.data[i] = c := by
      rw [Array.getElem?_toList, Array.getElem?_eq_getElem hlt] at hc
      exact Option.some.inj hc
    rw [e2]
  · intro j h1 h2
    have e1 := World.cell?_alloc_mark w.drew (bytesRow s (grownCap w s.size 0 e)) e ((bytesRow s (grownCap w s.size 0 e)).size, (bytesRow s (grownCap w s.size 0 e)).size + 1) j
    have e2 := World.frozen?_alloc_mark w.drew (bytesRow s (grownCap w s.size 0 e)) e (bytesRow s (grownCap w s.size 0 e)).size ((bytesRow s (grownCap w s.size 0 e)).size + 1) j
    have hsz := bytesRow_size s (grownCap w s.size 0 e) hge
    refine ⟨?_, ?_⟩
    · refine (congrArg Option.isSome e1).trans ?_
      rw [Array.getElem?_eq_getElem (by rw [hsz]; exact h2)]
      rfl
    · refine e2.trans ?_
      rw [hsz]
      simp
      omega
  · have h := (Below.refl w.heap.size w.drew).alloc (Nat.le_refl _) (.cells (bytesRow s (grownCap w s.size 0 e)) e ((bytesRow s (grownCap w s.size 0 e)).size, (bytesRow s (grownCap w s.size 0 e)).size + 1))
    exact ⟨h.os, h.tape, h.output, h.size, h.block⟩
  · show _ = _
    simp

theorem wpList_conv {P : Program} {w w' : World} {ops : Array Oper} {rest : List Oper} {o : Oper} {a : Act} {Q : Exit → Act → World → Prop} (hw : Region.wanted o (yielded ops a.tmps) = true) (x : Operand) (src dst : TypeId) (ho : o.op = .convert src dst x) (v v' : Value) (hx : a.eval x = v)
    (hrun : (convert src dst v).run P w = .ok v' w') (h : wpList P ops Q rest (a.put o.dst v') w') : wpList P ops Q (o :: rest) a w := by
  refine Go.BigFrame.wpList_want hw fun K hK => ?_
  unfold Oper.wp
  simp [execOp, ho, hx, hrun, Result.andThen]
  exact hK _ _ h


/-- what a token says, ahead of its tag -/
def bodyT (k : Nat) (u : List UInt8) (t : Nat) : List UInt8 := Lib.decDigits k ++ 46 :: (u ++ 46 :: Lib.decDigits t)
/-- a text with its tag -/
def sealT (S b : List UInt8) : List UInt8 := b ++ 46 :: hexOf (tagOf S b)
def txtT (S : List UInt8) (k : Nat) (u : List UInt8) (t : Nat) : List UInt8 := sealT S (bodyT k u t)
/-- the variables that a book's calls read -/
def VT (w : World) : Prop := KT w ∧ ST w ∧ PT w
theorem VT.below {w w' : World} (h : VT w) (hb : Below w.heap.size w w') : VT w' := ⟨h.1.below hb, h.2.1.below hb, h.2.2.below hb⟩
abbrev pt : BA := ⟨#[46]⟩
theorem size67 : (Tryd.prog.info? 67).map (·.size) = some 32 := by kernel_rfl
theorem zero67 (W : World) : (zeroValue 67).run Tryd.prog W = .ok (.agg (zb 32).toArray) W := by kernel_rfl
set_option maxRecDepth 100000 in
set_option maxHeartbeats 1000000 in
theorem write_tok {w : World} {b : Nat} {a : Option Addr} {n cp : Nat} {mv : Value} {S : List UInt8} (hB : Blk w b 57 [.slice a n cp, mv]) (hS : In w a n cp S) (hn : n ≤ 20000) (hV : VT w) (k : Nat) (hk : k ≤ 1000) (u : BA) (hu : u.size ≤ 15000) (t : Nat) (ht : t ≤ 1099511627776) (X : BA) (hX : X.data.toList = txtT S k u.data.toList t) :
    Calls Tryd.prog 23 #[.pointer (some ⟨b, 0, none⟩), iv (k : Int), .string u, iv (t : Int)] w fun e w' => e = .returned (.string X) ∧ Below w.heap.size w w' := by
  obtain ⟨d1, hd1⟩ : ∃ s : BA, s = ⟨(Lib.decDigits k).toArray⟩ := ⟨_, rfl⟩
  obtain ⟨d2, hd2⟩ : ∃ s : BA, s = ⟨(Lib.decDigits t).toArray⟩ := ⟨_, rfl⟩
  have z1 : d1.size ≤ 13 := by rw [hd1]; show (Lib.decDigits k).toArray.size ≤ _; rw [List.size_toArray]; exact dec_len k (by omega)
  have z2 : d2.size ≤ 13 := by rw [hd2]; show (Lib.decDigits t).toArray.size ≤ _; rw [List.size_toArray]; exact dec_len t ht
  obtain ⟨Y, hY⟩ : ∃ Y : BA, d1 ++ pt ++ u ++ pt ++ d2 = Y := ⟨_, rfl⟩
  have hYL : Y.data.toList = bodyT k u.data.toList t := by rw [← hY, hd1, hd2]; simp [ByteArray.data_append, bodyT]
  have zY : Y.size ≤ 15100 := by
    rw [← hY]
    simp only [ByteArray.size_append]
    have : pt.size = 1 := rfl
    omega
  obtain ⟨T, hT⟩ : ∃ T, tagOf S Y.data.toList = T := ⟨_, rfl⟩
  have hTL : T.length = 32 := by rw [← hT]; exact tagOf_len _ _
  obtain ⟨H, hH⟩ : ∃ H : BA, ⟨(hexOf T).toArray⟩ = H := ⟨_, rfl⟩
  have zH : H.size = 64 := by rw [← hH]; show (hexOf T).toArray.size = 64; rw [List.size_toArray, hexOf_length, hTL]
  have hXX : Y ++ pt ++ H = X := by
    refine ba_ext ?_
    rw [hX]
    unfold txtT sealT
    rw [← hYL, hT, ← hH]
    simp [ByteArray.data_append]
  have HC1 : Hid (∀ V, PT V → Calls Tryd.prog 33 #[iv (k : Int)] V fun e V2 => e = .returned (.string d1) ∧ Below V.heap.size V V2) := fun V hV => itoa_b k (by omega) V hV d1 hd1
  have HC2 : Hid (∀ V, PT V → Calls Tryd.prog 33 #[iv (t : Int)] V fun e V2 => e = .returned (.string d2) ∧ Below V.heap.size V V2) := fun V hV => itoa_b t ht V hV d2 hd2
  have HB : Hid (Blk w b 57 [.slice a n cp, mv] ∧ In w a n cp S ∧ n ≤ 20000 ∧ VT w ∧ Y.size ≤ 15100) := ⟨hB, hS, hn, hV, zY⟩
  have HT : Hid (tagOf S Y.data.toList = T ∧ T.length = 32 ∧ (⟨(hexOf T).toArray⟩ : BA) = H) := ⟨hT, hTL, hH⟩
  have hz := zero67
  have qy : (Y.size : Int) ≤ 15100 := by omega
  have qh : (H.size : Int) = 64 := by omega
  have qu : (u.size : Int) ≤ 15000 := by omega
  have qd1 : (d1.size : Int) ≤ 13 := by omega
  have qd2 : (d2.size : Int) ≤ 13 := by omega
  clear hB hS hn hV hk hu ht hX hd1 hd2 z1 z2 hYL zY hT hTL hH zH
  go_enter Tryd.func23, Tryd.ntmps23
  go_wp2_with fail
  refine (HC1.out w HB.out.2.2.2.1.2.2).mono ?_
  rintro e W1 ⟨rfl, hb1⟩
  have H1 : Hid (Below w.heap.size w W1) := hb1
  clear hb1
  go_wp2_with fail
  refine (HC2.out W1 (HB.out.2.2.2.1.2.2.below H1.out)).mono ?_
  rintro e W2 ⟨rfl, hb2⟩
  have H2 : Hid (Below w.heap.size w W2) := below_tr H1.out hb2
  have c0 : W2.cell? ⟨b, 0, none⟩ = some (.slice a n cp) := (HB.out.1.below H2.out HB.out.1.lt).cell rfl
  clear hb2
  go_wp2_with (with_reducible change wpList _ _ _ ({ dst := some 25, op := _, type := _, pos := _, after := _, guard := _ } :: _) _ _; refine Hid.out ?_)
  show wpList _ _ _ _ _ _
  obtain ⟨cap, W3, hcv, HIN3, -, HB3, -⟩ := label_made (P := Tryd.prog) W2 9 22 5 Y Tryd.underlying9 Tryd.underlying22 Tryd.underlying5 (by have := HB.out.2.2.2.2; omega)
  refine wpList_conv rfl (.tmp 24) 9 22 rfl (.string Y) _ rfl hcv ?_
  have H3 : Hid (Below w.heap.size w W3) := below_tr H2.out HB3.out
  clear hcv HB3 c0
  go_wp2_with fail
  refine (tag_is S Y.data.toList T HT.out.1 a (some ⟨W2.heap.size, 0, none⟩) n Y.size cp cap W3 (HB.out.2.2.2.1.1.below H3.out) (HB.out.2.2.2.1.2.1.below H3.out) (HB.out.2.1.below H3.out) HIN3.out (by have := HB.out.2.2.1; omega) (by have := HB.out.2.2.2.2; omega)).mono ?_
  rintro e W4 ⟨rfl, HW4⟩
  have H4 : Hid (Below w.heap.size w W4) := below_tr H3.out HW4.out
  obtain ⟨g, hg⟩ : ∃ g, W4.heap.size = g := ⟨_, rfl⟩
  have HG : Hid (W4.heap.size = g ∧ w.heap.size ≤ g) := ⟨hg, by have := H4.out.size; omega⟩
  clear HW4 HIN3
  go_wp2_with (with_reducible change wpList _ _ _ ({ dst := none, op := Op.store 67 _ _, type := _, pos := _, after := _, guard := _ } :: _) _ _; refine Hid.out ?_)
  show wpList _ _ _ _ _ _
  refine wpList_store_blk rfl 67 (.tmp 10) (.tmp 26) rfl g 0 67 (zb 32) (U T) rfl rfl (by rw [← HG.out.1]; exact Blk.new W4 _ _) (by rw [U_length, HT.out.2.1, zb_length]; omega) (by rw [size67, U_length, HT.out.2.1]) (U_one _) ?_
  intro W5 hx5 hg5
  have H5 : Hid (Below w.heap.size w W5 ∧ Blk W5 g 67 (U T)) := ⟨below_gr (below_tr H4.out (below_al _ _)) hg5.out HG.out.2, blk_all hx5.out (by rw [U_length, HT.out.2.1, zb_length])⟩
  have hsl := slice25 g
  clear hx5 hg5 hg
  go_wp2_with fail
  refine (hex_is T (some ⟨g, 0, none⟩) 32 32 W5 (in25 HT.out.2.1 H5.out.2) (by omega)).mono ?_
  rintro e W6 ⟨rfl, hb6⟩
  have H6 : Hid (Below w.heap.size w W6) := below_tr H5.out.1 hb6
  rw [HT.out.2.2]
  clear hb6 hsl
  go_wp2
  go_ret
  exact ⟨by first | rfl | rw [← hXX], H6.out⟩
#print axioms write_tok
end Go.Proofs.YtjeahlfmapacfaaDoor.Oct
