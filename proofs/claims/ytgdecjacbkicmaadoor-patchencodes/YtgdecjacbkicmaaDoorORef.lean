/-
  Layer 1 (octet): the document's own Put and PutText, and the law's spoil: what they leave.
-/
import Derived.Test.YtgdecjacbkicmaaDoorOPut
import Derived.Test.YtgdecjacbkicmaaDoorArgs
import Derived.Laws.IdiomStrings
namespace Go.Proofs.YtgdecjacbkicmaaDoor.Oct
open Go.RowKit

/-- one byte appended: the law at the walk -/
theorem wpList_append_byte {P : Program} (w : World) {ops : Array Oper} {rest : List Oper} {o : Oper} {a : Act} {Q : Exit → Act → World → Prop} (hgd : o.guard = none) (s x : Operand) (t : TypeId)
    (ho : o.op = .call { callee := .builtin .append, args := #[s, x], argTypes := #[t, t] })
    (B : Nat) (e : TypeId) (i : TypeInfo) (ht : P.underlying t = some (.slice e)) (hi : P.info? e = some i) (hz : i.zero = some (.int .u8 0)) (hsize : i.size = 1) (hby : i.bytes = 1)
    (v : Value) (r : List UInt8) (hs : a.eval s = v) (w0 : World) (hown : Own e B w0 v r) (u : Value) (c : UInt8) (hu : u = .int .u8 (c.toNat : Int)) (hw : w = w0.alloc (.cells #[u] e)) (hx : a.eval x = .slice (some ⟨w0.heap.size, 0, none⟩) 1 1)
    (hbytes : r.length + 1 ≤ 140737488355328) (hB : B ≤ w0.heap.size) (wz : World) (hb : Below B wz w0)
    (h : ∀ v' w', Own e B w' v' (r ++ [c]) → Below B wz w' → wpList P ops Q rest (a.put o.dst v') w') : wpList P ops Q (o :: rest) a w := by
  subst hu hw
  refine wpList_append_own _ hgd s x t ho B e i (.int .u8 0) 1 1 ht hi hz hsize hby rfl (by omega) v r.length (U r) hs (hown.alloc _) ⟨w0.heap.size, 0, none⟩ 1 1 [.int .u8 (c.toNat : Int)] hx rfl ?_ ?_ (by unfold maxLen; omega) (by omega) (by simp; omega) ?_
  · intro j u hj
    match j, hj with
    | 0, hj => simp at hj; subst hj; simp [Addr.add]
  · intro u hu; simp at hu; subst hu; rfl
  · intro v' w' h1 h2 _
    refine h v' w' ?_ ?_
    · show w'.ownsRow B e 1 v' (r ++ [c]).length (U (r ++ [c]))
      rw [List.length_append, U_append]; exact h1
    · refine (hb.alloc hB _).grown h2 (by simp; omega) ?_
      intro k hk
      exact (hown.lt k hk).1

theorem plus128 (q : Nat) : (UInt8.ofNat (q % 128 + 128)).toNat = q % 128 + 128 := toNat_more q

set_option maxHeartbeats 800000 in
set_option maxRecDepth 100000 in
theorem refPut (a : Option Addr) (len cap : Nat) (l : List UInt8) (n : Int) (w : World) (hin : In w a len cap l) (h0 : 0 ≤ n) (h1 : n ≤ 18446744073709551615) (hl : len ≤ 1000000) :
    Calls Tryd.prog 28 #[.slice a len cap, .int .u64 n] w fun e w' => ∃ v, e = .returned v ∧ Own 5 w.heap.size w' v (l ++ enc n.toNat) ∧ Below w.heap.size w w' := by
  obtain ⟨i0, hi, hz0, hz1, hz2⟩ := info_parts info5
  obtain ⟨N, rfl⟩ := Int.eq_ofNat_of_zero_le h0
  rw [Int.toNat_natCast]
  have HIN : Hid (In w a len cap l) := hin
  have HLL : Hid (l.length = len) := hin.1
  have HE : Hid ((enc N).length ≤ 10) := enc_le _ (by omega)
  clear hin
  have H0 : Hid ((w.alloc (.cells #[] 5)).ownsRow w.heap.size 5 1 (.slice (some ⟨w.heap.size, 0, none⟩) 0 0) 0 (U [])) := World.ownsRow_made w #[] 0 (Nat.le_refl _) (by unfold maxLen; omega) rfl
  have HB0 : Hid (Below w.heap.size w (w.alloc (.cells #[] 5))) := (Below.refl _ _).alloc (Nat.le_refl _) _
  go_enter Tryd.func28, Tryd.ntmps28
  go_wp2_with (at_builtin; refine wpList_append_in _ rfl _ _ 28 rfl w.heap.size 5 i0 Tryd.underlying28 hi hz0 hz1 hz2 _ [] 0 rfl rfl H0.out a len cap l rfl (HIN.out.below HB0.out) (by omega) HB0.out.size ?_)
  intro v1 w1 hown1 hg1
  have hb1 := HB0.out.grown hg1 HB0.out.size (by intro b hb; simp [Value.ownBlock] at hb; omega)
  have HO1 : Hid (Own 5 w.heap.size w1 v1 l) := hown1
  clear hown1 hg1
  go_wp2_with fail
  go_loopw [1, 5] (fun m v wr => ∃ (q : Nat) (dn : List UInt8), m = .int .u64 (q : Int) ∧ q < 18446744073709551616 ∧ Hid (Own 5 w.heap.size wr v (l ++ dn) ∧ dn ++ enc q = enc N) ∧ Below w.heap.size w wr)
    (fun m _ _ => (intOf m).toNat)
  case atStart => exact ⟨N, [], rfl, by omega, ⟨by rw [List.append_nil]; exact HO1.out, rfl⟩, hb1⟩
  case round =>
    obtain ⟨q, dn, rfl, hq, hr, hbr⟩ := hrel
    have HD : Hid (dn ++ enc q = enc N) := hr.out.2
    have hlen : (l ++ dn).length ≤ 1000010 := by have := HE.out; have e := congrArg List.length hr.out.2; have := HLL.out; simp only [List.length_append] at *; omega
    by_cases hlt : q < 128
    · have q1 : (q : Int) < 128 := by omega
      obtain ⟨cb, hcb⟩ : ∃ cb, cb = UInt8.ofNat q := ⟨_, rfl⟩
      have HEQ : Hid (l ++ (dn ++ [cb]) = l ++ enc N) := by show _ = _; rw [← HD.out, enc_small hlt, hcb]
      have HC : Hid (Value.int IntKind.u8 ((q : Int) % 256) = .int .u8 (cb.toNat : Int)) := by show _ = _; rw [hcb, toNat_small hlt]; congr 1; omega
      have HC2 : Hid (Value.int IntKind.u8 (q : Int) = .int .u8 (cb.toNat : Int)) := by show _ = _; rw [hcb, toNat_small hlt]
      clear hlt hcb
      go_wp2_with (at_builtin; refine wpList_append_byte _ rfl _ _ 28 rfl w.heap.size 5 i0 Tryd.underlying28 hi hz0 hz1 hz2 _ (l ++ dn) rfl wr hr.out.1 _ cb ?c1 rfl rfl (by omega) hbr.size w hbr ?_)
      case c1 => first | exact HC.out | exact HC2.out
      intro v2 w2 hown2 hb2
      have H2 : Hid (Own 5 w.heap.size w2 v2 (l ++ enc N)) := by show Own _ _ _ _ _; rw [← HEQ.out]; exact hown2
      clear hown2
      go_wp2
      go_ret
      exact ⟨_, rfl, H2.out, hb2⟩
    · have q1 : (128 : Int) ≤ (q : Int) := by omega
      obtain ⟨cb, hcb⟩ : ∃ cb, cb = UInt8.ofNat (q % 128 + 128) := ⟨_, rfl⟩
      have HEQ : Hid (dn ++ [cb] ++ enc (q / 128) = enc N) := by show _ = _; rw [← HD.out, enc_big (by omega : 128 ≤ q), List.append_assoc, hcb]; rfl
      have HC : Hid (Value.int IntKind.u8 ((q : Int) % 128 + 128) = .int .u8 (cb.toNat : Int)) := by show _ = _; rw [hcb, toNat_more]; congr 1
      clear hlt hcb
      go_wp2_with (at_builtin; refine wpList_append_byte _ rfl _ _ 28 rfl w.heap.size 5 i0 Tryd.underlying28 hi hz0 hz1 hz2 _ (l ++ dn) rfl wr hr.out.1 _ cb ?c2 rfl rfl (by omega) hbr.size w hbr ?_)
      case c2 => exact HC.out
      intro v2 w2 hown2 hb2
      have H2 : Hid (Own 5 w.heap.size w2 v2 (l ++ (dn ++ [cb]))) := hown2
      clear hown2
      go_wp2
      go_roundw
      case rel => exact ⟨q / 128, _, by go_num, by omega, ⟨H2.out, HEQ.out⟩, hb2⟩
      case measure => simp [intOf]; omega

/-- '[]byte(s)': new memory that holds the text's bytes -/
theorem bytes_of {P : Program} {e t9 t22 : TypeId} (h22 : P.underlying t22 = some (.slice e)) (h5 : P.underlying e = some (.int .u8)) (h9 : P.underlying t9 = some .string) (s : ByteArray) (w : World) (hs : s.size ≤ 140737488355328) :
    ∃ g cp w', (convert t9 t22 (.string s)).run P w = .ok (.slice (some ⟨g, 0, none⟩) s.size cp) w' ∧ In w' (some ⟨g, 0, none⟩) s.size cp s.data.toList ∧ Below w.heap.size w w' ∧ w.heap.size ≤ g := by
  refine ⟨_, _, _, run_bytes_of_string w t9 t22 e s h9 h22 h5, ?_, (Below.refl _ _).drew.alloc (Nat.le_refl _) _, Nat.le_refl _⟩
  have hsz : s.data.toList.length = s.size := by rw [Array.length_toList]; rfl
  refine ⟨hsz, grownCap_ge _ _ _ _, hs, by simp, fun _ => ⟨_, 0, rfl, by simp, fun i c hi => ?_⟩⟩
  have hlt : i < s.data.size := by have := (List.getElem?_eq_some_iff.1 hi).1; simpa using this
  have e1 := World.cell?_alloc_mark w.drew (bytesRow s (grownCap w s.size 0 e)) e ((bytesRow s (grownCap w s.size 0 e)).size, (bytesRow s (grownCap w s.size 0 e)).size + 1) (0 + i)
  have e2 : (⟨w.heap.size, 0 + i, none⟩ : Addr) = ⟨w.drew.heap.size, 0 + i, none⟩ := rfl
  rw [e2, e1, Nat.zero_add, bytesRow_at s _ i hlt]
  have e3 : s.data[i] = c := by have := (List.getElem?_eq_some_iff.1 hi).2; simpa using this
  rw [e3]

set_option maxHeartbeats 400000 in
theorem refPutText (a : Option Addr) (len cap : Nat) (l : List UInt8) (s : ByteArray) (w : World) (hin : In w a len cap l) (hl : len + s.size ≤ 1000000) :
    Calls Tryd.prog 27 #[.slice a len cap, .string s] w fun e w' => ∃ v, e = .returned v ∧ Own 5 w.heap.size w' v (l ++ enc s.size ++ s.data.toList) ∧ Below w.heap.size w w' := by
  obtain ⟨i0, hi, hz0, hz1, hz2⟩ := info_parts info5
  have HIN : Hid (In w a len cap l) := hin
  have HLL : Hid (l.length = len) := hin.1
  have HE : Hid ((enc s.size).length ≤ 10) := enc_le _ (by omega)
  clear hin
  go_enter Tryd.func27, Tryd.ntmps27
  go_wp2_with fail
  refine (refPut a len cap l s.size _ HIN.out (by omega) (by omega) (by omega)).mono ?_
  rw [Int.toNat_natCast]
  rintro e w1 ⟨v1, rfl, hown1, hb1⟩
  have HO1 : Hid (Own 5 w.heap.size w1 v1 (l ++ enc s.size)) := hown1
  obtain ⟨g2, cp2, w2, hconv, hin2, hb2, hg2⟩ := bytes_of (P := Tryd.prog) Tryd.underlying28 Tryd.underlying5 Tryd.underlying9 s w1 (by omega)
  have H2 : Hid (In w2 (some ⟨g2, 0, none⟩) s.size cp2 s.data.toList) := hin2
  have hbb2 := hb1.trans (hb2.mono hb1.size)
  have HO2 : Hid (w2.ownsRow w.heap.size 5 1 v1 (l ++ enc s.size).length (U (l ++ enc s.size))) := HO1.out.below hb2 (Nat.le_refl _)
  obtain ⟨N, hN⟩ : ∃ N, N = (l ++ enc s.size).length := ⟨_, rfl⟩
  have HN : Hid ((l ++ enc s.size).length = N) := hN.symm
  have hN2 : N + s.size ≤ 1000010 := by have := HE.out; have := HLL.out; rw [hN, List.length_append]; omega
  rw [← hN] at HO2
  clear hown1 hin2 hN
  go_wp2_with (at_builtin; refine wpList_append_in _ rfl _ _ 28 rfl w.heap.size 5 i0 Tryd.underlying28 hi hz0 hz1 hz2 _ (l ++ enc s.size) N HN.out rfl HO2.out (some ⟨g2, 0, none⟩) s.size cp2 s.data.toList rfl H2.out (by omega) hbb2.size ?_)
  intro v3 w3 hown3 hg3
  have hb3 := hbb2.grown hg3 hbb2.size (by intro b hb; exact (HO2.out.lt b hb).1)
  have H3 : Hid (Own 5 w.heap.size w3 v3 (l ++ enc s.size ++ s.data.toList)) := by show Own _ _ _ _ _; rw [List.append_assoc]; exact hown3
  clear hown3 hg3
  go_wp2
  go_ret
  exact ⟨_, rfl, H3.out, hb3⟩

theorem grown_trans {w w1 w2 : World} {row : Option Nat} (h : w.grownBy w1 row) (k : w1.grownBy w2 row) : w.grownBy w2 row :=
  ⟨k.os.trans h.os, k.tape.trans h.tape, k.output.trans h.output, Nat.le_trans h.size k.size, fun b hb hne => (k.block b (Nat.lt_of_lt_of_le hb h.size) hne).trans (h.block b hb hne)⟩

#print axioms refPutText
end Go.Proofs.YtgdecjacbkicmaaDoor.Oct
