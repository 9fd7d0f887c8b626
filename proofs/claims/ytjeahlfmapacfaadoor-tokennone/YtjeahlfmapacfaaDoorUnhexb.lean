/-
  Layer 2 (hash): 'Unhex'.
-/
import Derived.Test.YtjeahlfmapacfaaDoorUnhex
namespace Go.Proofs.YtjeahlfmapacfaaDoor.Oct
open Go.RowKit Sha

/-- what 'Unhex' tells of a text -/
def Told (w w' : World) (s : List UInt8) (e : Ending) : Prop := ∃ v : Value, e = .returned (.tuple #[v, .int .i64 (if (unhexL s).isSome then 0 else 20)]) ∧ Own 5 w.heap.size w' v ((unhexL s).getD [])

theorem or_pair : ∀ x y : Fin 16, bits BinOp.or IntKind.u8 ((x.val : Int) * 16) (y.val : Int) = (((16 * x.val + y.val) : Nat) : Int) := by decide +kernel

theorem own_none (w : World) (B : Nat) : Own 5 B w (.slice none 0 0) [] := ⟨rfl, .inl ⟨rfl, rfl⟩⟩

theorem dv_some (c : UInt8) (x : Nat) (h : dv c = some x) (w : World) : Calls Tryd.prog 53 #[.int .u8 (c.toNat : Int)] w fun e w' => e = .returned (.tuple #[.int .u8 (x : Int), .bool true]) ∧ w = w' := by
  have e := digitValue_is c w
  rw [h] at e
  exact e
theorem dv_non (c : UInt8) (h : dv c = none) (w : World) : Calls Tryd.prog 53 #[.int .u8 (c.toNat : Int)] w fun e w' => e = .returned (.tuple #[.int .u8 0, .bool false]) ∧ w = w' := by
  have e := digitValue_is c w
  rw [h] at e
  exact e
theorem unhex_cut {l : List UInt8} {k : Nat} (hk : k % 2 = 0) (hl : k ≤ l.length) (h : unhexL (l.take k) = none) : unhexL l = none := by
  have e := unhexL_append (l.take k) (l.drop k) (by rw [List.length_take]; omega)
  rw [List.take_append_drop, h] at e
  exact e

set_option maxHeartbeats 1000000 in
set_option maxRecDepth 100000 in
theorem unhex_is (s : ByteArray) (l : List UInt8) (hl : s.data.toList = l) (w : World) (hn : s.size ≤ 100000) :
    Calls Tryd.prog 40 #[.string s] w fun e w' => Told w w' l e ∧ Below w.heap.size w w' := by
  obtain ⟨i0, hi, hz0, hz1, hz2⟩ := info_parts info5
  have HL : Hid (s.data.toList = l) := hl
  obtain ⟨n, hsn⟩ : ∃ n, s.size = n := ⟨_, rfl⟩
  have HLL : Hid (l.length = n) := by show _ = _; rw [← hl, ← hsn]; rfl
  rw [hsn] at hn
  have HN : Hid (n ≤ 100000) := hn
  have q0 : (n : Int) ≤ 100000 := by omega
  by_cases hodd : n % 2 = 1
  · have q1 : (n : Int) % 2 ≠ 0 := by omega
    have q1' : (n : Int).tmod 2 ≠ 0 := by rw [Int.tmod_eq_emod_of_nonneg (by omega)]; exact q1
    have HU : Hid (unhexL l = none) := unhexL_odd l (by rw [HLL.out]; exact hodd)
    clear hl
    go_enter Tryd.func40, Tryd.ntmps40
    go_wp2
    go_ret2
    refine ⟨⟨.slice none 0 0, ?_, ?_⟩, Below.refl _ _⟩
    · rw [HU.out]; rfl
    · rw [HU.out]; exact own_none _ _
  · obtain ⟨m, hm⟩ : ∃ m, n = 2 * m := ⟨n / 2, by omega⟩
    have HM : Hid (n = 2 * m) := hm
    have q1 : (n : Int) % 2 = 0 := by omega
    have q1' : (n : Int).tmod 2 = 0 := by rw [Int.tmod_eq_emod_of_nonneg (by omega)]; exact q1
    have q2 : (n : Int) / 2 = (m : Int) := by omega
    have q2' : (n : Int).tdiv 2 = (m : Int) := by rw [Int.tdiv_eq_ediv_of_nonneg (by omega)]; exact q2
    have q3 : m ≤ 50000 := by omega
    clear hl hm hodd
    go_enter Tryd.func40, Tryd.ntmps40
    go_wp2_with (at_make; refine wpList_make_two _ rfl _ _ 22 rfl 5 i0 Tryd.underlying22 hi hz0 hz1 hz2 _ _ _ _ 0 m rfl rfl (by omega) (by omega) (by omega) (by omega) ?_)
    intro w1 hrow1 hsz1 hb1
    have HO1 : Hid (Own 5 w.heap.size w1 (.slice (some ⟨w.heap.size, 0, none⟩) 0 m) []) := ⟨rfl, .inr ⟨_, m, _, rfl, Nat.le_refl _, hrow1.out, Nat.zero_le _, by unfold maxLen; omega, by simp [noughts], rfl⟩⟩
    have HB1 : Hid (Below w.heap.size w w1) := hb1
    clear hrow1 hsz1 hb1
    go_wp2_with fail
    go_loopw [21, 4] (fun i v wr => ∃ (t : Nat) (o : List UInt8), i = .int .i64 t ∧ t ≤ m ∧ Hid (unhexL (l.take (2 * t)) = some o) ∧ Hid (o.length = t) ∧ Hid (Own 5 w.heap.size wr v o) ∧ Hid (Below w.heap.size w wr)) (fun i _ _ => m - (intOf i).toNat)
    case atStart => exact ⟨0, [], rfl, by omega, rfl, rfl, HO1.out, HB1.out⟩
    case round =>
      obtain ⟨t, o, rfl, ht, hu, hol, ho, hb⟩ := hrel
      by_cases hlt : t = m
      · subst hlt
        have HU : Hid (unhexL l = some o) := by
          have e := hu.out
          rw [List.take_of_length_le (by rw [HLL.out, HM.out]; exact Nat.le_refl _)] at e
          exact e
        go_wp2
        go_ret2
        refine ⟨⟨u4, ?_, ?_⟩, hb.out⟩
        · rw [HU.out]; rfl
        · rw [HU.out]; exact ho.out
      · have q4 : (t : Int) < (m : Int) := by omega
        have HT : Hid (t < m) := by show t < m; omega
        have h2t : 2 * t < l.length := by rw [HLL.out, HM.out]; omega
        have h2t1 : 2 * t + 1 < l.length := by rw [HLL.out, HM.out]; omega
        obtain ⟨c, hc⟩ : ∃ c, c = l[2 * t] := ⟨_, rfl⟩
        obtain ⟨d, hd⟩ : ∃ d, d = l[2 * t + 1] := ⟨_, rfl⟩
        have HNX : Hid (unhexL (l.take (2 * (t + 1))) = (pairOf c d).map (fun x => o ++ [x])) := by
          show _ = _
          rw [show 2 * (t + 1) = 2 * t + 1 + 1 by omega, List.take_succ_eq_append_getElem h2t1, List.take_succ_eq_append_getElem h2t, List.append_assoc, unhexL_append _ _ (by rw [List.length_take]; omega), hu.out, ← hc, ← hd]
          simp only [List.cons_append, List.nil_append, unhexL, Option.bind_some]
          cases pairOf c d <;> simp
        have hg1 : ∀ h, s[2 * t]'h = c := by
          intro h
          subst hc
          have e := HL.out
          subst e
          rfl
        have hg2 : ∀ h, s[2 * t + 1]'h = d := by
          intro h
          subst hd
          have e := HL.out
          subst e
          rfl
        have r1 : 2 * (t : Int) < (n : Int) := by have := HM.out; omega
        have r2 : 2 * (t : Int) + 1 < (n : Int) := by have := HM.out; omega
        have r3 : (2 * (t : Int)).toNat = 2 * t := by omega
        have r4 : (2 * (t : Int) + 1).toNat = 2 * t + 1 := by omega
        clear hlt hc hd h2t h2t1
        cases hdc : dv c with
        | none =>
          have HDC : Hid (dv c = none) := hdc
          have HU : Hid (unhexL l = none) := by
            refine unhex_cut (k := 2 * (t + 1)) (by omega) (by rw [HLL.out, HM.out]; have := HT.out; omega) ?_
            rw [HNX.out, pairOf, HDC.out]; rfl
          clear hdc
          go_wp2_with fail
          refine (dv_non c HDC.out _).mono ?_
          rintro e w2 ⟨rfl, rfl⟩
          go_wp2_with fail
          refine (digitValue_is d _).mono ?_
          rintro e w2 ⟨rfl, rfl⟩
          go_wp2
          go_ret2
          refine ⟨⟨.slice none 0 0, ?_, ?_⟩, hb.out⟩
          · rw [HU.out]; rfl
          · rw [HU.out]; exact own_none _ _
        | some x =>
          have HDC : Hid (dv c = some x) := hdc
          clear hdc
          cases hdd : dv d with
          | none =>
            have HDD : Hid (dv d = none) := hdd
            have HU : Hid (unhexL l = none) := by
              refine unhex_cut (k := 2 * (t + 1)) (by omega) (by rw [HLL.out, HM.out]; have := HT.out; omega) ?_
              rw [HNX.out, pairOf, HDC.out, HDD.out]; rfl
            clear hdd
            go_wp2_with fail
            refine (dv_some c x HDC.out _).mono ?_
            rintro e w2 ⟨rfl, rfl⟩
            go_wp2_with fail
            refine (dv_non d HDD.out _).mono ?_
            rintro e w2 ⟨rfl, rfl⟩
            go_wp2
            go_ret2
            refine ⟨⟨.slice none 0 0, ?_, ?_⟩, hb.out⟩
            · rw [HU.out]; rfl
            · rw [HU.out]; exact own_none _ _
          | some y =>
            have HDD : Hid (dv d = some y) := hdd
            clear hdd
            have hx := dv_lt HDC.out
            have hy := dv_lt HDD.out
            have hor := or_pair ⟨x, hx⟩ ⟨y, hy⟩
            simp only at hor
            obtain ⟨z, hz⟩ : ∃ z, z = UInt8.ofNat (16 * x + y) := ⟨_, rfl⟩
            have hzn : ((16 * x + y : Nat) : Int) = (z.toNat : Int) := by rw [hz, ofNat16 hx hy]
            rw [hzn] at hor
            have HP : Hid (pairOf c d = some z) := by show _ = _; rw [pairOf, HDC.out, HDD.out, hz]; rfl
            have q5 : (x : Int) < 16 := by omega
            clear hz hzn
            go_wp2_with fail
            refine (dv_some c x HDC.out _).mono ?_
            rintro e w2 ⟨rfl, rfl⟩
            go_wp2_with fail
            refine (dv_some d y HDD.out _).mono ?_
            rintro e w2 ⟨rfl, rfl⟩
            have HI : Hid (In (wr.alloc (.cells (U [z]).toArray 5)) (some ⟨wr.heap.size, 0, none⟩) 1 1 [z]) := in_new wr 5 [z] (by simp)
            have HO : Hid ((wr.alloc (.cells (U [z]).toArray 5)).ownsRow w.heap.size 5 1 u4 t (U o)) := World.ownsRow.alloc (show wr.ownsRow w.heap.size 5 1 u4 t (U o) from own_size hol.out ho.out) _
            go_wp2_with (at_builtin; refine wpList_append_in _ rfl (.tmp 47) (.tmp 52) 22 rfl w.heap.size 5 i0 Tryd.underlying22 hi hz0 hz1 hz2 u4 o t hol.out rfl HO.out (some ⟨wr.heap.size, 0, none⟩) 1 1 [z] rfl HI.out (by have := HT.out; omega) (by have := hb.out.size; simp; omega) ?_; intro v' w' ho' hg'; have HOX : Hid (Own 5 w.heap.size w' v' (o ++ [z])) := ho'; have HBX : Hid (Below w.heap.size w w') := (hb.out.alloc hb.out.size _).grown hg' (by have := hb.out.size; simp; omega) (by intro b hb; exact (HO.out.lt b hb).1); clear ho' hg')
            refine ⟨⟨t + 1, o ++ [z], by simp, HT.out, ?_, ?_, HOX, HBX⟩, ?_⟩
            · show _ = _
              rw [HNX.out, HP.out]; rfl
            · show _ = _
              rw [List.length_append, hol.out]; rfl
            · have := HT.out
              simp only [intOf]
              omega
#print axioms unhex_is
end Go.Proofs.YtjeahlfmapacfaaDoor.Oct
