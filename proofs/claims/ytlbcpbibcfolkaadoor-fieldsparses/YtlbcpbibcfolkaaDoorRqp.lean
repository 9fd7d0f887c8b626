/-
  Layer 22 (fields): the reference's Parse.
-/
import Derived.Test.YtlbcpbibcfolkaaDoorRqa
namespace Go.Proofs.YtlbcpbibcfolkaaDoor.Oct
open Go.RowKit
set_option linter.unusedSimpArgs false
set_option linter.unusedVariables false

theorem tw_take (c : UInt8) (l : List UInt8) : l.take (tw c l).length = tw c l := by
  obtain ⟨r, h1, _⟩ := tw_split c l
  generalize tw c l = a at *
  subst h1
  exact List.take_left
theorem sl_run (s : BA) (e f : Nat) (h1 : e + 1 ≤ f) (h2 : f ≤ s.size) (W : World) : (Instr.slice 9 (.string s) (some (iv ((e : Int) + 1))) (some (iv (f : Int))) none).run Tryd.prog W = .ok (.string (s.extract (e + 1) f)) W := by
  rw [run_slice_string W 9 s .i64 .i64 ((e : Int) + 1) (f : Int) Tryd.underlying9 (by omega) (by omega) (by omega)]
  rfl
theorem drop_mid {l K V : List UInt8} (h : l = K ++ 61 :: V) : l.drop (K.length + 1) = V := by
  subst h
  rw [← List.drop_drop, List.drop_left]
  rfl
set_option maxRecDepth 100000 in
set_option maxHeartbeats 4000000 in
theorem rparse_is (s : BA) (hs : s.size ≤ 140737488355328) (w : World) : Calls Tryd.prog 18 #[.string s] w (RqP w (parF s)) := by
  have q0 : (s.size : Int) ≤ 140737488355328 := by omega
  by_cases hbig : 16384 < s.size
  · have q1 : (16384 : Int) < (s.size : Int) := by omega
    have HF : Hid (parF s = ([], 16384, 3)) := by show _ = _; unfold parF; rw [if_pos hbig]
    clear hbig hs
    go_enter Tryd.func18, Tryd.ntmps18
    go_wp2
    go_ret3
    refine ⟨.inr ⟨?_, ?_⟩, Below.refl _ _⟩ <;> rw [HF.out]
    · simp
    · rfl
  obtain ⟨n, hn⟩ : ∃ n, s.size = n := ⟨_, rfl⟩
  obtain ⟨L, hL⟩ : ∃ L, s.data.toList = L := ⟨_, rfl⟩
  have qn : (s.size : Int) = (n : Int) := by omega
  have qn2 : (n : Int) ≤ 16384 := by omega
  have HL : Hid (s.data.toList = L ∧ L.length = n ∧ n ≤ 16384 ∧ s.size = n) := ⟨hL, by rw [← hL, ← hn]; rfl, by omega, hn⟩
  have hpf : parF s = formF L := by unfold parF; rw [if_neg hbig, hL]
  clear hbig hs hL
  by_cases h0 : n = 0
  · subst h0
    have HF : Hid (parF s = ([], 0, 0)) := by show _ = _; rw [hpf, List.length_eq_zero_iff.1 HL.out.2.1]; rfl
    clear hpf hn
    go_enter Tryd.func18, Tryd.ntmps18
    go_wp2_with fail
    go_loopw [6, 5] (fun u v wr => u = iv 0 ∧ v = .slice none 0 0 ∧ Hid (w = wr)) (fun _ _ _ => 0)
    case atStart => exact ⟨rfl, rfl, rfl⟩
    case round =>
      obtain ⟨rfl, rfl, HW⟩ := hrel
      obtain rfl := HW.out
      go_wp2
      go_ret3
      refine ⟨.inl ⟨by rw [HF.out], _, rfl, ?_⟩, Below.refl _ _⟩
      rw [HF.out]
      exact OwP.nil _ _
  have q1 : 0 < (n : Int) := by omega
  have HRF : Hid (parF s = refF 64 L) := by show _ = _; rw [hpf, form_ref (fun h => h0 (by rw [← HL.out.2.1, h]; rfl))]
  clear hpf h0 hn
  go_enter Tryd.func18, Tryd.ntmps18
  go_wp2_with fail
  go_loopw [6, 5] (fun u v wr => ∃ (p : Nat) (x : Value) (o : List LL) (a : Option Addr) (m c : Nat), u = iv (p : Int) ∧ x = v ∧ x = .slice a m c ∧ m = o.length ∧ Hid (RI w L x p o wr)) (fun u _ _ => n - (intOf u).toNat)
  case atStart => exact ⟨0, _, [], none, 0, 0, rfl, rfl, rfl, rfl, OwP.nil _ _, Below.refl _ _, by simp, Nat.zero_le _, rfl, (Nat.zero_add _).symm, rfl⟩
  case round =>
    obtain ⟨p, x, o, a, m, cp, rfl, rfl, rfl, hm, HI⟩ := hrel
    have HM : Hid (m = o.length) := hm
    have hle : p ≤ n := by have := HI.out.le; rw [HL.out.2.1] at this; exact this
    have q2 : (p : Int) ≤ (n : Int) := by omega
    have hm64 : m ≤ 64 := by rw [hm]; exact HI.out.len
    by_cases h64 : m = 64
    · have q3 : ((m : Int) == 64) = true := by rw [h64]; rfl
      obtain ⟨f1, f2⟩ := HI.out.full (by rw [← hm]; exact h64)
      have HF : Hid ((parF s).2.1 = p ∧ (parF s).2.2 = 3 ∧ Below w.heap.size w wr) := ⟨by rw [HRF.out]; exact f1, by rw [HRF.out]; exact f2, HI.out.bel⟩
      subst h64
      clear f1 f2 hm hm64 hle q3
      go_wp2
      go_ret3
      refine ⟨.inr ⟨by rw [HF.out.2.1]; simp, by rw [HF.out.1, HF.out.2.1]; rfl⟩, HF.out.2.2⟩
    have q3 : ((m : Int) == 64) = false := by rw [beq_eq_false_iff_ne]; omega
    have ho64 : o.length < 64 := by omega
    obtain ⟨en, hen⟩ : ∃ en, p + (tw 38 (L.drop p)).length = en := ⟨_, rfl⟩
    obtain ⟨ep, hep⟩ : ∃ ep, p + (tw 61 (tw 38 (L.drop p))).length = ep := ⟨_, rfl⟩
    have hdl : (L.drop p).length = n - p := by rw [List.length_drop, HL.out.2.1]
    have l1 := tw_le 38 (L.drop p)
    have l2 := tw_le 61 (tw 38 (L.drop p))
    rw [hdl] at l1
    have q4 : (p : Int) ≤ (ep : Int) := by omega
    have q5 : (ep : Int) ≤ (en : Int) := by omega
    have q6 : (en : Int) ≤ (n : Int) := by omega
    have q11 : (ep : Int) ≤ (n : Int) := by omega
    have hE : (L.take en).drop p = tw 38 (L.drop p) := by
      rw [List.drop_take, ← hen, Nat.add_sub_cancel_left]
      exact tw_take _ _
    have hK : (L.take ep).drop p = tw 61 (tw 38 (L.drop p)) := by
      have e : (L.take ep).drop p = ((L.take en).drop p).take (ep - p) := by
        rw [List.drop_take, List.drop_take, List.take_take]
        congr 1
        omega
      rw [e, hE, ← hep, Nat.add_sub_cancel_left]
      exact tw_take _ _
    have C1 : Hid (∀ V, Calls Tryd.prog 31 #[.string s, iv (p : Int), bv 38] V fun e V2 => e = .returned (iv (en : Int)) ∧ V = V2) := fun V => find_is s (by have := HL.out; omega) p (by have := HL.out; omega) 38 V en (by rw [HL.out.1]; exact hen)
    have C2 : Hid (∀ V, Calls Tryd.prog 31 #[.string (s.extract 0 en), iv (p : Int), bv 61] V fun e V2 => e = .returned (iv (ep : Int)) ∧ V = V2) := fun V => find_is (s.extract 0 en) (by rw [ByteArray.size_extract]; have := HL.out; omega) p (by rw [ByteArray.size_extract]; have := HL.out; omega) 61 V ep (by rw [ext_data, HL.out.1, List.drop_zero, hE]; exact hep)
    obtain ⟨KL, hKL⟩ : ∃ K, tw 61 (tw 38 (L.drop p)) = K := ⟨_, rfl⟩
    have C3 : Hid (∀ V, Calls Tryd.prog 10 #[.string (s.extract p ep)] V fun e V2 => e = .returned (runA KL) ∧ Below V.heap.size V V2) := fun V => runesc_is (s.extract p ep) (by rw [ByteArray.size_extract]; have := HL.out; omega) V _ (by rw [ext_data, HL.out.1, hK, hKL])
    by_cases her : (upTo [] KL).2.2 = 0
    · have hrA : runA KL = .tuple #[.string ⟨(upTo [] KL).1.toArray⟩, iv 0, iv 0] := by unfold runA; rw [if_pos her]
      rw [hrA] at C3
      by_cases hee : ep = en
      · -- no =
        have hpp : pairF (L.drop p) = (([], []), (tw 38 (L.drop p)).length, 221) := piece_none (by rw [hKL]; exact her) (by omega)
        obtain ⟨f1, f2⟩ := HI.out.bad ho64 (by rw [hpp]; simp)
        rw [hpp] at f1 f2
        have HF : Hid ((parF s).2.1 = en ∧ (parF s).2.2 = 221 ∧ Below w.heap.size w wr) := ⟨by rw [HRF.out, f1]; exact hen, by rw [HRF.out, f2], HI.out.bel⟩
        subst hee
        generalize (⟨(upTo [] KL).1.toArray⟩ : BA) = KT at *
        clear f1 f2 hpp hm hm64 hle hen hep hdl l1 l2 hE hK hKL her hrA h64 ho64
        go_wp2_with fail
        refine (C1.out wr).mono ?_
        rintro e W ⟨rfl, rfl⟩
        go_wp2_with fail
        refine (C2.out wr).mono ?_
        rintro e W ⟨rfl, rfl⟩
        go_wp2_with fail
        refine (C3.out wr).mono ?_
        rintro e W2 ⟨rfl, hb2⟩
        have H2 : Hid (Below w.heap.size w W2) := below_tr HF.out.2.2 hb2
        clear hb2
        go_wp2
        go_ret3
        refine ⟨.inr ⟨by rw [HF.out.2.1]; simp, by rw [HF.out.1, HF.out.2.1]; rfl⟩, H2.out⟩
      · have hlt : (tw 61 (tw 38 (L.drop p))).length < (tw 38 (L.drop p)).length := by omega
        obtain ⟨V, r, e1, e2, e3⟩ := piece_split hlt
        have hval := piece_val e1 e2 e3
        have q7 : (ep : Int) < (en : Int) := by omega
        have q12 : (ep : Int) + 1 ≤ (en : Int) := by omega
        have q8 : ((ep : Int) == (en : Int)) = false := by rw [beq_eq_false_iff_ne]; omega
        have hV : (L.take en).drop (ep + 1) = V := by
          have e : (L.take en).drop (ep + 1) = ((L.take en).drop p).drop (ep + 1 - p) := by rw [List.drop_drop]; congr 1; omega
          have e4 : ep + 1 - p = (tw 61 (tw 38 (L.drop p))).length + 1 := by omega
          rw [e, hE, e4]
          exact drop_mid e2
        have hsl2 : ∀ W, (Instr.slice 9 (.string s) (some (iv ((ep : Int) + 1))) (some (iv (en : Int))) none).run Tryd.prog W = .ok (.string (s.extract (ep + 1) en)) W := sl_run s ep en (by omega) (by have := HL.out.2.2.2; omega)
        have C4 : Hid (∀ W, Calls Tryd.prog 10 #[.string (s.extract (ep + 1) en)] W fun e W2 => e = .returned (runA V) ∧ Below W.heap.size W W2) := fun W => runesc_is (s.extract (ep + 1) en) (by rw [ByteArray.size_extract]; have := HL.out; omega) W _ (by rw [ext_data, HL.out.1, hV])
        by_cases her2 : (upTo [] V).2.2 = 0
        · have hrA2 : runA V = .tuple #[.string ⟨(upTo [] V).1.toArray⟩, iv 0, iv 0] := by unfold runA; rw [if_pos her2]
          rw [hrA2] at C4
          have hpp : pairF (L.drop p) = (((upTo [] KL).1, (upTo [] V).1), (tw 38 (L.drop p)).length, 0) := by rw [piece_ok e1 e2 e3 (by rw [hKL]; exact her) her2, hKL]
          obtain ⟨KT, hKT⟩ : ∃ K : BA, (⟨(upTo [] KL).1.toArray⟩ : BA) = K := ⟨_, rfl⟩
          obtain ⟨VT, hVT⟩ : ∃ K : BA, (⟨(upTo [] V).1.toArray⟩ : BA) = K := ⟨_, rfl⟩
          have hmk : mkP (pairF (L.drop p)).1 = ⟨KT, VT⟩ := by rw [hpp, ← hKT, ← hVT]; rfl
          have hkv : (Pr.mk KT VT).ok := by
            have z1 := (upTo_le [] _ KL (Nat.le_refl _))
            have z2 := (upTo_le [] _ V (Nat.le_refl _))
            have z3 : KL.length ≤ n := by rw [← hKL]; omega
            have z4 : V.length ≤ n := by have := hval.2.2.2; omega
            refine ⟨?_, ?_⟩
            · show KT.size ≤ _
              rw [← hKT]
              show (upTo [] KL).1.toArray.size ≤ _
              rw [List.size_toArray]
              omega
            · show VT.size ≤ _
              rw [← hVT]
              show (upTo [] V).1.toArray.size ≤ _
              rw [List.size_toArray]
              omega
          rw [hKT] at C3
          rw [hVT] at C4
          have hsl : o.length + 1 ≤ 1000000 := by omega
          have HKV : Hid ((Pr.mk KT VT).ok ∧ o.length + 1 ≤ 1000000) := ⟨hkv, hsl⟩
          have HPP : Hid (mkP (pairF (L.drop p)).1 = ⟨KT, VT⟩ ∧ (pairF (L.drop p)).2.2 = 0 ∧ p + (pairF (L.drop p)).2.1 = en ∧ o.length < 64 ∧ (L.drop p).length = n - p) := ⟨hmk, by rw [hpp], by rw [hpp]; exact hen, ho64, hdl⟩
          have hbd := build49 KT VT
          have HPN : Hid (p ≤ n ∧ p ≤ en) := ⟨hle, by omega⟩
          clear hmk hkv hsl hpp hm hm64 hle hen hep hdl l1 l2 hE hK hKL her hrA h64 ho64 e1 e2 e3 hval hV her2 hrA2 hKT hVT hlt hee
          go_wp2_with fail
          refine (C1.out wr).mono ?_
          rintro e W ⟨rfl, rfl⟩
          go_wp2_with fail
          refine (C2.out wr).mono ?_
          rintro e W ⟨rfl, rfl⟩
          go_wp2_with fail
          refine (C3.out wr).mono ?_
          rintro e W2 ⟨rfl, hb2⟩
          have H2 : Hid (Below w.heap.size w W2 ∧ OwP W2 w.heap.size (.slice a m cp) (o.map mkP)) := ⟨below_tr HI.out.bel hb2, HI.out.own.below hb2⟩
          clear hb2
          go_wp2_with fail
          refine (C4.out W2).mono ?_
          rintro e W3 ⟨rfl, hb3⟩
          have H3 : Hid (Below w.heap.size w W3 ∧ OwP W3 w.heap.size (.slice a m cp) (o.map mkP)) := ⟨below_tr H2.out.1 hb3, H2.out.2.below hb3⟩
          clear hb3
          go_wp2_with (with_reducible change wpList _ _ _ ({ dst := some 71, op := _, type := _, pos := _, after := _, guard := _ } :: _) _ _; refine Hid.out ?_)
          show wpList _ _ _ _ _ _
          refine wpList_bs rfl (.tmp 70) rfl ⟨KT, VT⟩ rfl ?_
          have HO6 : Hid (OwP (W3.alloc (.cells (Pr.mk KT VT).cells.toArray 49)) w.heap.size (.slice a m cp) (o.map mkP) ∧ PsR (W3.alloc (.cells (Pr.mk KT VT).cells.toArray 49)) (.slice (some ⟨W3.heap.size, 0, none⟩) 1 1) [⟨KT, VT⟩] ∧ Below w.heap.size w (W3.alloc (.cells (Pr.mk KT VT).cells.toArray 49)) ∧ w.heap.size ≤ (W3.alloc (.cells (Pr.mk KT VT).cells.toArray 49)).heap.size) := ⟨H3.out.2.below (below_al _ _), psr_one HKV.out.1, below_tr H3.out.1 (below_al _ _), Nat.le_trans H3.out.1.size (below_al W3 _).size⟩
          clear hbd
          generalize W3.alloc (.cells (Pr.mk KT VT).cells.toArray 49) = W6 at HO6 ⊢
          generalize W3.heap.size = g5 at HO6 ⊢
          go_wp2_with (with_reducible change wpList _ _ _ ({ dst := some 72, op := _, type := _, pos := _, after := _, guard := _ } :: _) _ _; refine Hid.out ?_)
          show wpList _ _ _ _ _ _
          refine wpList_app rfl (.tmp 67) (.tmp 71) rfl HO6.out.1 HO6.out.2.1 (by rw [List.length_map]; exact HKV.out.2) HO6.out.2.2.2 rfl rfl ?_
          intro v7 W7 ho7 hg7 hp7
          have H7 : Hid (Below w.heap.size w W7) := below_own HO6.out.2.2.1 hg7.out (fun j hj => (HO6.out.1.lt hj).1)
          have HO7 : Hid (OwP W7 w.heap.size v7 ((o ++ [(pairF (L.drop p)).1]).map mkP)) := by rw [List.map_append]; show OwP _ _ _ (_ ++ [mkP (pairF (L.drop p)).1]); rw [HPP.out.1]; exact ho7.out
          obtain ⟨a7, c7, rfl⟩ : ∃ a c, v7 = .slice a (m + 1) c := by obtain ⟨a, c, h⟩ := sl_of ho7.out; exact ⟨a, c, by rw [h, List.length_append, List.length_map, HM.out]; rfl⟩
          clear ho7 hg7 hp7 HO6
          by_cases hend : en = n
          · subst hend
            obtain ⟨f1, f2⟩ := HI.out.last HPP.out.2.2.2.1 HPP.out.2.1 (by rw [HPP.out.2.2.2.2]; have := HPP.out.2.2.1; omega)
            have HF : Hid ((parF s).2.2 = 0 ∧ OwP W7 w.heap.size (.slice a7 (m + 1) c7) ((parF s).1.map mkP)) := ⟨by rw [HRF.out, f2], by rw [HRF.out, f1]; exact HO7.out⟩
            clear f1 f2
            go_wp2
            go_ret3
            exact ⟨.inl ⟨HF.out.1, _, rfl, HF.out.2⟩, H7.out⟩
          · have q9 : ((en : Int) == (n : Int)) = false := by rw [beq_eq_false_iff_ne]; omega
            have hnl : ¬ (L.drop p).length ≤ (pairF (L.drop p)).2.1 := by rw [HPP.out.2.2.2.2]; have := HPP.out.2.2.1; have := HPN.out; omega
            have hst := HI.out.step HPP.out.2.2.2.1 HPP.out.2.1 hnl HO7.out H7.out
            rw [HPP.out.2.2.1] at hst
            have HF : Hid (RI w L (.slice a7 (m + 1) c7) (en + 1) (o ++ [(pairF (L.drop p)).1]) W7 ∧ p ≤ en ∧ en < n) := ⟨hst, HPN.out.2, by omega⟩
            clear hst hnl hend
            go_wp2
            go_roundw
            case rel => exact ⟨en + 1, _, _, a7, m + 1, c7, by simp, rfl, rfl, by rw [List.length_append, HM.out]; rfl, HF.out.1⟩
            case measure => have := HF.out.2; simp only [intOf]; omega
        · have hrA2 : runA V = .tuple #[.string e0, iv ((upTo [] V).2.1 : Int), iv (upTo [] V).2.2] := by unfold runA; rw [if_neg her2]
          rw [hrA2] at C4
          have hpp : pairF (L.drop p) = (([], []), (tw 61 (tw 38 (L.drop p))).length + 1 + (upTo [] V).2.1, (upTo [] V).2.2) := piece_bad2 e1 e2 e3 (by rw [hKL]; exact her) her2
          obtain ⟨f1, f2⟩ := HI.out.bad ho64 (by rw [hpp]; exact her2)
          rw [hpp] at f1 f2
          have z2 := (upTo_le [] _ V (Nat.le_refl _)).1
          have z4 := hval.2.2.2
          obtain ⟨pv, hpv⟩ : ∃ k, (upTo [] V).2.1 = k := ⟨_, rfl⟩
          obtain ⟨er, herr⟩ : ∃ k, (upTo [] V).2.2 = k := ⟨_, rfl⟩
          rw [hpv] at f1 C4 z2
          rw [herr] at f2 C4 her2
          have q10 : (pv : Int) ≤ 16384 := by have := HL.out.2.2.1; omega
          have her3 : ((er : Int) != 0) = true := by simpa using her2
          have HF : Hid ((parF s).2.1 = ep + 1 + pv ∧ (parF s).2.2 = er ∧ er ≠ 0 ∧ Below w.heap.size w wr) := ⟨by rw [HRF.out, f1]; simp only; omega, by rw [HRF.out, f2], her2, HI.out.bel⟩
          generalize (⟨(upTo [] KL).1.toArray⟩ : BA) = KT at *
          clear f1 f2 hpp hm hm64 hle hen hep hdl l1 l2 hE hK hKL her hrA h64 ho64 e1 e2 e3 hval hV her2 hrA2 hlt hee z2 z4 hpv herr
          go_wp2_with fail
          refine (C1.out wr).mono ?_
          rintro e W ⟨rfl, rfl⟩
          go_wp2_with fail
          refine (C2.out wr).mono ?_
          rintro e W ⟨rfl, rfl⟩
          go_wp2_with fail
          refine (C3.out wr).mono ?_
          rintro e W2 ⟨rfl, hb2⟩
          have H2 : Hid (Below w.heap.size w W2) := below_tr HF.out.2.2.2 hb2
          clear hb2
          go_wp2_with fail
          refine (C4.out W2).mono ?_
          rintro e W3 ⟨rfl, hb3⟩
          have H3 : Hid (Below w.heap.size w W3) := below_tr H2.out hb3
          clear hb3
          go_wp2
          go_ret3
          refine ⟨.inr ⟨by rw [HF.out.2.1]; exact HF.out.2.2.1, by rw [HF.out.1, HF.out.2.1]; rfl⟩, H3.out⟩
    · have hrA : runA KL = .tuple #[.string e0, iv ((upTo [] KL).2.1 : Int), iv (upTo [] KL).2.2] := by unfold runA; rw [if_neg her]
      rw [hrA] at C3
      have hpp : pairF (L.drop p) = (([], []), (upTo [] KL).2.1, (upTo [] KL).2.2) := by rw [piece_bad (by rw [hKL]; exact her), hKL]
      obtain ⟨f1, f2⟩ := HI.out.bad ho64 (by rw [hpp]; exact her)
      rw [hpp] at f1 f2
      have z2 := (upTo_le [] _ KL (Nat.le_refl _)).1
      have z3 : KL.length ≤ n := by rw [← hKL]; omega
      obtain ⟨pv, hpv⟩ : ∃ k, (upTo [] KL).2.1 = k := ⟨_, rfl⟩
      obtain ⟨er, herr⟩ : ∃ k, (upTo [] KL).2.2 = k := ⟨_, rfl⟩
      rw [hpv] at f1 C3 z2
      rw [herr] at f2 C3 her
      have q10 : (pv : Int) ≤ 16384 := by have := HL.out.2.2.1; omega
      have her3 : ((er : Int) != 0) = true := by simpa using her
      have HF : Hid ((parF s).2.1 = p + pv ∧ (parF s).2.2 = er ∧ er ≠ 0 ∧ Below w.heap.size w wr) := ⟨by rw [HRF.out, f1], by rw [HRF.out, f2], her, HI.out.bel⟩
      clear f1 f2 hpp hm hm64 hle hen hep hdl l1 l2 hE hK hKL her hrA h64 ho64 z2 z3 hpv herr
      go_wp2_with fail
      refine (C1.out wr).mono ?_
      rintro e W ⟨rfl, rfl⟩
      go_wp2_with fail
      refine (C2.out wr).mono ?_
      rintro e W ⟨rfl, rfl⟩
      go_wp2_with fail
      refine (C3.out wr).mono ?_
      rintro e W2 ⟨rfl, hb2⟩
      have H2 : Hid (Below w.heap.size w W2) := below_tr HF.out.2.2.2 hb2
      clear hb2
      go_wp2
      go_ret3
      refine ⟨.inr ⟨by rw [HF.out.2.1]; exact HF.out.2.2.1, by rw [HF.out.1, HF.out.2.1]; rfl⟩, H2.out⟩
#print axioms rparse_is
end Go.Proofs.YtlbcpbibcfolkaaDoor.Oct
