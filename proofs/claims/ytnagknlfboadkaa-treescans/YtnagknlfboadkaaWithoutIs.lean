/-
  Layer 7 (tree): 'without' of a key that stands in a node with kids; of any tree.
-/
import Derived.Test.YtnagknlfboadkaaWithout
namespace Go.Proofs.Ytnagknlfboadkaa.Oct
open Go.RowKit

set_option maxRecDepth 100000 in
set_option maxHeartbeats 2000000 in
theorem without_is (d : Nat) (IH : RemC d) (w : World) (nd n cap n' cap' : Nat) (a a' : Option Addr) (ps : List Pr) (ts : List (T d)) (bs : List Nat) (key : ByteArray) (k kb : Nat) (kt : T d) (h : Nd w nd a n cap ps (.slice a' n' cap')) (hm : Mono ps key) (hn : 1 ≤ n ∧ n ≤ 7) (hc : Cap a n cap) (ha : AtP ps key k) (hi : isP ps key k = true)
    (hk : RdK w a' n' bs) (hck : Cap a' n' cap') (hks : Kids w d ts bs) (hok : KidsOk d ts) (hl : ts.length = ps.length + 1) (hkt : ts[k]? = some kt) (hkb : bs[k]? = some kb) (hgd : Good d kt) (h3 : 3 ≤ (prs d kt).length) (hkn : k < n) :
    Calls Try.prog 31 #[.pointer (some ⟨nd, 0, none⟩), .string key] w fun e w' => ∃ (nd2 : Nat) (t2 : T (d + 1)) (A : List Pr) (up : Pr), e = .returned (.pointer (some ⟨nd2, 0, none⟩)) ∧ Hid (Lies w' (d + 1) t2 nd2) ∧ Hid (tl d kt = A ++ [up]) ∧ Hid (tl (d + 1) t2 = upp ((ts.map (tl d)).take k) (ps.take k) ++ A ++ dn (up :: ps.drop (k + 1)) ((ts.map (tl d)).drop (k + 1)) ∧ WF (d + 1) t2 ∧ t2.1.length ≤ ps.length ∧ ps.length ≤ t2.1.length + 1) ∧ Hid (Below w.heap.size w w') := by
  have HD : Hid (Nd w nd a n cap ps (.slice a' n' cap')) := h
  have HM : Hid (Mono ps key ∧ AtP ps key k ∧ (1 ≤ n ∧ n ≤ 7) ∧ Cap a n cap ∧ k < n) := ⟨hm, ha, hn, hc, hkn⟩
  have HI : Hid (isP ps key k = true) := hi
  have HQ : Hid (RdK w a' n' bs ∧ Cap a' n' cap' ∧ Kids w d ts bs ∧ KidsOk d ts ∧ ts.length = ps.length + 1) := ⟨hk, hck, hks, hok, hl⟩
  have HT : Hid (ts[k]? = some kt ∧ bs[k]? = some kb ∧ Good d kt ∧ 3 ≤ (prs d kt).length ∧ Lies w d kt kb) := ⟨hkt, hkb, hgd, h3, hks.2 k kt kb hkt hkb⟩
  have HIH : Hid (RemC d) := IH
  have hnn : n' = n + 1 := by rw [← hk.1, hks.1, hl, h.rd.1]
  have HNN : Hid (n' = n + 1) := hnn
  have hkl : k < n' := by omega
  obtain ⟨gk, offk, rfl, hgk, hck2⟩ := hk.2 (by omega)
  have HKC : Hid (w.cell? ⟨gk, offk + k, none⟩ = some (.pointer (some ⟨kb, 0, none⟩)) ∧ gk < w.heap.size) := ⟨hck2 k kb hkb, hgk.lt⟩
  have HKL : Hid (k < n') := hkl
  have HLN : Hid (nd < w.heap.size) := h.blk.lt
  have q7 : (k : Int) < (n' : Int) := by omega
  have q8 : (k : Int) + 1 ≤ 7 := by omega
  have HZ : Hid (((n' : Int) == 0) = false) := by show _ = _; simp; omega
  clear h hm hn hc ha hi hk hck hks hok hl hkt hkb hgd h3 hgk hck2 hnn hkl IH hkn
  go_enter Try.func31, Try.ntmps31
  go_wp2_with fail
  refine (place_is w nd a n cap ps _ key HD.out HM.out.1 (by have := HM.out; omega)).mono ?_
  rintro e w1 ⟨k', rfl, HA, HB1⟩
  have hk' : k' = k := HA.out.uniq HM.out.2.1
  subst hk'
  rw [HI.out]
  have HD1 : Hid (Nd w1 nd a n cap ps (.slice (some ⟨gk, offk, none⟩) n' cap')) := HD.out.below HB1.out (Nat.le_refl _)
  have c0 := HD1.out.blk.cell (i := 0) rfl
  have c1 := HD1.out.blk.cell (i := 1) rfl
  have ck : w1.cell? ⟨gk, offk + k', none⟩ = some (.pointer (some ⟨kb, 0, none⟩)) := (HB1.out.cell (p := ⟨gk, _, none⟩) HKC.out.2).trans HKC.out.1
  go_wp2_with (first
    | (go_at_call 39; refine (isLeaf_any w1 nd _ n' cap' false HZ.out c1).mono ?_; rintro e w2 ⟨rfl, rfl⟩)
    | (go_at_call 41; refine (last_is w1 d kt kb (HT.out.2.2.2.2.below HB1.out (Nat.le_refl _)) HT.out.2.2.1 (by have := HT.out.2.2.2.1; omega)).mono ?_; rintro e w2 ⟨up, rfl, HU, HB2⟩))
  obtain ⟨A, hA⟩ := HU.out
  have HAA : Hid (tl d kt = A ++ [up]) := hA
  clear hA HU
  obtain ⟨W, hW⟩ : ∃ W, W = w2.alloc (Obj.cells #[Value.string up.1, Value.string up.2] 40) := ⟨_, rfl⟩
  obtain ⟨tb, htb⟩ : ∃ tb, w2.heap.size = tb := ⟨_, rfl⟩
  have HBW : Hid (Below w.heap.size w W) := by rw [hW]; have k := HB1.out.trans (HB2.out.mono HB1.out.size); exact k.alloc k.size _
  have HTB : Hid (Blk W tb 40 [.string up.1, .string up.2]) := by rw [hW, ← htb]; exact Blk.new _ _ _
  rw [← hW, htb]
  clear hW htb c0 c1 ck
  have HND : Hid (Nd W nd a n cap ps (.slice (some ⟨gk, offk, none⟩) n' cap')) := HD.out.below HBW.out (Nat.le_refl _)
  have c0 := HND.out.blk.cell (i := 0) rfl
  have c1 := HND.out.blk.cell (i := 1) rfl
  have ck : W.cell? ⟨gk, offk + k', none⟩ = some (.pointer (some ⟨kb, 0, none⟩)) := (HBW.out.cell (p := ⟨gk, _, none⟩) HKC.out.2).trans HKC.out.1
  have t0 := HTB.out.cell (i := 0) rfl
  have t1 := HTB.out.cell (i := 1) rfl
  have HKEEP : Hid (∀ W', Below W.heap.size W W' → (fun w' => w'.cell? ⟨nd, 0, none⟩ = some (.slice a n cap) ∧ w'.cell? ⟨nd, 1, none⟩ = some (.slice (some ⟨gk, offk, none⟩) n' cap') ∧ w'.cell? ⟨tb, 0, none⟩ = some (.string up.1) ∧ w'.cell? ⟨tb, 1, none⟩ = some (.string up.2) ∧ w'.cell? ⟨gk, offk + k', none⟩ = some (.pointer (some ⟨kb, 0, none⟩))) W') := fun W' hb => ⟨(hb.cell (p := ⟨nd, 0, none⟩) HND.out.blk.lt).trans c0, (hb.cell (p := ⟨nd, 1, none⟩) HND.out.blk.lt).trans c1, (hb.cell (p := ⟨tb, 0, none⟩) HTB.out.lt).trans t0, (hb.cell (p := ⟨tb, 1, none⟩) HTB.out.lt).trans t1, (hb.cell (p := ⟨gk, _, none⟩) (Nat.lt_of_lt_of_le HKC.out.2 HBW.out.size)).trans ck⟩
  have BP : Hid (Below W.heap.size W (W.alloc (Obj.cells #[Value.string up.1, Value.string up.2] 40)).drew) := ((Below.refl _ W).alloc (Nat.le_refl _) _).drew
  have HJ : Hid (IntKind.i64.wrap ((k' : Int) + 1) = ((k' + 1 : Nat) : Int)) := by show _ = _; rw [IntKind.wrap_i64]; omega
  have H40 : Hid (Calls Try.prog 40 #[.slice a n cap, .int .i64 (k' : Int), .int .i64 (IntKind.i64.wrap ((k' : Int) + 1)), .slice (some ⟨W.heap.size, 0, none⟩) 1 1] (W.alloc (Obj.cells #[Value.string up.1, Value.string up.2] 40)).drew (SpP (W.alloc (Obj.cells #[Value.string up.1, Value.string up.2] 40)).drew k' (k' + 1) n 1 ps [up])) := spP (W.alloc (Obj.cells #[Value.string up.1, Value.string up.2] 40)).drew a n cap k' (k' + 1) _ _ rfl HJ.out ps (some ⟨W.heap.size, 0, none⟩) 1 1 [up] (HND.out.below BP.out (Nat.le_refl _)).rd HM.out.2.2.2.1 (by omega) (by have := HM.out; omega) (rdp_one (Blk.new W #[.string up.1, .string up.2] 40).drew) (by have := HM.out; omega)
  go_wp2_with fail
  go_region_held_law (fun w' => w'.cell? ⟨nd, 0, none⟩ = some (.slice a n cap) ∧ w'.cell? ⟨nd, 1, none⟩ = some (.slice (some ⟨gk, offk, none⟩) n' cap') ∧ w'.cell? ⟨tb, 0, none⟩ = some (.string up.1) ∧ w'.cell? ⟨tb, 1, none⟩ = some (.string up.2) ∧ w'.cell? ⟨gk, offk + k', none⟩ = some (.pointer (some ⟨kb, 0, none⟩)))
    (first | with_reducible exact HKEEP.out _ (Below.refl _ W).drew | with_reducible exact HKEEP.out _ BP.out | with_reducible exact HKEEP.out _ HB5.out | with_reducible exact HKEEP.out _ (HB5.out.alloc HB5.out.size _))
    (first
    | (go_at_call 40; (with_reducible refine Calls.mono H40.out ?_); rintro e w5 ⟨a5, n5, cap5, R5, rfl, HE5, HR5, hB5⟩; have HB5 : Hid (Below W.heap.size W w5) := BP.out.trans (hB5.out.mono BP.out.size); clear hB5))
  obtain ⟨V, hV⟩ : ∃ V, V = w5.alloc (Obj.cells #[Value.slice a5 n5 cap5, Value.slice (some { block := gk, off := offk }) n' cap'] 67) := ⟨_, rfl⟩
  obtain ⟨rb, hrb⟩ : ∃ rb, w5.heap.size = rb := ⟨_, rfl⟩
  have hNV := (Below.refl w5.heap.size w5).alloc (Nat.le_refl _) (Obj.cells #[Value.slice a5 n5 cap5, Value.slice (some { block := gk, off := offk }) n' cap'] 67)
  have HBV : Hid (Below W.heap.size W V) := by rw [hV]; exact HB5.out.alloc HB5.out.size _
  have HNR : Hid (Nd V rb a5 n5 cap5 R5 (.slice (some ⟨gk, offk, none⟩) n' cap')) := by
    rw [hV, ← hrb]
    exact ⟨Blk.new _ _ _, HR5.out.1.below hNV (Nat.le_refl _)⟩
  have HWV : Hid (Below w.heap.size w V) := HBW.out.trans (HBV.out.mono HBW.out.size)
  have HN5 : Hid (R5.length = n5 ∧ n5 = n ∧ R5.length = ps.length) := by
    have e1 := HR5.out.1.1
    have e2 := HE5.out.2
    have e3 := HD.out.rd.1
    have e4 := HM.out
    exact ⟨e1, by omega, by omega⟩
  have HIN : Hid (eqs up.1 (tl d kt) ≠ []) := by
    show _ ≠ _
    rw [HAA.out]
    simp [eqs]
  clear hNV c0 c1 ck t0 t1 H40
  go_wp2_with fail
  rw [← hV, hrb]
  clear hV hrb
  have HKL5 : Hid (k' < ts.length) := (List.getElem?_eq_some_iff.1 HT.out.1).1
  go_region_held_law (fun w' => w'.cell? ⟨nd, 0, none⟩ = some (.slice a n cap) ∧ w'.cell? ⟨nd, 1, none⟩ = some (.slice (some ⟨gk, offk, none⟩) n' cap') ∧ w'.cell? ⟨tb, 0, none⟩ = some (.string up.1) ∧ w'.cell? ⟨tb, 1, none⟩ = some (.string up.2) ∧ w'.cell? ⟨gk, offk + k', none⟩ = some (.pointer (some ⟨kb, 0, none⟩)))
    (first | with_reducible exact HKEEP.out _ HBV.out.drew | with_reducible exact HKEEP.out _ HB6.out | with_reducible exact HKEEP.out _ HB7.out | with_reducible exact HKEEP.out _ HB8.out)
    (first
    | (go_at_call 31; refine (HIH.out V.drew kt kb up.1 (HT.out.2.2.2.2.below HWV.out.drew (Nat.le_refl _)) HT.out.2.2.1 (by have := HT.out.2.2.2.1; omega) HIN.out).mono ?_; rintro e w6 ⟨b6, t6, rfl, HL6, HO6, hB6⟩; have HV6 : Hid (Below V.heap.size V w6) := ⟨hB6.out.os, hB6.out.tape, hB6.out.output, hB6.out.size, hB6.out.block⟩; have HB6 : Hid (Below W.heap.size W w6) := HBV.out.trans (HV6.out.mono HBV.out.size); have HW6 : Hid (Below w.heap.size w w6) := HWV.out.trans (HV6.out.mono HWV.out.size); clear hB6)
    | (go_at_call 42; refine (withKid_is w6 rb n5 cap5 n' cap' b6 k' a5 (some ⟨gk, offk, none⟩) R5 bs (HNR.out.below HV6.out (Nat.le_refl _)) (HQ.out.1.below HW6.out (Nat.le_refl _)) HQ.out.2.1 HKL.out (by have := HNN.out; have := HM.out; omega)).mono ?_; rintro e w7 ⟨nd7, a7, n7, cap7, bs7, rfl, HE7, HN7, HB67⟩; have HB7 : Hid (Below W.heap.size W w7) := HB6.out.trans (HB67.out.mono HB6.out.size))
    | (go_at_call 43; refine (mended_is d w7 nd7 n5 cap5 n7 cap7 k' a5 a7 R5 (ts.take k' ++ [t6] ++ ts.drop (k' + 1)) bs7 HN7.out.1 HR5.out.2 HN7.out.2.1 HN7.out.2.2 (kids_set ((HQ.out.2.2.1.below HW6.out).below HB67.out) (HL6.out.below HB67.out (Nat.le_refl _)) HE7.out) (by rw [set_len HKL5.out, HQ.out.2.2.2.2, HN5.out.2.2]) (by have := HN5.out; have := HM.out; omega) t6 (set_at HKL5.out) ⟨HO6.out.2.1, by have := HO6.out.2.2; have := HT.out.2.2.2.1; omega, by have := HO6.out.2.2.1; have := HT.out.2.2.1.most; omega⟩ (fun j x hj hne => HQ.out.2.2.2.1 x (set_oth HKL5.out hj hne))).mono ?_; rintro e w8 ⟨nd8, t8, rfl, HL8, HO8, HB78⟩; have HB8 : Hid (Below W.heap.size W w8) := HB7.out.trans (HB78.out.mono HB7.out.size)))
  go_wp2
  go_ret
  refine ⟨nd8, t8, A, up, rfl, HL8, HAA, ⟨?_, HO8.out.2.1, ?_, ?_⟩, HBW.out.trans (HB8.out.mono HBW.out.size)⟩
  · rw [HO8.out.1, List.map_append, List.map_append, List.map_take, List.map_drop]
    rw [show List.map (tl d) [t6] = [tl d t6] from rfl]
    have hpl := HD.out.rd.1
    have hkn := HM.out.2.2.2.2
    rw [inter_set (by rw [List.length_map, HQ.out.2.2.2.2, HN5.out.2.2]) (kid_map HT.out.1)]
    have e1 : tl d t6 = A := by
      rw [HO6.out.1, HAA.out]
      have hr := HT.out.2.2.1.ris
      rw [HAA.out] at hr
      have := remP_one (x := up) (B := []) hr.split.1 (by intro x hx; cases hx)
      rw [List.append_nil] at this
      exact this
    have q3 : R5.take k' = ps.take k' := by
      rw [HE5.out.1, List.append_assoc, List.take_append_of_le_length (by simp; omega), List.take_take, Nat.min_self]
    have q4 : R5.drop k' = up :: ps.drop (k' + 1) := by
      rw [HE5.out.1, List.append_assoc, List.drop_append, List.drop_eq_nil_of_le (by simp; omega)]
      simp [Nat.min_eq_left (show k' ≤ ps.length by omega)]
    rw [e1, q3, q4]
  · have := HO8.out.2.2.1; have := HN5.out; omega
  · have := HO8.out.2.2.2; have := HN5.out; omega
#print axioms without_is

theorem rem_all : ∀ d, RemC d
  | 0 => by
    intro w t0 nd key hL hG h1 hne
    obtain ⟨t, ht0⟩ : ∃ t : List Pr, t = t0 := ⟨t0, rfl⟩
    subst ht0
    obtain ⟨a, n, cap, hN, hC⟩ := hL
    have hr : Ris t := hG.ris
    have hm := ris_mono hr key
    obtain ⟨k, ha⟩ := find_at t key hm
    have hn : n ≤ 7 := by rw [← hN.rd.1]; exact hG.most
    cases hi : isP t key k with
    | false => exact absurd (eqs_no hr ha hi) hne
    | true =>
      have hlt : k < t.length := by
        cases hx : t[k]? with
        | some y => exact (List.getElem?_eq_some_iff.1 hx).1
        | none => simp only [isP, hx] at hi; cases hi
      refine (without_leaf w nd n cap a t key k hN hm hn hC ha (by rw [← hN.rd.1]; exact hlt)).mono ?_
      rintro e w' ⟨nd2, ps2, rfl, h2, h3, h4⟩
      have hl : ps2.length = t.length - 1 := by rw [h3.out]; simp; omega
      refine ⟨nd2, ps2, rfl, h2, ⟨?_, trivial, ?_, ?_⟩, h4⟩
      · show ps2 = remP t key
        rw [h3.out, leaf_rem hr ha hi]
      · show ps2.length ≤ t.length; omega
      · show t.length ≤ ps2.length + 1; omega
  | d + 1 => by
    intro w t nd key hL hG h1 hne
    obtain ⟨a, n, cap, a', n', cap', bs, hN, hC, hK, hCK, hbl, hkk⟩ := hL
    have hr : Ris (inter (t.2.map (tl d)) t.1) := hG.ris
    have hrp : Ris t.1 := ris_own hG.ris hG.wf.1
    have hm := ris_mono hrp key
    obtain ⟨k, ha⟩ := find_at t.1 key hm
    have hn : 1 ≤ n ∧ n ≤ 7 := by rw [← hN.rd.1]; exact ⟨h1, hG.most⟩
    have hks : Kids w d t.2 bs := ⟨hbl, hkk⟩
    have hkl : k < t.2.length := by have := ha.1; have := hG.wf.1; omega
    have hkt : t.2[k]? = some t.2[k] := List.getElem?_eq_getElem hkl
    have hkb : bs[k]? = some bs[k] := List.getElem?_eq_getElem (by rw [hbl]; exact hkl)
    have hgk := hG.kid hkt
    have hne' : eqs key (inter (t.2.map (tl d)) t.1) ≠ [] := hne
    cases hi : isP t.1 key k with
    | false =>
      obtain ⟨A, B, e, hA, hB, hLA, hGB, _⟩ := node_at hG.wf.1 hr hrp ha hkt hi
      refine (without_no d (rem_all d) w nd n cap n' cap' a a' t.1 t.2 bs key k bs[k] t.2[k] hN hm hn hC ha hi hK hCK hks hG.wf.2 hG.wf.1 hkt hkb hgk.1 hgk.2 (by rw [e, eqs_mid hLA hGB] at hne'; exact hne')).mono ?_
      rintro e' w' ⟨nd2, t2, rfl, h2, h3, h4⟩
      refine ⟨nd2, t2, rfl, h2, ⟨?_, h3.out.2⟩, h4⟩
      rw [h3.out.1]
      show _ = remP (inter (t.2.map (tl d)) t.1) key
      rw [e, remP_mid hLA hGB, hA, hB]
    | true =>
      obtain ⟨_, hat, _⟩ := ris_at hrp ha
      obtain ⟨y, hy, hyk, hsp, _⟩ := hat hi
      have hlt := (List.getElem?_eq_some_iff.1 hy).1
      refine (without_is d (rem_all d) w nd n cap n' cap' a a' t.1 t.2 bs key k bs[k] t.2[k] hN hm hn hC ha hi hK hCK hks hG.wf.2 hG.wf.1 hkt hkb hgk.1 hgk.2 (by rw [← hN.rd.1]; exact hlt)).mono ?_
      rintro e' w' ⟨nd2, t2, A, up, rfl, h2, h3, h4, h5⟩
      refine ⟨nd2, t2, rfl, h2, ⟨?_, h4.out.2⟩, h5⟩
      rw [h4.out.1]
      show _ = remP (inter (t.2.map (tl d)) t.1) key
      have e0 := inter_at k (tl d t.2[k]) (ls := t.2.map (tl d)) (ps := t.1) (by simpa using hG.wf.1) (kid_map hkt)
      have hdp : t.1.drop k = y :: t.1.drop (k + 1) := by
        rw [List.drop_eq_getElem_cons hlt]
        rw [List.getElem?_eq_getElem hlt] at hy
        rw [Option.some.inj hy]
      have hwl := hG.wf.1
      have hk1 : k + 1 < (t.2.map (tl d)).length := by simp; omega
      have e1 : (t.2.map (tl d)).drop (k + 1) = (t.2.map (tl d))[k + 1] :: (t.2.map (tl d)).drop (k + 1 + 1) := List.drop_eq_getElem_cons hk1
      rw [hdp, e1, h3.out] at e0
      rw [e1]
      generalize (t.2.map (tl d))[k + 1] = N at *
      generalize (t.2.map (tl d)).drop (k + 1 + 1) = M at *
      generalize upp ((t.2.map (tl d)).take k) (t.1.take k) = U at *
      have d1 : ∀ z : Pr, dn (z :: t.1.drop (k + 1)) (N :: M) = z :: (N ++ dn (t.1.drop (k + 1)) M) := fun z => by simp [dn]
      rw [d1] at e0 ⊢
      rw [e0] at hr ⊢
      have hs := hr.split
      rw [← hyk, remP_one hs.1 hs.2]
      simp
#print axioms rem_all
end Go.Proofs.Ytnagknlfboadkaa.Oct
