/-
  Layer 17 (acl): the reference's Filter; AclFilters.
-/
import Derived.Test.YtngkajeghmogmaaReg8
namespace Go.Proofs.Ytngkajeghmogmaa.Oct
open Go.RowKit Go.Shelf

set_option maxRecDepth 100000 in
set_option maxHeartbeats 2000000 in
theorem refFilter_is (l : List Ru) (a : Option Addr) (n cp : Nat) (s : Sj) (ch : BA) (ps : List BA) (pa : Option Addr) (pn pc : Nat) (right : Int) (w : World) (hl : RuS w a n l) (hn : n ≤ 2199023255551) (hs : s.at w) (hu : s.user.size ≤ 140737488355328) (ht : ∀ t ∈ s.teams, t.size ≤ 140737488355328) (hps : Strs w pa pn ps) (hpn : pn ≤ 1000000) (hsz : ∀ p ∈ ps, p.size ≤ 140737488355328) :
    Calls Try.prog 21 #[.slice a n cp, sv s, .string ch, .slice pa pn pc, iv right] w (PickS w ps fun p => decB l s ch p right) := by
  obtain ⟨g, hg⟩ : ∃ g, w.heap.size = g := ⟨_, rfl⟩
  obtain ⟨W1, hW1⟩ : ∃ W1, w.alloc (.cells #[.string s.user, .slice s.ta s.tn s.tc, iv s.role] 25) = W1 := ⟨_, rfl⟩
  have K1 : Hid (Kp w g 25 [.string s.user, .slice s.ta s.tn s.tc, iv s.role] W1) := by rw [← hW1, ← hg]; exact Kp.new w #[.string s.user, .slice s.ta s.tn s.tc, iv s.role] 25
  have HL1 : Hid (RuS W1 a n l ∧ s.at W1 ∧ Strs W1 pa pn ps ∧ n ≤ 2199023255551) := ⟨hl.below K1.out.1, hs.below K1.out.1, hps.below K1.out.1, hn⟩
  have HSZ : Hid ((∀ p ∈ ps, p.size ≤ 140737488355328) ∧ s.user.size ≤ 140737488355328 ∧ ∀ t ∈ s.teams, t.size ≤ 140737488355328) := ⟨hsz, hu, ht⟩
  have qn : (pn : Int) ≤ 1000000 := by omega
  have HPN : Hid (pn ≤ 1000000) := hpn
  obtain ⟨P, hP⟩ : ∃ P : BA → Bool, ∀ p, decB l s ch p right = P p := ⟨fun p => decB l s ch p right, fun _ => rfl⟩
  rw [show (fun p => decB l s ch p right) = P from funext hP]
  have HPP : Hid (∀ p, decB l s ch p right = P p) := hP
  clear hl hn hs hu ht hps hpn hsz hP
  go_enter Try.func21, Try.ntmps21
  go_wp2
  clear hW1 hg
  go_loopw [12, 11] (fun u v wr => ∃ i : Nat, u = iv i ∧ Hid (i ≤ pn ∧ Below W1.heap.size W1 wr ∧ Bs 9 1 W1.heap.size wr v ((ps.take i).filter P).length (fs ((ps.take i).filter P)))) (fun u _ _ => pn - (intOf u).toNat)
  case atStart => exact ⟨0, rfl, Nat.zero_le _, Below.refl _ _, .inr ⟨by simp [fs], rfl, .inl ⟨rfl, rfl⟩⟩⟩
  case round =>
    obtain ⟨i, rfl, HI⟩ := hrel
    by_cases hi : i = pn
    · have q1 : (pn : Int) ≤ (i : Int) := by omega
      obtain ⟨a', c', hv, _, hrd, _⟩ := HI.out.2.2.read
      have HT : Hid (ps.take i = ps) := by show _ = _; rw [hi, ← HL1.out.2.2.1.1, List.take_length]
      rw [HT.out] at hv hrd
      have HRD : Hid (Strs wr a' (ps.filter P).length (ps.filter P)) := Strs.of hrd
      subst hv
      have HB : Hid (Below w.heap.size w wr) := K1.out.1.trans (HI.out.2.1.mono K1.out.1.size)
      clear hrd HI hi
      go_wp2
      go_ret
      exact ⟨a', _, c', rfl, HRD.out, HB.out⟩
    · have q1 : (i : Int) < (pn : Int) := by have := HI.out.1; omega
      have HI2 : Hid (i < pn) := by show _ < _; have := HI.out.1; omega
      obtain ⟨b, off, ha, hbl, hc⟩ := HL1.out.2.2.1.2 (by have := HI2.out; omega)
      subst ha
      obtain ⟨x, hx⟩ : ∃ x, ps[i]? = some x := ⟨_, List.getElem?_eq_getElem (by rw [HL1.out.2.2.1.1]; exact HI2.out)⟩
      have HX : Hid (wr.cell? ⟨b, off + i, none⟩ = some (.string x) ∧ b < wr.heap.size) := ⟨(HI.out.2.1.cell (p := ⟨b, off + i, none⟩) hbl).trans (hc i x hx), Nat.lt_of_lt_of_le hbl HI.out.2.1.size⟩
      have HTK : Hid (((ps.take (i + 1)).filter P) = (ps.take i).filter P ++ if P x then [x] else []) := by
        show _ = _
        rw [List.take_add_one, hx, List.filter_append]
        simp only [Option.toList_some, List.filter_cons, List.filter_nil]
      have HLN : Hid (((ps.take i).filter P).length + 1 ≤ 2199023255552) := by
        show _ ≤ _
        have h1 := List.length_filter_le P (ps.take i)
        have h2 : (ps.take i).length ≤ ps.length := by simp; omega
        have := HL1.out.2.2.1.1
        have := HPN.out
        omega
      have HXM : Hid (x ∈ ps) := List.mem_of_getElem? hx
      clear hi hc hx hbl
      obtain ⟨m, hm⟩ : ∃ m, P x = m := ⟨_, rfl⟩
      go_wp2_with fail
      refine rfil_reg (l := l) (s := s) (x := x) (m := m) HX (K1.out.2.below HI.out.2.1 K1.out.2.lt) ⟨HL1.out.1.below HI.out.2.1, HL1.out.2.2.2⟩ ⟨HL1.out.2.1.below HI.out.2.1, HSZ.out.1 x HXM.out, HSZ.out.2⟩ q1 ((HPP.out x).trans hm) ?_
      intro w1 hb1
      have HB1 : Hid (Below W1.heap.size W1 w1) := HI.out.2.1.trans (hb1.mono HI.out.2.1.size)
      have HBS : Hid (Bs 9 1 W1.heap.size w1 u11 ((ps.take i).filter P).length (fs ((ps.take i).filter P))) := bs_below HI.out.2.2 hb1
      have c0 : w1.cell? ⟨b, off + i, none⟩ = some (.string x) := (hb1.cell (p := ⟨b, off + i, none⟩) HX.out.2).trans HX.out.1
      clear hb1
      cases m
      · have HN : Hid ((ps.take (i + 1)).filter P = (ps.take i).filter P) := by show _ = _; rw [HTK.out, hm]; simp
        clear hm
        go_wp2_with fail
        go_roundw
        case rel => exact ⟨i + 1, by simp, HI2.out, HB1.out, by rw [HN.out]; exact HBS.out⟩
        case measure => have := HI2.out; simp [intOf]; omega
      · have HN : Hid ((ps.take (i + 1)).filter P = (ps.take i).filter P ++ [x]) := by show _ = _; rw [HTK.out, hm]; rfl
        obtain ⟨i0, hi0, hz0, hz1, hz2⟩ := info9s
        have HI0 : Hid (Try.prog.info? 9 = some i0 ∧ i0.zero = some (.string ⟨#[]⟩) ∧ i0.size = 1 ∧ i0.bytes ≤ 64) := ⟨hi0, hz0, hz1, hz2⟩
        clear hm hi0 hz0 hz1 hz2
        go_wp2_with (with_reducible change wpList _ _ _ ({ dst := some 34, op := _, type := _, pos := _, after := _, guard := _ } :: _) _ _; refine Hid.out ?_)
        show wpList _ _ _ _ _ _
        refine wpList_append_bs rfl (.tmp 28) (.tmp 33) 23 rfl _ 9 i0 _ 1 W1.heap.size Try.underlying23 HI0.out.1 HI0.out.2.1 HI0.out.2.2.1 HI0.out.2.2.2 rfl (by omega) u11 _ (fs ((ps.take i).filter P)) (bs_below HBS.out (below_al w1 _)) (some ⟨w1.heap.size, 0, none⟩) 1 1 (fs [x]) rfl rfl (rd_str w1 x) (by have := HB1.out.size; simp; omega) HLN.out ?_
        intro v5 w5 hb5 hw5
        have HR5 : Hid (Below W1.heap.size W1 w5 ∧ Bs 9 1 W1.heap.size w5 v5 ((ps.take (i + 1)).filter P).length (fs ((ps.take (i + 1)).filter P))) := by
          refine ⟨(HB1.out.trans ((below_al w1 _).mono HB1.out.size)).trans hw5.out, ?_⟩
          rw [HN.out, List.length_append]
          have := hb5.out
          simpa [fs] using this
        clear hb5 hw5 c0
        go_wp2_with fail
        go_roundw
        case rel => exact ⟨i + 1, by simp, HI2.out, HR5.out⟩
        case measure => have := HI2.out; simp [intOf]; omega
#print axioms refFilter_is
end Go.Proofs.Ytngkajeghmogmaa.Oct
