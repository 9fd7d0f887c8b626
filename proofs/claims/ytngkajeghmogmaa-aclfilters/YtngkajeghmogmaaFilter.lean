/-
  Layer 17 (acl): Filter; texts compared.
-/
import Derived.Test.YtngkajeghmogmaaDecide
namespace Go.Proofs.Ytngkajeghmogmaa.Oct
open Go.RowKit Go.Shelf

def fs (l : List BA) : List Value := l.map Value.string
theorem fs_one (l : List BA) : ∀ u ∈ fs l, u.oneCell' = true := by
  intro u hu
  obtain ⟨x, _, rfl⟩ := List.mem_map.1 hu
  rfl
theorem Strs.rd {w : World} {a : Option Addr} {n : Nat} {l : List BA} (h : Strs w a n l) : Rd w 9 1 a n (fs l) := by
  refine ⟨by simp [fs, h.1], fs_one l, fun hp => ?_⟩
  obtain ⟨b, off, e1, e2, e3⟩ := h.2 hp
  refine ⟨b, off, e1, e2, fun j u hu => ?_⟩
  simp only [fs, List.getElem?_map, Option.map_eq_some_iff] at hu
  obtain ⟨x, hx, rfl⟩ := hu
  exact e3 j x hx
theorem Strs.of {w : World} {a : Option Addr} {n : Nat} {l : List BA} (h : Rd w 9 1 a n (fs l)) : Strs w a n l := by
  have hl : l.length = n := by have := h.1; simpa [fs] using this
  refine ⟨hl, fun hp => ?_⟩
  obtain ⟨b, off, e1, e2, e3⟩ := h.2.2 hp
  exact ⟨b, off, e1, e2, fun i x hx => e3 i _ (by simp [fs, hx])⟩
theorem info9s : ∃ i, Try.prog.info? 9 = some i ∧ i.zero = some (.string ⟨#[]⟩) ∧ i.size = 1 ∧ i.bytes ≤ 64 := by
  have h : (Try.prog.info? 9).map (fun i => (i.zero, i.size, decide (i.bytes ≤ 64))) = some (some (.string ⟨#[]⟩), 1, true) := by kernel_rfl
  obtain ⟨i, hi, he⟩ := Option.map_eq_some_iff.1 h
  simp only [Prod.mk.injEq, decide_eq_true_eq] at he
  exact ⟨i, hi, he⟩
theorem rd_str (W : World) (x : BA) : Rd (W.alloc (.cells #[.string x] 9)) 9 1 (some ⟨W.heap.size, 0, none⟩) 1 (fs [x]) := by
  have hb : Blk (W.alloc (.cells #[.string x] 9)) W.heap.size 9 [.string x] := Blk.new W _ 9
  refine ⟨rfl, fs_one [x], fun _ => ⟨W.heap.size, 0, rfl, hb.lt, fun j u hj => ?_⟩⟩
  rw [Nat.zero_add]; exact hb.cell hj
/-- what pick answers of texts -/
def PickS (w : World) (l : List BA) (P : BA → Bool) (e : Ending) (w' : World) : Prop :=
  ∃ a' n' c', e = .returned (.slice a' n' c') ∧ Strs w' a' n' (l.filter P) ∧ Below w.heap.size w w'
set_option maxRecDepth 100000 in
set_option maxHeartbeats 1000000 in
theorem picks_is (P : BA → Bool) (k1 k2 k3 k4 : Value) (l : List BA) (a : Option Addr) (n cp : Nat) (w : World) (hl : Strs w a n l) (hn : n ≤ 1000000)
    (hf : ∀ x ∈ l, ∀ V, Below w.heap.size w V → Calls Try.prog 35 #[.string x, k1, k2, k3, k4] V fun e w' => e = .returned (.bool (P x)) ∧ Below V.heap.size V w') :
    Calls Try.prog 34 #[.slice a n cp, .func (.func 35) #[] #[k1, k2, k3, k4]] w (PickS w l P) := by
  have HL : Hid (Strs w a n l) := hl
  have HF : Hid (∀ x ∈ l, ∀ V, Below w.heap.size w V → Calls Try.prog 35 #[.string x, k1, k2, k3, k4] V fun e w' => e = .returned (.bool (P x)) ∧ Below V.heap.size V w') := hf
  have qn : (n : Int) ≤ 1000000 := by omega
  clear hl hf hn
  go_enter Try.func34, Try.ntmps34
  go_wp2
  go_loopw [10, 5] (fun u v wr => ∃ i : Nat, u = iv i ∧ Hid (i ≤ n ∧ Below w.heap.size w wr ∧ Bs 9 1 w.heap.size wr v ((l.take i).filter P).length (fs ((l.take i).filter P)))) (fun u _ _ => n - (intOf u).toNat)
  case atStart => exact ⟨0, rfl, Nat.zero_le _, Below.refl _ _, .inr ⟨by simp [fs], rfl, .inl ⟨rfl, rfl⟩⟩⟩
  case round =>
    obtain ⟨i, rfl, HI⟩ := hrel
    by_cases hi : i = n
    · have q1 : (n : Int) ≤ (i : Int) := by omega
      obtain ⟨a', c', hv, _, hrd, _⟩ := HI.out.2.2.read
      have HT : Hid (l.take i = l) := by show _ = _; rw [hi, ← HL.out.1, List.take_length]
      rw [HT.out] at hv hrd
      have HRD : Hid (Strs wr a' (l.filter P).length (l.filter P)) := Strs.of hrd
      subst hv
      have HB := HI.out.2.1
      clear hrd HI hi
      go_wp2
      go_ret
      exact ⟨a', _, c', rfl, HRD.out, HB⟩
    · have q1 : (i : Int) < (n : Int) := by have := HI.out.1; omega
      have HI2 : Hid (i < n) := by show _ < _; have := HI.out.1; omega
      obtain ⟨b, off, ha, hbl, hc⟩ := HL.out.2 (by have := HI2.out; omega)
      subst ha
      obtain ⟨x, hx⟩ : ∃ x, l[i]? = some x := ⟨_, List.getElem?_eq_getElem (by rw [HL.out.1]; exact HI2.out)⟩
      have c0 : wr.cell? ⟨b, off + i, none⟩ = some (.string x) := (HI.out.2.1.cell (p := ⟨b, off + i, none⟩) hbl).trans (hc i x hx)
      have HTK : Hid (((l.take (i + 1)).filter P) = (l.take i).filter P ++ if P x then [x] else []) := by
        show _ = _
        rw [List.take_add_one, hx, List.filter_append]
        simp only [Option.toList_some, List.filter_cons, List.filter_nil]
      have HLN : Hid (((l.take i).filter P).length + 1 ≤ 2199023255552) := by
        show _ ≤ _
        have h1 := List.length_filter_le P (l.take i)
        have h2 : (l.take i).length ≤ l.length := by simp; omega
        have := HL.out.1
        omega
      have HCALL := HF.out x (List.mem_of_getElem? hx) wr HI.out.2.1
      clear hi hc hx
      go_wp2_with fail
      refine HCALL.mono ?_
      rintro e w1 ⟨rfl, hb1⟩
      have HB1 : Hid (Below w.heap.size w w1) := HI.out.2.1.trans (hb1.mono HI.out.2.1.size)
      have HBS : Hid (Bs 9 1 w.heap.size w1 u5 ((l.take i).filter P).length (fs ((l.take i).filter P))) := bs_below HI.out.2.2 hb1
      clear HCALL hb1 c0
      cases hP : P x
      · have HN : Hid ((l.take (i + 1)).filter P = (l.take i).filter P) := by show _ = _; rw [HTK.out, hP]; simp
        clear hP
        go_wp2
        refine ⟨⟨i + 1, by simp, HI2.out, HB1.out, by rw [HN.out]; exact HBS.out⟩, ?_⟩
        have := HI2.out
        simp only [intOf]
        omega
      · have HN : Hid ((l.take (i + 1)).filter P = (l.take i).filter P ++ [x]) := by show _ = _; rw [HTK.out, hP]; rfl
        obtain ⟨i0, hi0, hz0, hz1, hz2⟩ := info9s
        have HI0 : Hid (Try.prog.info? 9 = some i0 ∧ i0.zero = some (.string ⟨#[]⟩) ∧ i0.size = 1 ∧ i0.bytes ≤ 64) := ⟨hi0, hz0, hz1, hz2⟩
        clear hP hi0 hz0 hz1 hz2
        go_wp2_with (with_reducible change wpList _ _ _ ({ dst := some 20, op := _, type := _, pos := _, after := _, guard := _ } :: _) _ _; refine Hid.out ?_)
        show wpList _ _ _ _ _ _
        refine wpList_append_bs rfl (.tmp 17) (.tmp 19) 23 rfl _ 9 i0 _ 1 w.heap.size Try.underlying23 HI0.out.1 HI0.out.2.1 HI0.out.2.2.1 HI0.out.2.2.2 rfl (by omega) u5 _ (fs ((l.take i).filter P)) (bs_below HBS.out (below_al w1 _)) (some ⟨w1.heap.size, 0, none⟩) 1 1 (fs [x]) rfl rfl (rd_str w1 x) (by have := HB1.out.size; simp; omega) HLN.out ?_
        intro v5 w5 hb5 hw5
        go_wp2
        refine ⟨⟨i + 1, by simp, HI2.out, (HB1.out.trans ((below_al w1 _).mono HB1.out.size)).trans hw5.out, ?_⟩, ?_⟩
        · rw [HN.out, List.length_append]
          have := hb5.out
          simpa [fs] using this
        · have := HI2.out
          simp only [intOf]
          omega
#print axioms picks_is
set_option maxRecDepth 100000 in
theorem clos35_is (l : List Ru) (a : Option Addr) (n cp : Nat) (s : Sj) (ch path : BA) (right : Int) (gl gs gc gr : Nat) (w : World) (hl : RuS w a n l) (hn : n ≤ 2199023255551) (hs : s.at w) (hp : path.size ≤ 140737488355328)
    (h0 : Blk w gl 22 [.slice a n cp]) (h1 : Blk w gs 25 [.string s.user, .slice s.ta s.tn s.tc, iv s.role]) (h2 : Blk w gc 9 [.string ch]) (h4 : Blk w gr 3 [iv right]) :
    Calls Try.prog 35 #[.string path, .pointer (some ⟨gl, 0, none⟩), .pointer (some ⟨gs, 0, none⟩), .pointer (some ⟨gc, 0, none⟩), .pointer (some ⟨gr, 0, none⟩)] w fun e w' => e = .returned (.bool (decB l s ch path right)) ∧ Below w.heap.size w w' := by
  have HM := decide_is l a n cp s ch path right w hl hn hs hp
  have c0 : w.cell? ⟨gs, 0, none⟩ = some (.string s.user) := h1.cell rfl
  have c1 : w.cell? ⟨gs, 1, none⟩ = some (.slice s.ta s.tn s.tc) := h1.cell rfl
  have c2 : w.cell? ⟨gs, 2, none⟩ = some (iv s.role) := h1.cell rfl
  have c3 : w.cell? ⟨gc, 0, none⟩ = some (.string ch) := h2.cell rfl
  have c4 : w.cell? ⟨gl, 0, none⟩ = some (.slice a n cp) := h0.cell rfl
  have c5 : w.cell? ⟨gr, 0, none⟩ = some (iv right) := h4.cell rfl
  generalize decB l s ch path right = m at HM ⊢
  clear h0 h1 h2 h4 hs hp hn hl
  go_enter Try.func35, Try.ntmps35
  go_wp2_with fail
  refine HM.mono ?_
  rintro e w1 ⟨rfl, hb1⟩
  have HB1 : Hid (Below w.heap.size w w1) := hb1
  clear HM hb1
  go_wp2
  go_ret
  exact ⟨rfl, HB1.out⟩
#print axioms clos35_is
set_option maxRecDepth 100000 in
theorem filter_is (l : List Ru) (a : Option Addr) (n cp : Nat) (s : Sj) (ch : BA) (ps : List BA) (pa : Option Addr) (pn pc : Nat) (right : Int) (w : World) (hl : RuS w a n l) (hn : n ≤ 2199023255551) (hs : s.at w) (hps : Strs w pa pn ps) (hpn : pn ≤ 1000000) (hsz : ∀ p ∈ ps, p.size ≤ 140737488355328) :
    Calls Try.prog 19 #[.slice a n cp, sv s, .string ch, .slice pa pn pc, iv right] w (PickS w ps fun p => decB l s ch p right) := by
  obtain ⟨g, hg⟩ : ∃ g, w.heap.size = g := ⟨_, rfl⟩
  obtain ⟨W1, hW1⟩ : ∃ W1, (((w.alloc (.cells #[.slice a n cp] 22)).alloc (.cells #[.string s.user, .slice s.ta s.tn s.tc, iv s.role] 25)).alloc (.cells #[.string ch] 9)).alloc (.cells #[iv right] 3) = W1 := ⟨_, rfl⟩
  obtain ⟨g1, hg1⟩ : ∃ g1, g + 1 = g1 := ⟨_, rfl⟩
  obtain ⟨g2, hg2⟩ : ∃ g2, g1 + 1 = g2 := ⟨_, rfl⟩
  obtain ⟨g3, hg3⟩ : ∃ g3, g2 + 1 = g3 := ⟨_, rfl⟩
  have K1 : Hid (Kp w g 22 [.slice a n cp] W1 ∧ Kp w g1 25 [.string s.user, .slice s.ta s.tn s.tc, iv s.role] W1 ∧ Kp w g2 9 [.string ch] W1 ∧ Kp w g3 3 [iv right] W1) := by
    rw [← hW1, ← hg3, ← hg2, ← hg1, ← hg]
    have h1 := Kp.new w #[.slice a n cp] 22
    have h2 := h1.step (below_al _ (.cells #[.string s.user, .slice s.ta s.tn s.tc, iv s.role] 25))
    have h3 := h2.step (below_al _ (.cells #[.string ch] 9))
    have h4 := h3.step (below_al _ (.cells #[iv right] 3))
    refine ⟨h4, ⟨h4.1, ?_⟩, ⟨h4.1, ?_⟩, h4.1, ?_⟩
    · have := ((Blk.new (w.alloc (.cells #[.slice a n cp] 22)) #[.string s.user, .slice s.ta s.tn s.tc, iv s.role] 25).alloc (.cells #[.string ch] 9)).alloc (.cells #[iv right] 3)
      rw [World.size_alloc] at this
      exact this
    · have := (Blk.new ((w.alloc (.cells #[.slice a n cp] 22)).alloc (.cells #[.string s.user, .slice s.ta s.tn s.tc, iv s.role] 25)) #[.string ch] 9).alloc (.cells #[iv right] 3)
      rw [World.size_alloc, World.size_alloc] at this
      exact this
    · have := Blk.new (((w.alloc (.cells #[.slice a n cp] 22)).alloc (.cells #[.string s.user, .slice s.ta s.tn s.tc, iv s.role] 25)).alloc (.cells #[.string ch] 9)) #[iv right] 3
      rw [World.size_alloc, World.size_alloc, World.size_alloc] at this
      exact this
  have HP := picks_is (fun p => decB l s ch p right) (.pointer (some ⟨g, 0, none⟩)) (.pointer (some ⟨g1, 0, none⟩)) (.pointer (some ⟨g2, 0, none⟩)) (.pointer (some ⟨g3, 0, none⟩)) ps pa pn pc W1 (hps.below K1.out.1.1) hpn (fun x hx V hV => clos35_is l a n cp s ch x right g g1 g2 g3 V ((hl.below K1.out.1.1).below hV) hn ((hs.below K1.out.1.1).below hV) (hsz x hx) (K1.out.1.2.below hV K1.out.1.2.lt) (K1.out.2.1.2.below hV K1.out.2.1.2.lt) (K1.out.2.2.1.2.below hV K1.out.2.2.1.2.lt) (K1.out.2.2.2.2.below hV K1.out.2.2.2.2.lt))
  clear hl hn hs hps hpn hsz
  go_enter Try.func19, Try.ntmps19
  go_wp2_with fail
  refine HP.mono ?_
  rintro e w1 ⟨a', n', c', rfl, h1, h2⟩
  have HR : Hid (Strs w1 a' n' (ps.filter fun p => decB l s ch p right) ∧ Below w.heap.size w w1) := ⟨h1, K1.out.1.1.trans (h2.mono K1.out.1.1.size)⟩
  clear HP h1 h2
  go_wp2
  go_ret
  exact ⟨a', n', c', rfl, HR.out⟩
#print axioms filter_is
set_option maxRecDepth 100000 in
theorem texts_same {w : World} {a b : Option Addr} {n c d : Nat} {l : List BA} (ha : Strs w a n l) (hb : Strs w b n l) (hn : n ≤ 1000000) :
    Calls Try.prog 20 #[.slice a n c, .slice b n d] w fun e w' => e = .returned (.bool true) ∧ Below w.heap.size w w' := by
  have H : Hid (Strs w a n l ∧ Strs w b n l) := ⟨ha, hb⟩
  have q0 : (n : Int) ≤ 1000000 := by omega
  clear ha hb hn
  go_enter Try.func20, Try.ntmps20
  go_wp2
  go_loopw [5] (fun u wr => ∃ i : Nat, u = .int .i64 (i : Int) ∧ Hid (i ≤ n ∧ ∃ k, wr = w.drewN k)) (fun u _ => n - (intOf u).toNat)
  case atStart => exact ⟨0, rfl, ⟨Nat.zero_le _, 0, rfl⟩⟩
  case round =>
    obtain ⟨i, rfl, HB⟩ := hrel
    obtain ⟨k, rfl⟩ := HB.out.2
    by_cases hi : i = n
    · have q1 : (n : Int) ≤ (i : Int) := by omega
      go_wp2
      go_ret
      exact ⟨rfl, below_drewN _ _ _⟩
    · have q1 : (i : Int) < (n : Int) := by have := HB.out.1; omega
      have HI : Hid (i < n) := by show _ < _; have := HB.out.1; omega
      obtain ⟨g, o1, ha, _, hc⟩ := H.out.1.2 (by have := HI.out; omega)
      obtain ⟨g2, o2, hb, _, hc2⟩ := H.out.2.2 (by have := HI.out; omega)
      subst ha hb
      obtain ⟨x, hx⟩ : ∃ x, l[i]? = some x := ⟨_, List.getElem?_eq_getElem (by rw [H.out.1.1]; exact HI.out)⟩
      have k1 := hc i x hx
      have k2 := hc2 i x hx
      have e1 : (x.toList == x.toList) = true := by simp
      have e2 : (x.toList != x.toList) = false := by simp
      clear hi hc hc2 hx
      go_wp2_with fail
      go_quiet (fail)
      go_wp2
      refine ⟨⟨i + 1, by simp, HI.out, _, rfl⟩, ?_⟩
      have := HI.out
      simp only [intOf]
      omega
#print axioms texts_same
end Go.Proofs.Ytngkajeghmogmaa.Oct
