/-
  Layer 17 (acl): All.
-/
import Derived.Test.YtngkajeghmogmaaFilter
namespace Go.Proofs.Ytngkajeghmogmaa.Oct
open Go.RowKit Go.Shelf

set_option maxRecDepth 100000 in
theorem clos37_is (l : List Ru) (a : Option Addr) (n cp : Nat) (s : Sj) (ch path : BA) (right : Int) (gl gs gc gr : Nat) (w : World) (hl : RuS w a n l) (hn : n ≤ 2199023255551) (hs : s.at w) (hp : path.size ≤ 140737488355328)
    (h0 : Blk w gl 22 [.slice a n cp]) (h1 : Blk w gs 25 [.string s.user, .slice s.ta s.tn s.tc, iv s.role]) (h2 : Blk w gc 9 [.string ch]) (h4 : Blk w gr 3 [iv right]) :
    Calls Try.prog 37 #[.string path, .pointer (some ⟨gl, 0, none⟩), .pointer (some ⟨gs, 0, none⟩), .pointer (some ⟨gc, 0, none⟩), .pointer (some ⟨gr, 0, none⟩)] w fun e w' => e = .returned (.bool (!decB l s ch path right)) ∧ Below w.heap.size w w' := by
  have HM := decide_is l a n cp s ch path right w hl hn hs hp
  have c0 : w.cell? ⟨gs, 0, none⟩ = some (.string s.user) := h1.cell rfl
  have c1 : w.cell? ⟨gs, 1, none⟩ = some (.slice s.ta s.tn s.tc) := h1.cell rfl
  have c2 : w.cell? ⟨gs, 2, none⟩ = some (iv s.role) := h1.cell rfl
  have c3 : w.cell? ⟨gc, 0, none⟩ = some (.string ch) := h2.cell rfl
  have c4 : w.cell? ⟨gl, 0, none⟩ = some (.slice a n cp) := h0.cell rfl
  have c5 : w.cell? ⟨gr, 0, none⟩ = some (iv right) := h4.cell rfl
  generalize decB l s ch path right = m at HM ⊢
  clear h0 h1 h2 h4 hs hp hn hl
  go_enter Try.func37, Try.ntmps37
  go_wp2_with fail
  refine HM.mono ?_
  rintro e w1 ⟨rfl, hb1⟩
  have HB1 : Hid (Below w.heap.size w w1) := hb1
  clear HM hb1
  go_wp2
  go_ret
  exact ⟨rfl, HB1.out⟩
#print axioms clos37_is
set_option maxRecDepth 100000 in
set_option maxHeartbeats 1000000 in
theorem idxs_is (P : BA → Bool) (k1 k2 k3 k4 : Value) (l : List BA) (a : Option Addr) (n cp : Nat) (w : World) (hl : Strs w a n l) (hn : n ≤ 1000000)
    (hf : ∀ x ∈ l, ∀ V, Below w.heap.size w V → Calls Try.prog 37 #[.string x, k1, k2, k3, k4] V fun e w' => e = .returned (.bool (P x)) ∧ Below V.heap.size V w') :
    Calls Try.prog 55 #[.slice a n cp, .func (.func 37) #[] #[k1, k2, k3, k4]] w fun e w' => ∃ k : Int, e = .returned (iv k) ∧ decide (0 ≤ k) = l.any P ∧ Below w.heap.size w w' := by
  have HL : Hid (Strs w a n l) := hl
  have HF : Hid (∀ x ∈ l, ∀ V, Below w.heap.size w V → Calls Try.prog 37 #[.string x, k1, k2, k3, k4] V fun e w' => e = .returned (.bool (P x)) ∧ Below V.heap.size V w') := hf
  have qn : (n : Int) ≤ 1000000 := by omega
  clear hl hn hf
  go_enter Try.func55, Try.ntmps55
  go_wp2
  go_loopw [8] (fun u wr => ∃ i : Nat, u = iv i ∧ Hid (i ≤ n ∧ (l.take i).any P = false ∧ Below w.heap.size w wr)) (fun u _ => n - (intOf u).toNat)
  case atStart => exact ⟨0, rfl, Nat.zero_le _, rfl, Below.refl _ _⟩
  case round =>
    obtain ⟨i, rfl, HI⟩ := hrel
    by_cases hi : i = n
    · have q1 : (n : Int) ≤ (i : Int) := by omega
      have HF : Hid (l.any P = false) := by
        show _ = _
        have := HI.out.2.1
        rw [hi, ← HL.out.1, List.take_length] at this
        exact this
      clear hi
      go_wp2
      go_ret
      exact ⟨-1, rfl, by rw [HF.out]; rfl, HI.out.2.2⟩
    · have q1 : (i : Int) < (n : Int) := by have := HI.out.1; omega
      have HI2 : Hid (i < n) := by show _ < _; have := HI.out.1; omega
      obtain ⟨b, off, ha, hbl, hc⟩ := HL.out.2 (by have := HI2.out; omega)
      subst ha
      obtain ⟨x, hx⟩ : ∃ x, l[i]? = some x := ⟨_, List.getElem?_eq_getElem (by rw [HL.out.1]; exact HI2.out)⟩
      have c0 : wr.cell? ⟨b, off + i, none⟩ = some (.string x) := (HI.out.2.2.cell (p := ⟨b, off + i, none⟩) hbl).trans (hc i x hx)
      have HR : Hid (l[i]? = some x) := hx
      have HC := HF.out x (List.mem_of_getElem? hx) wr HI.out.2.2
      clear hi hc hx
      go_wp2_with fail
      refine HC.mono ?_
      rintro e w1 ⟨rfl, hb1⟩
      have HB1 : Hid (Below w.heap.size w w1) := HI.out.2.2.trans (hb1.mono HI.out.2.2.size)
      clear HC hb1 c0
      cases hd : P x
      · have HN : Hid ((l.take (i + 1)).any P = false) := by
          show _ = _
          rw [List.take_add_one, HR.out, List.any_append, HI.out.2.1]
          simp [hd]
        clear hd
        go_wp2
        refine ⟨⟨i + 1, by simp, HI2.out, HN.out, HB1.out⟩, ?_⟩
        have := HI2.out
        simp only [intOf]
        omega
      · have HY : Hid (l.any P = true) := by
          show _ = _
          rw [List.any_eq_true]
          exact ⟨x, List.mem_of_getElem? HR.out, hd⟩
        clear hd
        go_wp2
        go_ret
        exact ⟨(i : Int), rfl, by rw [HY.out]; simp, HB1.out⟩
theorem anys_is (P : BA → Bool) (k1 k2 k3 k4 : Value) (l : List BA) (a : Option Addr) (n cp : Nat) (w : World) (hl : Strs w a n l) (hn : n ≤ 1000000)
    (hf : ∀ x ∈ l, ∀ V, Below w.heap.size w V → Calls Try.prog 37 #[.string x, k1, k2, k3, k4] V fun e w' => e = .returned (.bool (P x)) ∧ Below V.heap.size V w') :
    Calls Try.prog 36 #[.slice a n cp, .func (.func 37) #[] #[k1, k2, k3, k4]] w fun e w' => e = .returned (.bool (l.any P)) ∧ Below w.heap.size w w' := by
  have HI := idxs_is P k1 k2 k3 k4 l a n cp w hl hn hf
  generalize l.any P = m at HI ⊢
  clear hl hn hf
  go_enter Try.func36, Try.ntmps36
  go_wp2_with fail
  refine HI.mono ?_
  rintro e w1 ⟨k, rfl, hk, hb⟩
  have HK : Hid (decide (0 ≤ k) = m) := hk
  clear HI hk
  go_wp2
  go_ret
  exact ⟨by rw [← HK.out]; rfl, hb⟩
#print axioms anys_is
set_option maxRecDepth 100000 in
theorem all_is (l : List Ru) (a : Option Addr) (n cp : Nat) (s : Sj) (ch : BA) (ps : List BA) (pa : Option Addr) (pn pc : Nat) (right : Int) (w : World) (hl : RuS w a n l) (hn : n ≤ 2199023255551) (hs : s.at w) (hps : Strs w pa pn ps) (hpn : pn ≤ 1000000) (hsz : ∀ p ∈ ps, p.size ≤ 140737488355328) :
    Calls Try.prog 22 #[.slice a n cp, sv s, .string ch, .slice pa pn pc, iv right] w fun e w' => e = .returned (.bool (ps.all fun p => decB l s ch p right)) ∧ Below w.heap.size w w' := by
  obtain ⟨g, hg⟩ : ∃ g, w.heap.size = g := ⟨_, rfl⟩
  obtain ⟨W1, hW1⟩ : ∃ W1, (((w.alloc (.cells #[.slice a n cp] 22)).alloc (.cells #[.string s.user, .slice s.ta s.tn s.tc, iv s.role] 25)).alloc (.cells #[.string ch] 9)).alloc (.cells #[iv right] 3) = W1 := ⟨_, rfl⟩
  obtain ⟨g1, hg1⟩ : ∃ g1, g + 1 = g1 := ⟨_, rfl⟩
  obtain ⟨g2, hg2⟩ : ∃ g2, g1 + 1 = g2 := ⟨_, rfl⟩
  obtain ⟨g3, hg3⟩ : ∃ g3, g2 + 1 = g3 := ⟨_, rfl⟩
  have K1 : Hid (Kp w g 22 [.slice a n cp] W1 ∧ Kp w g1 25 [.string s.user, .slice s.ta s.tn s.tc, iv s.role] W1 ∧ Kp w g2 9 [.string ch] W1 ∧ Kp w g3 3 [iv right] W1) := by
    rw [← hW1, ← hg3, ← hg2, ← hg1, ← hg]
    have h1 := Kp.new w #[.slice a n cp] 22
    have h2 := h1.step (below_al _ (.cells #[.string s.user, .slice s.ta s.tn s.tc, iv s.role] 25))
    have h3 := h2.step (below_al _ (.cells #[.string ch] 9))
    have h4 := h3.step (below_al _ (.cells #[iv right] 3))
    refine ⟨h4, ⟨h4.1, ?_⟩, ⟨h4.1, ?_⟩, h4.1, ?_⟩
    · have := ((Blk.new (w.alloc (.cells #[.slice a n cp] 22)) #[.string s.user, .slice s.ta s.tn s.tc, iv s.role] 25).alloc (.cells #[.string ch] 9)).alloc (.cells #[iv right] 3)
      rw [World.size_alloc] at this
      exact this
    · have := (Blk.new ((w.alloc (.cells #[.slice a n cp] 22)).alloc (.cells #[.string s.user, .slice s.ta s.tn s.tc, iv s.role] 25)) #[.string ch] 9).alloc (.cells #[iv right] 3)
      rw [World.size_alloc, World.size_alloc] at this
      exact this
    · have := Blk.new (((w.alloc (.cells #[.slice a n cp] 22)).alloc (.cells #[.string s.user, .slice s.ta s.tn s.tc, iv s.role] 25)).alloc (.cells #[.string ch] 9)) #[iv right] 3
      rw [World.size_alloc, World.size_alloc, World.size_alloc] at this
      exact this
  have HP := anys_is (fun p => !decB l s ch p right) (.pointer (some ⟨g, 0, none⟩)) (.pointer (some ⟨g1, 0, none⟩)) (.pointer (some ⟨g2, 0, none⟩)) (.pointer (some ⟨g3, 0, none⟩)) ps pa pn pc W1 (hps.below K1.out.1.1) hpn (fun x hx V hV => clos37_is l a n cp s ch x right g g1 g2 g3 V ((hl.below K1.out.1.1).below hV) hn ((hs.below K1.out.1.1).below hV) (hsz x hx) (K1.out.1.2.below hV K1.out.1.2.lt) (K1.out.2.1.2.below hV K1.out.2.1.2.lt) (K1.out.2.2.1.2.below hV K1.out.2.2.1.2.lt) (K1.out.2.2.2.2.below hV K1.out.2.2.2.2.lt))
  obtain ⟨m, hm⟩ : ∃ m, (ps.any fun p => !decB l s ch p right) = m := ⟨_, rfl⟩
  rw [hm] at HP
  have HM : Hid ((ps.all fun p => decB l s ch p right) = !m) := by
    rw [← hm]
    show _ = _
    rw [List.all_eq_not_any_not]
  clear hl hn hs hps hpn hsz hm
  go_enter Try.func22, Try.ntmps22
  go_wp2_with fail
  refine HP.mono ?_
  rintro e w1 ⟨rfl, h2⟩
  have HR : Hid (Below w.heap.size w w1) := K1.out.1.1.trans (h2.mono K1.out.1.1.size)
  clear HP h2
  go_wp2
  go_ret
  exact ⟨by rw [HM.out]; rfl, HR.out⟩
#print axioms all_is
end Go.Proofs.Ytngkajeghmogmaa.Oct
