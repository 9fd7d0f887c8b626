/-
  Layer 12 (deps): Order.
-/
import Derived.Test.YtijkpkcopjkhkaaWebCap
namespace Go.Proofs.Ytijkpkcopjkhkaa.Oct
open Go.RowKit

/-- it may come next: a name, not yet told, all that it needs told -/
def Rdy (l : List It) (told : List Hs) (h : Hs) : Prop := h ∈ l.map (·.name) ∧ h ∉ told ∧ ∀ x ∈ l, x.name = h → ∀ d ∈ x.deps, d ∈ told
/-- again and again the least that may come, as long as one may -/
def OrderS (l : List It) (hs : List Hs) : Prop := (∀ (i : Nat) (h : Hs), hs[i]? = some h → Rdy l (hs.take i) h ∧ ∀ h', Rdy l (hs.take i) h' → h = h' ∨ LtH h h') ∧ ∀ h, ¬ Rdy l hs h
theorem OrderS.same {l l' : List It} {a b : List Hs} (hl : ∀ told h, Rdy l told h ↔ Rdy l' told h) (ha : OrderS l a) (hb : OrderS l' b) : a = b := by
  have key : ∀ i, a.take i = b.take i := by
    intro i
    induction i with
    | zero => rfl
    | succ i ih =>
      cases hai : a[i]? with
      | none =>
        have hal : a.length ≤ i := by
          rw [List.getElem?_eq_none_iff] at hai; exact hai
        cases hbi : b[i]? with
        | none =>
          rw [List.take_add_one, List.take_add_one, hai, hbi, ih]
        | some h =>
          have h1 := (hb.1 i h hbi).1
          rw [← ih, List.take_of_length_le hal] at h1
          exact absurd ((hl _ _).2 h1) (ha.2 h)
      | some h =>
        cases hbi : b[i]? with
        | none =>
          have hbl : b.length ≤ i := by
            rw [List.getElem?_eq_none_iff] at hbi; exact hbi
          have h1 := (ha.1 i h hai).1
          rw [ih, List.take_of_length_le hbl] at h1
          exact absurd ((hl _ _).1 h1) (hb.2 h)
        | some h' =>
          have h1 := ha.1 i h hai
          have h2 := hb.1 i h' hbi
          rw [ih] at h1
          have e : h = h' := by
            rcases h1.2 h' ((hl _ _).2 h2.1) with e | e
            · exact e
            · rcases h2.2 h ((hl _ _).1 h1.1) with e' | e'
              · exact e'.symm
              · exact absurd e' e.asymm
          rw [List.take_add_one, List.take_add_one, hai, hbi, ih, e]
  have h1 := key (max a.length b.length)
  rw [List.take_of_length_le (by omega), List.take_of_length_le (by omega)] at h1
  exact h1
theorem nmOf_take (ns : List Hs) (T : List Nat) (i : Nat) : (nmOf ns T).take i = nmOf ns (T.take i) := by simp [nmOf, List.map_take]
theorem nmOf_get (ns : List Hs) (T : List Nat) (i : Nat) (h : Hs) (hh : (nmOf ns T)[i]? = some h) : ∃ t, T[i]? = some t ∧ ns.getD t [] = h := by
  simp only [nmOf, List.getElem?_map] at hh
  exact Option.map_eq_some_iff.1 hh
theorem mem_nmOf {ns : List Hs} {T : List Nat} (hn : ns.Nodup) (hT : ∀ k ∈ T, k < ns.length) {h : Hs} (hh : h ∈ ns) : h ∈ nmOf ns T ↔ numOf ns h ∈ T := by
  constructor
  · intro hm
    obtain ⟨k, hk, he⟩ := List.mem_map.1 hm
    have hkl := hT k hk
    rw [List.getD_eq_getElem?_getD, List.getElem?_eq_getElem hkl] at he
    simp at he
    have : numOf ns h = k := by
      rw [← he]
      unfold numOf
      exact hn.idxOf_getElem k hkl
    rw [this]; exact hk
  · intro hm
    refine List.mem_map.2 ⟨numOf ns h, hm, ?_⟩
    rw [List.getD_eq_getElem?_getD, numOf_at hh]; rfl
/-- the order by numbers is the order of the names -/
theorem order_of {l : List It} {ns : List Hs} {T : List Nat} (hnd : (l.map (·.name)).Nodup) (hcl : ∀ x ∈ l, ∀ d ∈ x.deps, d ∈ l.map (·.name)) (hr : ns.Pairwise LtH) (hns : ∀ x, x ∈ ns ↔ x ∈ l.map (·.name))
    (hg : Gr ns.length (webA ns l) (webW ns l) T) (hend : ∀ n, n < ns.length → n ∉ T → ¬ Free (webA ns l) (webW ns l) T n) : OrderS l (nmOf ns T) := by
  have hn := rise_nodup hr
  have hTl : ∀ k ∈ T, k < ns.length := fun k hk => by
    obtain ⟨i, hi⟩ := List.getElem?_of_mem hk
    exact (hg i k hi).1
  have hTn : T.Nodup := by
    rw [List.nodup_iff_pairwise_ne, List.pairwise_iff_getElem]
    intro i j hi hj hij e
    have h1 := (hg j T[j] (List.getElem?_eq_getElem hj)).2.1
    exact h1 (by rw [← e]; exact List.mem_take_iff_getElem.2 ⟨i, by omega, rfl⟩)
  have rdy : ∀ (S : List Nat), S.Nodup → (∀ k ∈ S, k < ns.length) → ∀ n, n < ns.length → (Rdy l (nmOf ns S) (ns.getD n []) ↔ n ∉ S ∧ Free (webA ns l) (webW ns l) S n) := by
    intro S hS1 hS2 n hlt
    obtain ⟨x, hx, hxn, hnum⟩ := item_of hnd hns hn hlt
    have e1 : ns.getD n [] = x.name := by rw [List.getD_eq_getElem?_getD, hxn]; rfl
    have hxs : x.name ∈ ns := (hns _).2 (List.mem_map.2 ⟨x, hx, rfl⟩)
    have e2 : numOf ns x.name = n := by
      have : x ∈ numbered ns n l := by rw [hnum]; simp
      have := (List.mem_filter.1 this).2
      simpa using this
    have huni : ∀ y ∈ l, y.name = x.name → y = x := by
      intro y hy e
      have : y ∈ numbered ns n l := List.mem_filter.2 ⟨hy, by simp [e, e2]⟩
      rw [hnum] at this
      simpa using this
    rw [e1, free_iff hlt hnum S hS1 hS2]
    unfold Rdy
    rw [mem_nmOf hn hS2 hxs, e2]
    constructor
    · rintro ⟨_, h2, h3⟩
      exact ⟨h2, fun d hd => (mem_nmOf hn hS2 ((hns _).2 (hcl x hx d hd))).1 (h3 x hx rfl d hd)⟩
    · rintro ⟨h2, h3⟩
      refine ⟨List.mem_map.2 ⟨x, hx, rfl⟩, h2, fun y hy e d hd => ?_⟩
      obtain rfl := huni y hy e
      exact (mem_nmOf hn hS2 ((hns _).2 (hcl y hx d hd))).2 (h3 d hd)
  have back : ∀ (S : List Nat) (h : Hs), Rdy l (nmOf ns S) h → ∃ n, n < ns.length ∧ ns.getD n [] = h := by
    intro S h hr
    have hm : h ∈ ns := (hns _).2 hr.1
    exact ⟨numOf ns h, numOf_lt hm, by rw [List.getD_eq_getElem?_getD, numOf_at hm]; rfl⟩
  refine ⟨fun i h hi => ?_, fun h hrd => ?_⟩
  · obtain ⟨t, ht, rfl⟩ := nmOf_get ns T i h hi
    obtain ⟨g1, g2, g3, g4⟩ := hg i t ht
    have hS1 : (T.take i).Nodup := hTn.sublist (List.take_sublist i T)
    have hS2 : ∀ k ∈ T.take i, k < ns.length := fun k hk => hTl k (List.mem_of_mem_take hk)
    rw [nmOf_take]
    refine ⟨(rdy _ hS1 hS2 t g1).2 ⟨g2, g3⟩, fun h' hr' => ?_⟩
    obtain ⟨n, hnl, rfl⟩ := back _ h' hr'
    obtain ⟨a1, a2⟩ := (rdy _ hS1 hS2 n hnl).1 hr'
    have hle := g4 n hnl a1 a2
    by_cases e : t = n
    · exact .inl (by rw [e])
    · refine .inr ?_
      have := List.pairwise_iff_getElem.1 hr t n g1 hnl (by omega)
      rw [List.getD_eq_getElem?_getD, List.getD_eq_getElem?_getD, List.getElem?_eq_getElem g1, List.getElem?_eq_getElem hnl]
      exact this
  · obtain ⟨n, hnl, rfl⟩ := back _ h hrd
    obtain ⟨a1, a2⟩ := (rdy T hTn hTl n hnl).1 hrd
    exact hend n hnl a1 a2
#print axioms order_of
/-- what 'Order' answers: the hashes, and the error -/
def OrdA (l : List It) (hs : List Hs) (er : Int) : Prop :=
  (256 < l.length ∧ hs = [] ∧ er = 3) ∨
  (l.length ≤ 256 ∧ ¬ (l.map (·.name)).Nodup ∧ hs = [] ∧ er = 110) ∨
  (l.length ≤ 256 ∧ (l.map (·.name)).Nodup ∧ (∃ x, missing l x) ∧ hs = [] ∧ er = 111) ∨
  (l.length ≤ 256 ∧ (l.map (·.name)).Nodup ∧ (∀ x, ¬ missing l x) ∧ (∃ ks, OrderS l ks ∧ ks.length < l.length) ∧ hs = [] ∧ er = 120) ∨
  (l.length ≤ 256 ∧ (l.map (·.name)).Nodup ∧ (∀ x, ¬ missing l x) ∧ OrderS l hs ∧ l.length ≤ hs.length ∧ er = 0)
def OrderP (w : World) (l : List It) (e : Ending) (w' : World) : Prop := ∃ p n c er hs, e = .returned (.tuple #[.slice p n c, .int .i64 er]) ∧ Hid (HsR w' p n hs ∧ n ≤ 100000) ∧ Hid (OrdA l hs er) ∧ Hid (Below w.heap.size w w')
theorem OrderP.nil {w w' : World} {l : List It} {er : Int} (h : OrdA l [] er) (hb : Below w.heap.size w w') : OrderP w l (.returned (.tuple #[.slice none 0 0, .int .i64 er])) w' :=
  ⟨none, 0, 0, er, [], rfl, ⟨HsR.nil _ _, by omega⟩, h, hb⟩

set_option maxRecDepth 100000 in
set_option maxHeartbeats 2000000 in
theorem order_is (w : World) (a : Option Addr) (len cap : Nat) (l : List It) (hi : Its w a len l) (hn : len ≤ 100000) (hm : many l ≤ 90000) :
    Calls Try.prog 11 #[.slice a len cap] w (OrderP w l) := by
  have HA : Hid (Its w a len l ∧ len ≤ 100000 ∧ many l ≤ 90000 ∧ l.length = len) := ⟨hi, hn, hm, hi.1⟩
  have q5 : (len : Int) ≤ 100000 := by omega
  clear hi hn hm
  by_cases h256 : 256 < len
  · have hd : decide (256 < len) = true := by simpa using h256
    have HN : Hid (256 < len) := h256
    have H23 := isLong_is w a len cap
    rw [hd] at H23
    have H23' : Hid (Calls Try.prog 23 #[.slice a len cap] w fun e w' => e = .returned (.bool true) ∧ w = w') := H23
    clear H23 h256 hd
    go_enter Try.func11, Try.ntmps11
    go_wp2_with fail
    refine H23'.out.mono ?_
    rintro e w' ⟨rfl, rfl⟩
    go_wp2
    go_ret2
    exact OrderP.nil (.inl ⟨by rw [HA.out.2.2.2]; exact HN.out, rfl, rfl⟩) (Below.refl _ _)
  · have hd : decide (256 < len) = false := by simpa using h256
    have HN : Hid (l.length ≤ 256) := by show _ ≤ _; have := HA.out.2.2.2; omega
    have H23 := isLong_is w a len cap
    rw [hd] at H23
    have H23' : Hid (Calls Try.prog 23 #[.slice a len cap] w fun e w' => e = .returned (.bool false) ∧ w = w') := H23
    have HM18 : Hid (∀ W, Below w.heap.size w W → Calls Try.prog 18 #[.slice a len cap] W (SetP W fun x => len ≤ 256 ∧ missing l x)) := fun W hW => missing_is W a len cap l (HA.out.1.below hW) HA.out.2.1 HA.out.2.2.1
    clear H23 h256 hd
    go_enter Try.func11, Try.ntmps11
    go_wp2_with fail
    refine H23'.out.mono ?_
    rintro e w' ⟨rfl, rfl⟩
    obtain ⟨N, hN⟩ : ∃ N, (namesK l).length = N := ⟨_, rfl⟩
    have HNN : Hid ((namesK l).length = N ∧ N ≤ len) := ⟨hN, by rw [← hN, ← HA.out.1.1]; exact namesK_le l⟩
    have H24 : Hid (Calls Try.prog 24 #[.slice a len cap] w (NamesP w (namesK l))) := namesOf_is w a len cap l HA.out.1 HA.out.2.1
    clear hN
    by_cases hc : N < len
    · have hc1 : (N : Int) < (len : Int) := by omega
      have HC : Hid (N < len) := hc
      clear hc
      go_wp2_with (go_at_call 24; (with_reducible refine Calls.mono H24.out ?_); rintro e w1 ⟨b1, rfl, H1, HB1⟩; have hlen := H1.out.1.len 3; rw [HNN.out.1] at hlen)
      go_ret2
      refine OrderP.nil (.inr (.inl ⟨HN.out, fun h => ?_, rfl, rfl⟩)) HB1.out
      have h1 := (namesK_len l).2 h
      have := HNN.out.1
      have := HC.out
      have := HA.out.2.2.2
      omega
    · have hc1 : ¬ (N : Int) < (len : Int) := by omega
      have HC : Hid (N = len) := by show _ = _; have := HNN.out.2; omega
      clear hc
      go_wp2_with (first
        | (go_at_call 24; (with_reducible refine Calls.mono H24.out ?_); rintro e w1 ⟨b1, rfl, H1, HB1⟩; have hlen := H1.out.1.len 3; rw [HNN.out.1] at hlen)
        | fail)
      refine (HM18.out w1 HB1.out).mono ?_
      rintro e w2 ⟨a2, n2, c2, rs, rfl, H2, HB2⟩
      have HNO : Hid ((l.map (·.name)).Nodup) := (namesK_len l).1 (by rw [HNN.out.1, HC.out, HA.out.2.2.2])
      have HB : Hid (Below w.heap.size w w2) := HB1.out.trans (HB2.out.mono HB1.out.size)
      clear hlen hc1
      by_cases h0 : n2 = 0
      · subst h0
        have HMI : Hid (∀ x, ¬ missing l x) := fun x hx => by
          have h1 := (H2.out.2.2.2 x).2 ⟨by have := HN.out; have := HA.out.2.2.2; omega, hx⟩
          rw [List.eq_nil_of_length_eq_zero H2.out.1.1] at h1
          cases h1
        have HCL : Hid (∀ x ∈ l, ∀ d ∈ x.deps, d ∈ l.map (·.name)) := fun x hx d hd => by
          by_cases h : d ∈ l.map (·.name)
          · exact h
          · exact absurd ⟨⟨x, hx, hd⟩, h⟩ (HMI.out d)
        have H25 : Hid (Calls Try.prog 25 #[.slice a len cap] w2 (OrdP w2 l len)) := orderOf_is w2 a len cap l (HA.out.1.below HB.out) HA.out.2.1 HA.out.2.2.1 (by rw [HNN.out.1, HC.out]) (fun x hx d hd => (mem_namesK l).2 (HCL.out x hx d hd)) (fun ns h1 h2 => web_cap HA.out.2.2.2 (by rw [HNN.out.1, HC.out]) HA.out.2.2.1 ns h1 h2)
        go_wp2_with fail
        refine H25.out.mono ?_
        rintro e w3 ⟨p, c, ns, T, rfl, G1, G2, G3, G4⟩
        have HOS : Hid (OrderS l (nmOf ns T) ∧ (nmOf ns T).length = T.length ∧ T.length ≤ len) := by
          have hl := G2.out.2.2
          have h1 := order_of (T := T) HNO.out HCL.out G2.out.1 (fun x => (G2.out.2.1 x).trans (mem_namesK l)) (by rw [hl]; exact G3.out.1) (by rw [hl]; exact G3.out.2)
          refine ⟨h1, by simp [nmOf], ?_⟩
          refine nodup_len T len ?_ (fun k hk => ?_)
          · rw [List.nodup_iff_pairwise_ne, List.pairwise_iff_getElem]
            intro i j hi hj hij e
            have h1 := (G3.out.1 j T[j] (List.getElem?_eq_getElem hj)).2.1
            exact h1 (by rw [← e]; exact List.mem_take_iff_getElem.2 ⟨i, by omega, rfl⟩)
          · obtain ⟨i, hi⟩ := List.getElem?_of_mem hk
            exact (G3.out.1 i k hi).1
        have HB3 : Hid (Below w.heap.size w w3) := HB.out.trans (G4.out.mono HB.out.size)
        have q6 : (T.length : Int) ≤ (len : Int) := by have := HOS.out.2.2; omega
        by_cases ht : T.length < len
        · have q7 : (T.length : Int) < (len : Int) := by omega
          have HT : Hid (T.length < len) := ht
          clear ht
          go_wp2
          go_ret2
          exact OrderP.nil (.inr (.inr (.inr (.inl ⟨HN.out, HNO.out, HMI.out, ⟨nmOf ns T, HOS.out.1, by rw [HOS.out.2.1, HA.out.2.2.2]; exact HT.out⟩, rfl, rfl⟩)))) HB3.out
        · have q7 : ¬ (T.length : Int) < (len : Int) := by omega
          have HT : Hid (len ≤ T.length) := by show _ ≤ _; omega
          clear ht
          go_wp2
          go_ret2
          exact ⟨p, T.length, c, 0, nmOf ns T, rfl, ⟨G1.out, by have := HOS.out.2.2; have := HA.out.2.1; omega⟩, .inr (.inr (.inr (.inr ⟨HN.out, HNO.out, HMI.out, HOS.out.1, by rw [HOS.out.2.1, HA.out.2.2.2]; exact HT.out, rfl⟩))), HB3.out⟩
      · have e0 : (0 : Int) < (n2 : Int) := by omega
        have HX : Hid (∃ x, missing l x) := by
          cases rs with
          | nil => exact absurd H2.out.1.1.symm h0
          | cons x rs => exact ⟨x, ((H2.out.2.2.2 x).1 (by simp)).2⟩
        clear h0
        go_wp2
        go_ret2
        exact OrderP.nil (.inr (.inr (.inl ⟨HN.out, HNO.out, HX.out, rfl, rfl⟩))) HB.out
#print axioms order_is
end Go.Proofs.Ytijkpkcopjkhkaa.Oct
