/-
  Layer 21 (queue): QueueInner.
-/
import Derived.Test.YtipipckbcelphaaInt
namespace Go.Proofs.Ytipipckbcelphaa.Oct
open Go.RowKit Go.Shelf
set_option linter.unusedSimpArgs false
set_option linter.unusedVariables false

/-- a queue of the law's, and its boxes -/
structure PL (w W : World) (b b7 b4 b5 : Nat) (y : Av) (ans : Int) (M : Qu) (K : Nat) : Prop where
  q : QAt W b M .nilFunc K
  bel : Below w.heap.size w W
  k7 : Blk W b7 25 [.pointer (some ⟨b, 0, none⟩)]
  k4 : Blk W b4 32 [iv y.kind, iv y.id, iv y.ans, .slice y.sa y.sn y.sc]
  k5 : Blk W b5 3 [iv ans]
  bl : ∀ k ∈ M.bl b, k = b ∨ b7 < k
  e : M.E = []
  o : w.heap.size = b4 ∧ b5 = b4 + 1 ∧ b = b4 + 2 ∧ b < b7
section
variable {w W V : World} {b b7 b4 b5 K K' : Nat} {y : Av} {ans : Int} {M M' : Qu}
theorem PL.ne (h : PL w W b b7 b4 b5 y ans M K) {k : Nat} (hk : k ∈ M.bl b) : k ≠ b7 ∧ k ≠ b4 ∧ k ≠ b5 := by
  have h1 := h.bl k hk
  have h2 := h.o
  omega
theorem PL.call (h : PL w W b b7 b4 b5 y ans M K) (hq : QAt V b M' .nilFunc K') (ha : QAfter W b M M' V) (he : M'.E = []) : PL w V b b7 b4 b5 y ans M' K' := by
  have hlt := h.k7.lt
  refine ⟨hq, ?_, ha.2.blk h.k7 (fun e => (h.ne e).1 rfl), ha.2.blk h.k4 (fun e => (h.ne e).2.1 rfl), ha.2.blk h.k5 (fun e => (h.ne e).2.2 rfl), fun k hk => ?_, he, h.o⟩
  · exact h.bel.trans (ha.2.toBelow h.bel.size (fun k hk => by have := h.bl k hk; have := h.o; omega))
  · rcases ha.1 k hk with h1 | h1
    · exact h.bl k h1
    · right; omega
theorem PL.below (h : PL w W b b7 b4 b5 y ans M K) (hb : Below W.heap.size W V) : PL w V b b7 b4 b5 y ans M K :=
  ⟨h.q.below hb, h.bel.trans (hb.mono h.bel.size), h.k7.below hb h.k7.lt, h.k4.below hb h.k4.lt, h.k5.below hb h.k5.lt, h.bl, h.e, h.o⟩
end
theorem build30 (v : Value) (hv : v.cells = #[v]) (W : World) (a : Option Addr) (n c : Nat) (e : v = .slice a n c) : (Instr.build 30 #[(0, v)]).run Try.prog W = .ok (.agg #[v, .slice none 0 0]) W := by
  subst e
  kernel_rfl
set_option maxRecDepth 100000 in
set_option maxHeartbeats 8000000 in
theorem inner_law (l : List Int) (a : Option Addr) (n cp : Nat) (y : Av) (ans : Int) (w : World) (hl : ArgN w a n cp l) (hy : y.ok w) :
    Calls Try.prog 6 #[.slice a n cp, .agg #[iv y.kind, iv y.id, iv y.ans, .slice y.sa y.sn y.sc], iv ans] w fun e w' => e = .returned (.bool true) ∧ Below w.heap.size w w' := by
  have hz38 := zero38
  have hz30 := zero30
  have hmf : ∀ (fn : Fn) (first cap : Array Value) (w : World), (Instr.makeFunc fn first cap).run Try.prog w = .ok (.func fn first cap) w := fun _ _ _ _ => rfl
  have HL : Hid (ArgN w a n cp l) := hl
  have qn : (n : Int) ≤ 9223372036854775807 := by have h1 := hl.2.1; have h2 := hl.2.2.1; unfold maxLen at h2; omega
  obtain ⟨b4, hb4⟩ : ∃ b, w.heap.size = b := ⟨_, rfl⟩
  obtain ⟨A0, hA0⟩ : ∃ A, (w.alloc (.cells #[iv y.kind, iv y.id, iv y.ans, .slice y.sa y.sn y.sc] 32)).alloc (.cells #[iv ans] 3) = A := ⟨_, rfl⟩
  have hB0 : Below w.heap.size w A0 := by rw [← hA0]; exact ((Below.refl _ w).alloc (Nat.le_refl _) _).alloc (by simp) _
  have hs0 : A0.heap.size = b4 + 2 := by rw [← hA0, ← hb4]; simp
  have h4 : Blk A0 b4 32 [iv y.kind, iv y.id, iv y.ans, .slice y.sa y.sn y.sc] := by rw [← hA0, ← hb4]; exact (Blk.new w _ _).alloc _
  have h5 : Blk A0 (b4 + 1) 3 [iv ans] := by
    rw [← hA0, ← hb4]
    have := Blk.new (w.alloc (.cells #[iv y.kind, iv y.id, iv y.ans, .slice y.sa y.sn y.sc] 32)) #[iv ans] 3
    rwa [World.size_alloc] at this
  have HNEW := new_is A0
  have HA0 : Hid (Below w.heap.size w A0 ∧ A0.heap.size = b4 + 2 ∧ Blk A0 b4 32 [iv y.kind, iv y.id, iv y.ans, .slice y.sa y.sn y.sc] ∧ Blk A0 (b4 + 1) 3 [iv ans] ∧ w.heap.size = b4) := ⟨hB0, hs0, h4, h5, hb4⟩
  clear hl hy hB0 hs0 h4 h5
  go_enter Try.func6, Try.ntmps6
  go_wp2_with fail
  refine HNEW.mono ?_
  rintro e w1 ⟨rfl, hq0, hb1⟩
  obtain ⟨b, hbb⟩ : ∃ b, A0.heap.size = b := ⟨_, rfl⟩
  rw [hbb] at hq0 ⊢
  obtain ⟨b7, hb7⟩ : ∃ b7, w1.heap.size = b7 := ⟨_, rfl⟩
  have hal : Below w1.heap.size w1 (w1.alloc (.cells #[.pointer (some ⟨b, 0, none⟩)] 25)) := below_al _ _
  have HP0 : Hid (PL w (w1.alloc (.cells #[.pointer (some ⟨b, 0, none⟩)] 25)) b b7 b4 (b4 + 1) y ans ⟨.slice none 0 0, .slice none 0 0, [], []⟩ 0) := by
    have h1 := HA0.out
    have hlt : b < w1.heap.size := hq0.blk.lt
    refine ⟨hq0.below hal, below_tr (below_tr h1.1 hb1) hal, by rw [← hb7]; exact Blk.new w1 _ _, (h1.2.2.1.below hb1 h1.2.2.1.lt).alloc _, (h1.2.2.2.1.below hb1 h1.2.2.2.1.lt).alloc _, ?_, rfl, ⟨h1.2.2.2.2, rfl, by omega, by omega⟩⟩
    intro k hk
    simp [Qu.bl, Value.ownBlock] at hk
    exact .inl hk
  clear HNEW hq0 hb1 hbb hal hA0 hb4
  go_wp2
  go_loopw [22] (fun u W => ∃ (i : Nat) (M : Qu), u = iv i ∧ Hid (i ≤ n ∧ PL w W b b7 b4 (b4 + 1) y ans M (min i 70))) (fun u _ => n - (intOf u).toNat)
  case atStart => exact ⟨0, _, rfl, Nat.zero_le _, HP0.out⟩
  case round =>
    obtain ⟨i, M, rfl, HI⟩ := hrel
    have c7 : wr.cell? ⟨b7, 0, none⟩ = some (.pointer (some ⟨b, 0, none⟩)) := HI.out.2.k7.cell rfl
    by_cases hi : i = n
    · have q1 : (n : Int) ≤ (i : Int) := by omega
      have HM : Hid (PL w wr b b7 b4 (b4 + 1) y ans M 70) := ⟨HI.out.2.q.more (by omega) (by omega), HI.out.2.bel, HI.out.2.k7, HI.out.2.k4, HI.out.2.k5, HI.out.2.bl, HI.out.2.e, HI.out.2.o⟩
      clear hi HI
      have HWT := waiting_is HM.out.q
      go_wp2_with fail
      refine HWT.mono ?_
      rintro e V1 ⟨wv, rfl, ho, hb1⟩
      have hrv := RV.own ho (ivs_one _)
      obtain ⟨aw, cw, hwv, hnc, hcm, hnum, hge⟩ := nums_own ho
      obtain ⟨m, hm⟩ : ∃ m, M.W.length = m := ⟨_, rfl⟩
      rw [hm] at hwv hnum hge
      subst hwv
      have HV1 : Hid (PL w V1 b b7 b4 (b4 + 1) y ans M 70 ∧ M.W.length = m ∧ Nums V1 aw m M.W ∧ (0 < m → ∃ g, aw = some ⟨g, 0, none⟩ ∧ wr.heap.size ≤ g) ∧ RV V1 3 1 (.slice aw m cw) m (ivs M.W) ∧ (∀ k ∈ M.bl b, k < wr.heap.size) ∧ b7 < wr.heap.size) := ⟨HM.out.below hb1, hm, hnum, hge, by have := hrv.1; rwa [hm] at this, HM.out.q.lt, HM.out.k7.lt⟩
      have qm : (m : Int) ≤ 64 := by have := HM.out.q.nW; omega
      obtain ⟨b10, hb10⟩ : ∃ g, V1.heap.size = g := ⟨_, rfl⟩
      obtain ⟨V2, hV2⟩ : ∃ V2, V1.alloc (.cells #[.slice aw m cw] 27) = V2 := ⟨_, rfl⟩
      have hal2 : Below V1.heap.size V1 V2 := by rw [← hV2]; exact below_al _ _
      have h10 : Blk V2 b10 27 [.slice aw m cw] := by rw [← hV2, ← hb10]; exact Blk.new V1 _ _
      have HV2 : Hid (PL w V2 b b7 b4 (b4 + 1) y ans M 70 ∧ Nums V2 aw m M.W ∧ RV V2 3 1 (.slice aw m cw) m (ivs M.W) ∧ Blk V2 b10 27 [.slice aw m cw] ∧ V1.heap.size = b10 ∧ Below V1.heap.size V1 V2) := ⟨HV1.out.1.below hal2, HV1.out.2.2.1.below hal2, HV1.out.2.2.2.2.1.below hal2, h10, hb10, hal2⟩
      have c10 : V2.cell? ⟨b10, 0, none⟩ = some (.slice aw m cw) := h10.cell rfl
      have d7 : V2.cell? ⟨b7, 0, none⟩ = some (.pointer (some ⟨b, 0, none⟩)) := HV2.out.1.k7.cell rfl
      clear HWT ho hb1 hrv hnc hcm hnum hge c7 hal2 h10
      by_cases h0 : m = 0
      · have q3 : ((m : Int) == 0) = true := by simp [h0]
        have HST := step_none (F := 29) (cs := #[]) HV2.out.1.q (List.eq_nil_of_length_eq_zero (by rw [HV1.out.2.1]; exact h0))
        clear h0
        go_wp2_with fail
        refine HST.mono ?_
        rintro e W3 ⟨rfl, hb3⟩
        have hal : Below W3.heap.size W3 (W3.alloc (.cells #[iv 0, iv 0, iv 0] 38)) := below_al _ _
        obtain ⟨g11, hg11⟩ : ∃ g, W3.heap.size = g := ⟨_, rfl⟩
        have HB3 : Hid (Below w.heap.size w W3) := below_tr HV2.out.1.bel hb3
        clear HST hb3 c10 d7 hV2
        go_wp2_with (with_reducible change wpList _ _ _ ({ dst := none, op := Op.store 38 _ _, type := _, pos := _, after := _, guard := _ } :: _) _ _; refine Hid.out ?_)
        show wpList _ _ _ _ _ _
        refine wpList_store_blk rfl 38 (.tmp 11) _ rfl g11 0 38 q0 q0 rfl rfl (by rw [← hg11]; exact Blk.new W3 _ _) (by simp [q0]) size38 (by intro u hu; simp [q0] at hu; subst hu; rfl) ?_
        intro V4 hb5 hg5
        have hV4 : Below W3.heap.size W3 V4 := hal.grown hg5.out hal.size (fun j hj => by cases hj; omega)
        have HLV := lives_is V4
        have HB4 : Hid (Below w.heap.size w V4) := below_tr HB3.out hV4
        clear hb5 hg5 hal hV4 hg11
        go_wp2_with fail
        refine HLV.mono ?_
        rintro e V5 ⟨rfl, hb6⟩
        have HF : Hid (Below w.heap.size w V5) := below_tr HB4.out hb6
        clear HLV hb6
        go_wp2_with fail
        go_ret
        exact ⟨rfl, HF.out⟩
      · have q3 : ((m : Int) == 0) = false := by simpa using h0
        have q4 : ¬ ((m : Int) = 0) := by omega
        obtain ⟨gw, haw, hgw⟩ := HV1.out.2.2.2.1 (by omega)
        subst haw
        have hgl : gw < V1.heap.size := by
          obtain ⟨b', o', e', h, _⟩ := HV1.out.2.2.1.2 (by omega)
          cases e'
          exact h
        have hb30 : ∀ W : World, (Instr.build 30 #[(0, .slice (some ⟨gw, 0, none⟩) m cw)]).run Try.prog W = .ok (.agg #[.slice (some ⟨gw, 0, none⟩) m cw, .slice none 0 0]) W := fun W => by kernel_rfl
        obtain ⟨b13, hb13⟩ : ∃ g, V2.heap.size = g := ⟨_, rfl⟩
        go_wp2_with (with_reducible change wpList _ _ _ ({ dst := none, op := Op.store 30 _ _, type := _, pos := _, after := _, guard := _ } :: _) _ _; refine Hid.out ?_)
        show wpList _ _ _ _ _ _
        refine wpList_store_blk rfl 30 (.tmp 13) (.tmp 49) rfl b13 0 30 [.slice none 0 0, .slice none 0 0] [.slice (some ⟨gw, 0, none⟩) m cw, .slice none 0 0] rfl rfl (by rw [← hb13]; exact Blk.new V2 _ _) (by simp) size30 (by intro u hu; simp at hu; rcases hu with rfl | rfl <;> rfl) ?_
        intro V3 hb3' hg3'
        obtain ⟨b14, hb14⟩ : ∃ g, V3.heap.size = g := ⟨_, rfl⟩
        obtain ⟨V4, hV4⟩ : ∃ V4, V3.alloc (.cells #[.bool true] 4) = V4 := ⟨_, rfl⟩
        have hB3 : Below V2.heap.size V2 V3 := (below_al V2 _).grown hg3'.out (below_al V2 _).size (fun j hj => by cases hj; omega)
        have hB4 : Below V3.heap.size V3 V4 := by rw [← hV4]; exact below_al _ _
        have h13 : Blk V3 b13 30 [.slice (some ⟨gw, 0, none⟩) m cw, .slice none 0 0] := hb3'.out
        have h14 : Blk V4 b14 4 [.bool true] := by rw [← hV4, ← hb14]; exact Blk.new V3 _ _
        have hB24 := below_tr hB3 hB4
        have hPL4 := HV2.out.1.below hB24
        have h10lt := HV2.out.2.2.2.1.lt
        have h13lt := h13.lt
        have hord : b7 < wr.heap.size ∧ wr.heap.size ≤ gw ∧ gw < b10 ∧ b10 < b13 ∧ b13 < b14 := ⟨HV1.out.2.2.2.2.2.2, hgw, by omega, by omega, by omega⟩
        have ho4 := HV2.out.1.o
        have hDS : DS b7 b10 b14 b4 b13 (b4 + 1) gw := ⟨by omega, ⟨by omega, by omega⟩, ⟨by omega, by omega⟩, ⟨by omega, by omega⟩, ⟨by omega, by omega⟩, by omega, by omega⟩
        have hSep : SepM M b b7 b10 b14 b4 b13 (b4 + 1) gw := fun k hk => by
          have h1 := HV1.out.2.2.2.2.2.1 k hk
          have h2 := hPL4.ne hk
          exact ⟨h2.1, by omega, by omega, h2.2.1, by omega, h2.2.2, by omega⟩
        obtain ⟨x, hx⟩ : ∃ x, M.W[0]? = some x := ⟨_, List.getElem?_eq_getElem (by rw [HV1.out.2.1]; omega)⟩
        have hIB : IB V4 b b7 b10 b4 (b4 + 1) gw m cw y ans M.W := ⟨hPL4.k7, HV2.out.2.2.2.1.below hB24 h10lt, hPL4.k4, hPL4.k5, HV2.out.2.1.below hB24, by have := hB24.size; omega⟩
        have hrv4 := HV2.out.2.2.1.below hB24
        have hRQ : RQ V4 (.slice (some ⟨gw, 0, none⟩) m cw) (.slice none 0 0) M.W [] := ⟨by rw [HV1.out.2.1]; exact hrv4, RV.nil _ _ _, by rw [HV1.out.2.1]; omega, by simp, fun p m' c' hp => by cases hp; rfl⟩
        have h13' := h13.below hB4 h13.lt
        have hb14lt := h14.lt
        have HC : Hid (PL w V4 b b7 b4 (b4 + 1) y ans M 70 ∧ M.W.length = m ∧ M.W[0]? = some x ∧ DS b7 b10 b14 b4 b13 (b4 + 1) gw ∧ SepM M b b7 b10 b14 b4 b13 (b4 + 1) gw ∧ (gw < b13 ∧ b13 < b14 ∧ b14 < V4.heap.size ∧ b7 < gw) ∧ Blk V4 b13 30 [.slice (some ⟨gw, 0, none⟩) m cw, .slice none 0 0] ∧ Blk V4 b14 4 [.bool true]) := ⟨hPL4, HV1.out.2.1, hx, hDS, hSep, ⟨by omega, by omega, hb14lt, by omega⟩, h13', h14⟩
        have HSTEP := step_yes (F := 30) (K := 70) (K' := 70 + 1) (x := x) (cs := #[.pointer (some ⟨b7, 0, none⟩), .pointer (some ⟨b10, 0, none⟩), .pointer (some ⟨b14, 0, none⟩), .pointer (some ⟨b4, 0, none⟩), .pointer (some ⟨b13, 0, none⟩), .pointer (some ⟨b4 + 1, 0, none⟩)]) (S0 := S0 M b b13 b14) (R := fun r M' A V => r = ans ∧ InS A V M M' (fnV 30 #[.pointer (some ⟨b7, 0, none⟩), .pointer (some ⟨b10, 0, none⟩), .pointer (some ⟨b14, 0, none⟩), .pointer (some ⟨b4, 0, none⟩), .pointer (some ⟨b13, 0, none⟩), .pointer (some ⟨b4 + 1, 0, none⟩)]) b b13 b14 gw (70 + 1) x) hPL4.q hx (enters_of Try.func30 (by kernel_rfl) rfl)
          (fun e => by rcases e with e | e | e <;> first | (have := hPL4.q.lt _ e; omega) | omega) (fun e => by rcases e with e | e | e <;> first | (have := hPL4.q.lt _ e; omega) | omega)
          (fun r M' A V hR => ⟨hR.2.hd, hR.2.bl⟩)
          (fun A hqA hkA hsA => by
            have nb : b7 ≠ b ∧ b10 ≠ b ∧ b4 ≠ b ∧ b4 + 1 ≠ b ∧ gw ≠ b ∧ b13 ≠ b ∧ b14 ≠ b := by omega
            refine (try30 hqA (by omega) hx HC.out.1.e HC.out.2.1 (hIB.keep hkA nb.1 nb.2.1 nb.2.2.1 nb.2.2.2.1 nb.2.2.2.2.1) (hkA.blk h14 nb.2.2.2.2.2.2) (hkA.blk h13' nb.2.2.2.2.2.1) hSep hDS (hRQ.keep hkA (fun g hg e => by have hg' : gw = g := (by simpa [blkOf] using hg); exact nb.2.2.2.2.1 (by rw [hg']; exact e)) (fun g hg e => by simp [blkOf] at hg))).mono ?_
            rintro e V ⟨M', rfl, hin⟩
            exact ⟨ans, M', rfl, hin.q, hin.kp, rfl, hin⟩)
        have c4_7 : V4.cell? ⟨b7, 0, none⟩ = some (.pointer (some ⟨b, 0, none⟩)) := hPL4.k7.cell rfl
        clear hgl hb3' hg3' hB3 hB4 h13 h14 hB24 hPL4 h10lt h13lt hord ho4 hDS hSep hx hIB hrv4 hRQ h13' hb14lt h0
        go_wp2_with fail
        refine HSTEP.mono ?_
        rintro e W5 ⟨A5, V5, r5, M5, v5, u5, rfl, hk1, hsA, hk2, ⟨rfl, hin⟩, hq5, hbl5, hk3⟩
        obtain ⟨wv, ev, hr13, hrq5, hwb, heb⟩ := hin.rr
        have hord := HC.out.2.2.2.2.2.1
        have hpo := HC.out.1.o
        have hsz5 : A5.heap.size = V4.heap.size + 2 := hsA
        have nM5 : ∀ k, k < V4.heap.size → k ∉ M.bl b → k ∉ M5.bl b := fun k hk hn e => by
          rcases hin.bl k e with h | h
          · exact hn h
          · omega
        have hch : ∀ k, k < V4.heap.size → k ∉ M.bl b → k ≠ b13 → k ≠ b14 → W5.heap[k]? = V4.heap[k]? := fun k hk h1 h2 h3 => by
          have e1 := hk1.block k hk (fun e => h1 (by rw [e]; simp [Qu.bl]))
          have e2 := hk2.block k (by omega) (fun e => by rcases e with e | e | e; exact h1 e; exact h2 e; exact h3 e)
          have e3 := hk3.block k (by have := hk2.size; omega) (fun e => by rcases e with e | e; exact nM5 k hk h1 e; omega)
          rw [e3, e2, e1]
        have hsep := HC.out.2.2.2.2.1
        have n7 : b7 ∉ M.bl b := fun e => (hsep b7 e).1 rfl
        have n5 : b4 + 1 ∉ M.bl b := fun e => (hsep _ e).2.2.2.2.2.1 rfl
        have n13 : b13 ∉ M.bl b := fun e => (hsep b13 e).2.2.2.2.1 rfl
        have n14 : b14 ∉ M.bl b := fun e => (hsep b14 e).2.2.1 rfl
        have hd := HC.out.2.2.2.1
        have x7 : Blk W5 b7 25 [.pointer (some ⟨b, 0, none⟩)] := (hch b7 HC.out.1.k7.lt n7 hd.b.1 hd.b.2).trans HC.out.1.k7
        have x5 : Blk W5 (b4 + 1) 3 [iv r5] := (hch _ HC.out.1.k5.lt n5 hd.e.1 hd.e.2).trans HC.out.1.k5
        have x13 : Blk W5 b13 30 [wv, ev] := hk3.blk hr13 (fun e => by rcases e with e | e; exact nM5 b13 (by omega) n13 e; omega)
        have x14 : Blk W5 b14 4 [.bool true] := hk3.blk hin.b14 (fun e => by rcases e with e | e; exact nM5 b14 (by omega) n14 e; omega)
        have xrq : RQ W5 wv ev M5.W M5.E := hrq5.keep hk3 (fun g hg e => by
            have h1 := hwb g hg
            rcases e with e | e
            · exact h1.2 e
            · omega) (fun g hg e => by
            have h1 := heb g hg
            rcases e with e | e
            · exact h1.2 e
            · omega)
        have xbel : Below w.heap.size w W5 := by
          have hM : ∀ k ∈ M.bl b, w.heap.size ≤ k := fun k hk => by have := HC.out.1.bl k hk; omega
          have hM5 : ∀ k ∈ M5.bl b, w.heap.size ≤ k := fun k hk => by
            rcases hin.bl k hk with h | h
            · exact hM k h
            · have := HC.out.1.bel.size; omega
          have b1 := hk1.toBelow HC.out.1.bel.size (fun k hk => by omega)
          have b2 := hk2.toBelow (B := w.heap.size) (by have := HC.out.1.bel.size; omega) (fun k hk => by rcases hk with h | h | h; exact hM k h; omega; omega)
          have b3 := hk3.toBelow (B := w.heap.size) (by have := HC.out.1.bel.size; have := hk2.size; omega) (fun k hk => by rcases hk with h | h; exact hM5 k h; have := HC.out.1.bel.size; omega)
          exact ((HC.out.1.bel.trans b1).trans b2).trans b3
        have xne : ∀ k ∈ Qu.bl ⟨v5, u5, M5.W.eraseIdx 0, M5.E ++ [(x, hw r5, r5)]⟩ b, k ≠ b13 := fun k hk e => by
          rcases hbl5 k hk with h | h
          · exact nM5 b13 (by omega) n13 (by rw [← e]; exact h)
          · have := hk2.size; omega
        obtain ⟨a6, c6, a7, c7, hsw, hse⟩ := xrq.shape
        obtain ⟨n6, hn6⟩ : ∃ n6, M5.W.length = n6 := ⟨_, rfl⟩
        obtain ⟨n7', hn7⟩ : ∃ n7, M5.E.length = n7 := ⟨_, rfl⟩
        rw [hn6] at hsw
        rw [hn7] at hse
        subst hsw
        subst hse
        have HW5 : Hid (QAt W5 b ⟨v5, u5, M5.W.eraseIdx 0, M5.E ++ [(x, hw r5, r5)]⟩ .nilFunc 71 ∧ Below w.heap.size w W5 ∧ Blk W5 b7 25 [.pointer (some ⟨b, 0, none⟩)] ∧ Blk W5 (b4 + 1) 3 [iv r5] ∧ Blk W5 b13 30 [.slice a6 n6 c6, .slice a7 n7' c7] ∧ Blk W5 b14 4 [.bool true] ∧ RQ W5 (.slice a6 n6 c6) (.slice a7 n7' c7) M5.W M5.E ∧ M5.W[0]? = some x ∧ (∀ k ∈ Qu.bl ⟨v5, u5, M5.W.eraseIdx 0, M5.E ++ [(x, hw r5, r5)]⟩ b, k ≠ b13) ∧ M5.E.length + 1 ≤ 100000 ∧ (w.heap.size ≤ b13 ∧ b13 < b14 ∧ b7 < b13 ∧ b4 + 1 < b13)) := ⟨hq5, xbel, x7, x5, x13, x14, xrq, hin.hd, xne, by have h1 := hin.q.nE; have h2 := hin.q.few; have h3 := hin.q.nW; have h4 := hq5.nE; simp at h4; omega, by omega⟩
        have hal : Below W5.heap.size W5 (W5.alloc (.cells #[iv 0, iv 0, iv 0] 38)) := below_al _ _
        obtain ⟨g15, hg15⟩ : ∃ g, W5.heap.size = g := ⟨_, rfl⟩
        dsimp only
        clear HSTEP hk1 hsA hk2 hin hq5 hbl5 hk3 hr13 hrq5 hwb heb hord hpo hsz5 nM5 hch hsep n7 n5 n13 n14 hd x7 x5 x13 x14 xrq xbel xne hn6 hn7 c4_7 hV4 c10 d7 hV2 hb30
        go_wp2_with (with_reducible change wpList _ _ _ ({ dst := none, op := Op.store 38 _ _, type := _, pos := _, after := _, guard := _ } :: _) _ _; refine Hid.out ?_)
        show wpList _ _ _ _ _ _
        refine wpList_store_blk rfl 38 (.tmp 15) _ rfl g15 0 38 q0 (qd (x, hw r5, r5)) rfl rfl (by rw [← hg15]; exact Blk.new W5 _ _) (by simp [q0, qd]) size38 (qd_one _) ?_
        intro V6 hb6 hg6
        have hV6 : Below W5.heap.size W5 V6 := hal.grown hg6.out hal.size (fun j hj => by cases hj; omega)
        have HV6 : Hid (Below W5.heap.size W5 V6 ∧ Blk V6 g15 38 (qd (x, hw r5, r5)) ∧ Blk V6 b13 30 [.slice a6 n6 c6, .slice a7 n7' c7]) := ⟨hV6, hb6.out, HW5.out.2.2.2.2.1.below hV6 HW5.out.2.2.2.2.1.lt⟩
        have HRS := rstep_is (HW5.out.2.2.2.2.2.2.1.below hV6) HW5.out.2.2.2.2.2.2.2.2.2.1 HW5.out.2.2.2.2.2.2.2.1 r5
        have r0 : V6.cell? ⟨b13, 0, none⟩ = some (.slice a6 n6 c6) := HV6.out.2.2.cell rfl
        have r1 : V6.cell? ⟨b13, 1, none⟩ = some (.slice a7 n7' c7) := HV6.out.2.2.cell rfl
        have r5' : V6.cell? ⟨b4 + 1, 0, none⟩ = some (iv r5) := (HW5.out.2.2.2.1.below hV6 HW5.out.2.2.2.1.lt).cell rfl
        have HE15 : Hid (W5.heap.size = g15 ∧ b13 < W5.heap.size) := ⟨hg15, HW5.out.2.2.2.2.1.lt⟩
        clear hb6 hg6 hal hV6 hg15
        go_wp2_with fail
        refine HRS.mono ?_
        rintro e V7 ⟨wv7, ev7, rfl, hre⟩
        obtain ⟨a8, c8, a9, c9, hsw, hse⟩ := hre.1.shape
        obtain ⟨n8, hn8⟩ : ∃ n8, (M5.W.eraseIdx 0).length = n8 := ⟨_, rfl⟩
        obtain ⟨n9, hn9⟩ : ∃ n9, (M5.E ++ [(x, hw r5, r5)]).length = n9 := ⟨_, rfl⟩
        rw [hn8] at hsw
        rw [hn9] at hse
        subst hsw
        subst hse
        have HV7 : Hid (REndP V6 (M5.W.eraseIdx 0) (M5.E ++ [(x, hw r5, r5)]) (.slice a8 n8 c8) (.slice a9 n9 c9) V7 ∧ Below W5.heap.size W5 V7 ∧ Blk V7 g15 38 (qd (x, hw r5, r5)) ∧ Blk V7 b13 30 [.slice a6 n6 c6, .slice a7 n7' c7] ∧ (M5.W.eraseIdx 0).length = n8 ∧ (M5.E ++ [(x, hw r5, r5)]).length = n9) := ⟨hre, below_tr HV6.out.1 hre.2.1, HV6.out.2.1.below hre.2.1 HV6.out.2.1.lt, HV6.out.2.2.below hre.2.1 HV6.out.2.2.lt, hn8, hn9⟩
        obtain ⟨g17, hg17⟩ : ∃ g, V7.heap.size = g := ⟨_, rfl⟩
        have HG : Hid (V7.heap.size = g17) := hg17
        clear HRS hre hn8 hn9 r0 r1 r5'
        go_wp2_with (with_reducible change wpList _ _ _ ({ dst := none, op := Op.store 30 _ _, type := _, pos := _, after := _, guard := _ } :: _) _ _; refine Hid.out ?_)
        show wpList _ _ _ _ _ _
        refine wpList_store_blk rfl 30 (.tmp 13) (.tmp 60) rfl b13 0 30 [.slice a6 n6 c6, .slice a7 n7' c7] [.slice a8 n8 c8, .slice a9 n9 c9] rfl rfl (HV7.out.2.2.2.1.alloc _) (by simp) size30 (by intro u hu; simp at hu; rcases hu with rfl | rfl <;> rfl) ?_
        intro V8 hb8 hg8
        have hk8 : Keep (fun j => j = b13) V7 V8 := (Keep.below (S := fun j => j = b13) (below_al V7 (.cells #[iv 0, iv 0, iv 0] 38))).trans (Keep.grown (S := fun j => j = b13) hg8.out rfl) (fun _ hj _ => hj)
        have hlt13 := HV7.out.2.2.2.1.lt
        have h17 : Blk V8 g17 38 q0 := (show Blk (V7.alloc (.cells #[iv 0, iv 0, iv 0] 38)) g17 38 q0 by rw [← HG.out]; exact Blk.new V7 _ _).kept hg8.out (fun e => by injection e with e; have := HG.out; omega)
        have HV8 : Hid (Keep (fun j => j = b13) V7 V8 ∧ Blk V8 b13 30 [.slice a8 n8 c8, .slice a9 n9 c9] ∧ Blk V8 g17 38 q0 ∧ b13 < V7.heap.size) := ⟨hk8, hb8.out, h17, hlt13⟩
        clear hb8 hg8 hk8 hlt13 h17 hg17
        go_wp2_with (with_reducible change wpList _ _ _ ({ dst := none, op := Op.store 38 _ _, type := _, pos := _, after := _, guard := _ } :: _) _ _; refine Hid.out ?_)
        show wpList _ _ _ _ _ _
        refine wpList_store_blk rfl 38 (.tmp 17) _ rfl g17 0 38 q0 (qd (x, hw r5, r5)) rfl rfl HV8.out.2.2.1 (by simp [q0, qd]) size38 (qd_one _) ?_
        intro V9 hb9 hg9
        have hG := HG.out
        have hk9 : Keep (fun j => j = b13 ∨ j = g17) V7 V9 := (HV8.out.1.mono (fun j _ hj => .inl hj)).trans (Keep.grown (S := fun j => j = b13 ∨ j = g17) hg9.out (.inr rfl)) (fun _ hj _ => hj)
        have hk5 : Keep (fun j => j = b13) W5 V9 := (Keep.below (S := fun j => j = b13) HV7.out.2.1).trans hk9 (fun j hj hl => by rcases hj with h | h; exact h; have := HV7.out.2.1.size; omega)
        have hsz67 := HV7.out.1.2.1.size
        have h613 : b13 < V6.heap.size := HV6.out.2.2.lt
        have hq9 : QAt V9 b ⟨v5, u5, M5.W.eraseIdx 0, M5.E ++ [(x, hw r5, r5)]⟩ .nilFunc 71 := HW5.out.1.keep hk5 (fun k hk e => HW5.out.2.2.2.2.2.2.2.2.1 k hk e)
        have hrq9 : RQ V9 (.slice a8 n8 c8) (.slice a9 n9 c9) (M5.W.eraseIdx 0) (M5.E ++ [(x, hw r5, r5)]) := HV7.out.1.1.keep hk9 (fun g hg e => by
            have h1 := HV7.out.1.2.2.1 g hg
            have h2 := HV7.out.1.1.wr.lt hg
            omega) (fun g hg e => by
            have h1 := HV7.out.1.2.2.2 g hg
            have h2 := HV7.out.1.1.er.lt hg
            omega)
        have y14 := hk5.blk HW5.out.2.2.2.2.2.1 (by have := HW5.out.2.2.2.2.2.2.2.2.2.2; omega)
        have y7 := hk5.blk HW5.out.2.2.1 (by have := HW5.out.2.2.2.2.2.2.2.2.2.2; omega)
        have y13 : Blk V9 b13 30 [.slice a8 n8 c8, .slice a9 n9 c9] := HV8.out.2.1.kept hg9.out (fun e => by injection e with e; omega)
        have y15 := hk9.blk HV7.out.2.2.1 (fun e => by have h1 := HV7.out.2.2.1.lt; have h2 := HV6.out.1.size; have h3 := HW5.out.2.2.2.2.1.lt; rcases e with e | e; exact absurd e (by have := HE15.out; omega); omega)
        have HL16 : Hid (b14 < V9.heap.size ∧ b7 < V9.heap.size ∧ b13 < V9.heap.size ∧ g15 < V9.heap.size ∧ g17 < V9.heap.size) := ⟨y14.lt, y7.lt, y13.lt, y15.lt, hb9.out.lt⟩
        have k14 : V9.cell? ⟨b14, 0, none⟩ = some (.bool true) := y14.cell rfl
        have k7 : V9.cell? ⟨b7, 0, none⟩ = some (.pointer (some ⟨b, 0, none⟩)) := y7.cell rfl
        have kw : V9.cell? ⟨b13, 0, none⟩ = some (.slice a8 n8 c8) := y13.cell rfl
        have ke : V9.cell? ⟨b13, 1, none⟩ = some (.slice a9 n9 c9) := y13.cell rfl
        have HX16 : Hid (V9.rangeAt g15 0 (qd (x, hw r5, r5)) ∧ V9.rangeAt g17 0 (qd (x, hw r5, r5))) := ⟨by have := y15.range 0 3; exact this, by have := hb9.out.range 0 3; exact this⟩
        have HN16 : Hid (n8 ≤ 140737488355328) := by show _ ≤ _; have h1 := HV7.out.2.2.2.2.1; have h2 := hrq9.nW; omega
        have HW16 : Hid (∀ V, Below V9.heap.size V9 V → Calls Try.prog 23 #[.pointer (some ⟨b, 0, none⟩)] V fun e V' => ∃ aw cw2, e = .returned (.slice aw n8 cw2) ∧ Nums V' aw n8 (M5.W.eraseIdx 0) ∧ Below V.heap.size V V') := fun V hV => (waiting_is (hq9.below hV)).mono (by
          rintro e V' ⟨v, rfl, h1, h2⟩
          obtain ⟨a, c, hv, _, _, h3, _⟩ := nums_own h1
          rw [show (Qu.W ⟨v5, u5, M5.W.eraseIdx 0, M5.E ++ [(x, hw r5, r5)]⟩).length = n8 from HV7.out.2.2.2.2.1] at hv h3
          exact ⟨a, c, by rw [hv], h3, h2⟩)
        have HE16 : Hid (∀ V, Below V9.heap.size V9 V → Calls Try.prog 24 #[.pointer (some ⟨b, 0, none⟩)] V fun e V' => ∃ ae ce, e = .returned (.slice ae n9 ce) ∧ RV V' 38 3 (.slice ae n9 ce) n9 (qdC (M5.E ++ [(x, hw r5, r5)])) ∧ Below V.heap.size V V') := fun V hV => (ended_is (hq9.below hV)).mono (by
          rintro e V' ⟨v, rfl, h1, h2⟩
          rw [show (Qu.E ⟨v5, u5, M5.W.eraseIdx 0, M5.E ++ [(x, hw r5, r5)]⟩).length = n9 from HV7.out.2.2.2.2.2] at h1
          have h3 := (RV.own h1 (qdC_one _)).1
          obtain ⟨a, c, hv, h4⟩ := h3
          exact ⟨a, c, by rw [hv], ⟨a, c, rfl, h4⟩, h2⟩)
        have HRW16 : Hid (∀ V, Below V9.heap.size V9 V → Nums V a8 n8 (M5.W.eraseIdx 0)) := fun V hV => by
          obtain ⟨a, c, hv, _, _, h3⟩ := (hrq9.below hV).wr.nums
          rw [HV7.out.2.2.2.2.1] at hv h3
          cases hv
          exact h3
        have HSM16 : Hid (∀ V, Below V9.heap.size V9 V → ∀ v, RV V 38 3 v n9 (qdC (M5.E ++ [(x, hw r5, r5)])) → Calls Try.prog 21 #[v, .slice a9 n9 c9] V fun e V' => e = .returned (.bool true) ∧ Below V.heap.size V V') := fun V hV v hv => same_same (l := M5.E ++ [(x, hw r5, r5)]) (by rw [HV7.out.2.2.2.2.2]; exact hv) ((hrq9.below hV).er) hrq9.nE
        have HB9 : Hid (Below w.heap.size w V9) := HW5.out.2.1.trans (hk5.toBelow HW5.out.2.1.size (fun k hk => by have := HW5.out.2.2.2.2.2.2.2.2.2.2; omega))
        clear hb9 hg9 hG hk9 hk5 hsz67 h613 hq9 hrq9 y14 y7 y13 y15
        go_wp2_with fail
        refine inn16 HL16 k14 k7 kw ke HX16 HN16 HW16 HE16 HRW16 HSM16 ?_
        intro V10 aw10 cw10 ae10 ce10 hb10'
        have HF : Hid (Below w.heap.size w V10) := below_tr HB9.out hb10'
        clear hb10' k14 k7 kw ke
        go_wp2_with fail
        go_ret
        exact ⟨rfl, HF.out⟩
    · have HQ : Hid (i < n) := by have := HI.out.1; show _ < _; omega
      have q1 : (i : Int) < (n : Int) := by have := HQ.out; omega
      have q2 : i < n := HQ.out
      obtain ⟨ab, off, ha, hbl, hc⟩ := HL.out.2.2.2.2 (by omega)
      subst ha
      obtain ⟨x, hx⟩ : ∃ x, l[i]? = some x := ⟨_, List.getElem?_eq_getElem (by rw [HL.out.1]; exact q2)⟩
      have cx : wr.cell? ⟨ab, off + i, none⟩ = some (iv x) := (HI.out.2.bel.cell (p := ⟨ab, off + i, none⟩) hbl).trans (hc i x hx)
      clear hi hc hx hbl
      by_cases h100 : i < 70
      · have q3 : (i : Int) < 70 := by omega
        have hmin : min i 70 = i := by omega
        have hq := HI.out.2
        rw [hmin] at hq
        have HPUT := put_is hq.q (by omega) x
        have HQI : Hid (PL w wr b b7 b4 (b4 + 1) y ans M i ∧ min (i + 1) 70 = i + 1) := ⟨hq, by omega⟩
        clear h100 hmin hq
        go_wp2_with fail
        refine HPUT.mono ?_
        rintro e V ⟨rfl, v, hq1, ha1⟩
        have HV : Hid (PL w V b b7 b4 (b4 + 1) y ans ⟨v, M.ev, putW M.W x, M.E⟩ (min (i + 1) 70)) := by rw [HQI.out.2]; exact HQI.out.1.call hq1 ha1 HQI.out.1.e
        clear HPUT hq1 ha1 cx c7
        go_wp2
        go_roundw
        case rel => exact ⟨i + 1, _, by simp, HQ.out, HV.out⟩
        case measure =>
          have := HQ.out
          simp only [intOf]
          omega
      · have q3 : ¬ ((i : Int) < 70) := by omega
        have HV : Hid (PL w wr b b7 b4 (b4 + 1) y ans M (min (i + 1) 70)) := by
          have h1 := HI.out.2
          rw [show min i 70 = min (i + 1) 70 by omega] at h1
          exact h1
        clear h100
        go_wp2
        go_roundw
        case rel => exact ⟨i + 1, M, by simp, HQ.out, HV.out⟩
        case measure =>
          have := HQ.out
          simp only [intOf]
          omega
#print axioms inner_law
end Go.Proofs.Ytipipckbcelphaa.Oct
