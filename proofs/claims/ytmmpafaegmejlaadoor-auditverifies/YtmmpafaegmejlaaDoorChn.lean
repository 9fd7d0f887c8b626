/-
  Layer 19 (audit): the law AuditChain.
-/
import Derived.Test.YtmmpafaegmejlaaDoorChr
namespace Go.Proofs.YtmmpafaegmejlaaDoor.Oct
open Go.RowKit Sha
set_option linter.unusedSimpArgs false
set_option linter.unusedVariables false

/-- where a log and the row that was told of it stand -/
def CI (w : World) (B L c i : Nat) (es : List En) (vl : Value) (a4 : Option Addr) (c4 : Nat) (wr : World) : Prop :=
  Lg wr B L c vl es ∧ OwE wr B (.slice a4 es.length c4) es ∧ (∀ g, (Value.slice a4 es.length c4).ownBlock = some g → g ≠ c ∧ vl.ownBlock ≠ some g) ∧ es.length ≤ i ∧ (∀ j, j < es.length → okAt es j) ∧ Below w.heap.size w wr ∧ w.heap.size ≤ B ∧ B ≤ wr.heap.size
theorem CI.below {w wr wr' : World} {B L c i : Nat} {es : List En} {vl : Value} {a4 : Option Addr} {c4 : Nat} (h : CI w B L c i es vl a4 c4 wr) (hb : Below wr.heap.size wr wr') : CI w B L c i es vl a4 c4 wr' :=
  ⟨h.1.below hb, h.2.1.below hb, h.2.2.1, h.2.2.2.1, h.2.2.2.2.1, below_tr h.2.2.2.2.2.1 hb, h.2.2.2.2.2.2.1, Nat.le_trans h.2.2.2.2.2.2.2 hb.size⟩
/-- what an Append leaves -/
def CJ (w : World) (B L c i : Nat) (es fs : List En) (vl : Value) (a4 : Option Addr) (c4 : Nat) (wr : World) : Prop :=
  Lg wr B L c vl fs ∧ OwE wr B (.slice a4 es.length c4) es ∧ fs.take es.length = es ∧ es.length ≤ fs.length ∧ fs.length ≤ i + 1 ∧ (∀ j, j < fs.length → okAt fs j) ∧ Below w.heap.size w wr ∧ w.heap.size ≤ B ∧ B ≤ wr.heap.size
theorem CJ.below {w wr wr' : World} {B L c i : Nat} {es fs : List En} {vl : Value} {a4 : Option Addr} {c4 : Nat} (h : CJ w B L c i es fs vl a4 c4 wr) (hb : Below wr.heap.size wr wr') : CJ w B L c i es fs vl a4 c4 wr' :=
  ⟨h.1.below hb, h.2.1.below hb, h.2.2.1, h.2.2.2.1, h.2.2.2.2.1, h.2.2.2.2.2.1, below_tr h.2.2.2.2.2.2.1 hb, h.2.2.2.2.2.2.2.1, Nat.le_trans h.2.2.2.2.2.2.2.2 hb.size⟩
theorem CI.app {w wr wr' : World} {B L c i : Nat} {es : List En} {vl : Value} {a4 : Option Addr} {c4 : Nat} {tick : Int} {who what : BA} {e : Ending} (h : CI w B L c i es vl a4 c4 wr) (hp : ApP wr B L c vl es (nxE es tick who what) e wr') : ∃ vl', CJ w B L c i es (lA es (nxE es tick who what)) vl' a4 c4 wr' := by
  obtain ⟨_, v', h1, h2, h3⟩ := hp
  have hS : ∀ k, SC c vl k → B ≤ k := fun k hk => by
    rcases hk with rfl | hk
    · exact h.1.bc
    · exact (h.1.row.lt hk).1
  refine ⟨v', h1, h.2.1.same fun g hg => h3.block g (h.2.1.lt hg).2 fun hk => ?_, lA_take _ _, (lA_len _ _).2, by have := (lA_len es (nxE es tick who what)).1; have := h.2.2.2.1; omega, ok_step h.2.2.2.2.1, h.2.2.2.2.2.1.trans (h3.toBelow (Nat.le_trans h.2.2.2.2.2.2.1 h.2.2.2.2.2.2.2) fun k hk => Nat.le_trans h.2.2.2.2.2.2.1 (hS k hk)), h.2.2.2.2.2.2.1, Nat.le_trans h.2.2.2.2.2.2.2 h3.size⟩
  have := h.2.2.1 g hg
  rcases hk with hk | hk
  · exact this.1 hk
  · exact this.2 hk
theorem CJ.next {w wr wr' : World} {B L c i : Nat} {es fs : List En} {vl : Value} {a4 a7 : Option Addr} {c4 c7 : Nat} (h : CJ w B L c i es fs vl a4 c4 wr) (hb : Below wr.heap.size wr wr') (h7 : OwE wr' wr.heap.size (.slice a7 fs.length c7) fs) : CI w B L c (i + 1) fs vl a7 c7 wr' := by
  have hh := h.below hb
  refine ⟨hh.1, h7.mono h.2.2.2.2.2.2.2.2, fun g hg => ?_, h.2.2.2.2.1, h.2.2.2.2.2.1, hh.2.2.2.2.2.2.1, hh.2.2.2.2.2.2.2.1, hh.2.2.2.2.2.2.2.2⟩
  have hl := (h7.lt hg).1
  refine ⟨fun e => ?_, fun e => ?_⟩
  · have := h.1.ch.lt; omega
  · have := (h.1.row.lt e).2; omega
set_option maxRecDepth 100000 in
set_option maxHeartbeats 4000000 in
theorem chain_law {w : World} {a : Option Addr} {n cap : Nat} {l : List ActV} (h : ArgA w a n cap l) (hk : KT w) (hs : ST w) : Calls Tryd.prog 5 #[.slice a n cap] w fun e w' => e = .returned (.bool true) ∧ Below w.heap.size w w' := by
  have HA : Hid (ArgA w a n cap l) := h
  have HK : Hid (KT w ∧ ST w) := ⟨hk, hs⟩
  have qn : (n : Int) ≤ 140737488355328 := by have := h.2.1; omega
  obtain ⟨Z, hZ, HZ⟩ := zero29
  clear h hk hs
  go_enter Tryd.func5, Tryd.ntmps5
  go_wp2_with fail
  refine (few_is HA.out).mono ?_
  rintro e X ⟨b, rfl, -, hbx⟩
  have HX : Hid (Below w.heap.size w X) := hbx
  clear hbx
  cases b
  · go_wp2_with fail
    refine (lives_is X (HK.out.1.below HX.out) (HK.out.2.below HX.out)).mono ?_
    rintro e X2 ⟨rfl, hb2⟩
    have HF : Hid (Below w.heap.size w X2) := below_tr HX.out hb2
    clear hb2
    go_wp2
    go_ret
    exact ⟨rfl, HF.out⟩
  · go_wp2_with fail
    refine (new_log X).mono ?_
    rintro e X2 ⟨L, c, rfl, hlg, hb2⟩
    have H2 : Hid (CI w X.heap.size L c 0 [] (.slice none 0 0) none 0 X2) := ⟨hlg.out, OwE.nil _ _, (fun g hg => nomatch hg), Nat.le_refl _, (fun j hj => absurd hj (Nat.not_lt_zero j)), below_tr HX.out hb2, HX.out.size, hb2.size⟩
    clear hlg hb2
    obtain ⟨B, hB⟩ : ∃ B, X.heap.size = B := ⟨_, rfl⟩
    rw [hB] at H2
    clear hB HX
    go_wp2
    go_loopw [16, 4] (fun u t wr => ∃ (i : Nat) (es : List En) (vl : Value) (a4 : Option Addr) (c4 m : Nat), u = iv (i : Int) ∧ t = .slice a4 m c4 ∧ Hid (i ≤ n ∧ es.length = m ∧ CI w B L c i es vl a4 c4 wr)) (fun u _ _ => n - (intOf u).toNat)
    case atStart => exact ⟨0, [], _, none, 0, 0, rfl, rfl, Nat.zero_le _, rfl, H2.out⟩
    case round =>
      obtain ⟨i, es, vl, a4, c4, m, rfl, rfl, HI⟩ := hrel
      clear H2
      by_cases hi : i = n
      · have q1 : (n : Int) ≤ (i : Int) := by omega
        have qm : (m : Int) ≤ 5000 := by have := HI.out.2.2.1.len; have := HI.out.2.1; omega
        have qmn : (m : Int) ≤ (n : Int) := by have := HI.out.2.2.2.2.2.1; have := HI.out.2.1; omega
        subst hi
        go_wp2
        obtain ⟨W0, hW0⟩ : ∃ W0, W0 = wr := ⟨_, rfl⟩
        subst hW0
        go_loopw [60] (fun u wq => ∃ j : Nat, u = iv (j : Int) ∧ Hid (j ≤ m ∧ Below W0.heap.size W0 wq)) (fun u _ => m - (intOf u).toNat)
        case atStart => exact ⟨0, rfl, Nat.zero_le _, Below.refl _ _⟩
        case round =>
          obtain ⟨j, rfl, HJ⟩ := hrel
          by_cases hj : j = m
          · have q2 : (m : Int) ≤ (j : Int) := by omega
            have HF : Hid (Below w.heap.size w wr ∧ KT wr ∧ ST wr) := by
              have h := below_tr HI.out.2.2.2.2.2.2.2.1 HJ.out.2
              exact ⟨h, HK.out.1.below h, HK.out.2.below h⟩
            clear hj
            go_wp2_with fail
            refine (lives_is _ HF.out.2.1 HF.out.2.2).mono ?_
            rintro e X3 ⟨rfl, hb3⟩
            have HG : Hid (Below w.heap.size w X3) := below_tr HF.out.1 hb3
            clear hb3
            go_wp2
            go_ret
            exact ⟨rfl, HG.out⟩
          · have hjm : j < m := by have := HJ.out.1; omega
            have q2 : (j : Int) < (m : Int) := by omega
            obtain ⟨cc, hcut, hes⟩ := cut_is HI.out.2.2.2.1.esr j (by have := HI.out.2.1; omega)
            have HES : Hid (EsR W0 (.slice a4 j cc) (es.take j) ∧ j < m) := ⟨hes, hjm⟩
            rw [HI.out.2.1] at hcut
            clear hj hjm hes
            go_wp2_with fail
            refine (verify_k (vf_ok (ok_take HI.out.2.2.2.2.2.2.1 j)) (HES.out.1.below HJ.out.2) (fun e he => HI.out.2.2.1.sz e (List.mem_of_mem_take he)) (by rw [List.length_take]; have := HI.out.2.2.1.len; omega) (HK.out.1.below (below_tr HI.out.2.2.2.2.2.2.2.1 HJ.out.2)) (HK.out.2.below (below_tr HI.out.2.2.2.2.2.2.2.1 HJ.out.2))).mono ?_
            rintro e X3 ⟨rfl, hb3⟩
            have HG : Hid (j + 1 ≤ m ∧ Below W0.heap.size W0 X3) := ⟨HES.out.2, below_tr HJ.out.2 hb3⟩
            clear hb3
            go_wp2
            go_roundw
            case rel => exact ⟨j + 1, rfl, HG.out⟩
            case measure => show m - (j + 1) < m - j; have := HES.out.2; omega
      · have hlt : i < n := by have := HI.out.1; omega
        have q1 : (i : Int) < (n : Int) := by omega
        obtain ⟨x, hx⟩ : ∃ x, l[i]? = some x := ⟨_, List.getElem?_eq_getElem (by rw [HA.out.1]; exact hlt)⟩
        obtain ⟨b, off, rfl, hb, hel⟩ := HA.out.2.2.2 (by omega)
        have hok := HA.out.2.2.1 x (List.mem_of_getElem? hx)
        have HX : Hid (wr.rangeAt b (off + i * 4) x.cells ∧ i < n ∧ x.ok) := ⟨rangeAt_same (hel i x hx) (HI.out.2.2.2.2.2.2.2.1.block b hb), hlt, hok⟩
        obtain ⟨g6, hg6⟩ : ∃ g, wr.heap.size = g := ⟨_, rfl⟩
        have HG6 : Hid (wr.heap.size = g6) := hg6
        clear hi hlt hx hel hb hok
        go_wp2_with (with_reducible change wpList _ _ _ ({ dst := some 19, op := _, type := _, pos := _, after := _, guard := _ } :: _) _ _; refine Hid.out ?_)
        show wpList _ _ _ _ _ _
        refine wpList_load_mid rfl 29 (.tmp 18) rfl b (off + i * 4) rfl x.cells _ HX.out.1 Tryd.underlying29 rfl (size29 x) ?_
        go_wp2_with (with_reducible change wpList _ _ _ ({ dst := none, op := Op.store 29 _ _, type := _, pos := _, after := _, guard := _ } :: _) _ _; refine Hid.out ?_)
        show wpList _ _ _ _ _ _
        refine wpList_store_blk rfl 29 (.tmp 6) (.tmp 19) rfl g6 0 29 Z x.cells rfl rfl (by rw [← HG6.out]; exact Blk.new wr _ _) (by rw [HZ.out]; exact Nat.le_refl _) (size29 x) x.one ?_
        intro W1 hx1 hg1
        have H1 : Hid (CI w B L c i es vl a4 c4 W1 ∧ Blk W1 g6 29 x.cells ∧ KT W1 ∧ ST W1) := by
          have hb1 : Below wr.heap.size wr W1 := below_gr (below_al wr _) hg1.out (by rw [HG6.out]; exact Nat.le_refl _)
          have h := HI.out.2.2.below hb1
          exact ⟨h, blk_all hx1.out (by rw [HZ.out]; rfl), HK.out.1.below h.2.2.2.2.2.1, HK.out.2.below h.2.2.2.2.2.1⟩
        have c0 : W1.cell? ⟨g6, 0, none⟩ = some (iv x.tick) := H1.out.2.1.cell rfl
        have c1 : W1.cell? ⟨g6, 1, none⟩ = some (.string x.who) := H1.out.2.1.cell rfl
        have c2 : W1.cell? ⟨g6, 2, none⟩ = some (.string x.what) := H1.out.2.1.cell rfl
        clear hx1 hg1 hg6
        go_wp2_with fail
        refine (append_is H1.out.1.1 H1.out.2.2.1 H1.out.2.2.2 H1.out.1.2.2.2.2.2.2.2 x.tick x.who x.what HX.out.2.2.2.1 HX.out.2.2.2.2 HX.out.2.2.1.2).mono ?_
        intro e W2 hap
        have he := hap.1
        subst he
        obtain ⟨vl2, hj⟩ := H1.out.1.app hap
        obtain ⟨fs, hfs⟩ : ∃ fs, lA es (nxE es x.tick x.who x.what) = fs := ⟨_, rfl⟩
        rw [hfs] at hj
        have HJ : Hid (CJ w B L c i es fs vl2 a4 c4 W2 ∧ KT W2 ∧ ST W2) := ⟨hj, HK.out.1.below hj.2.2.2.2.2.2.1, HK.out.2.below hj.2.2.2.2.2.2.1⟩
        clear hap hj hfs c0 c1 c2
        dsimp only
        go_wp2_with fail
        refine (entries_is HJ.out.1.1).mono ?_
        rintro e W3 ⟨v7, rfl, ho7, hb3⟩
        obtain ⟨_, a7, c7, rfl, hle7, hcap7, hr7⟩ := ho7.out.esr
        obtain ⟨k, hk7⟩ : ∃ k, fs.length = k := ⟨_, rfl⟩
        have HN : Hid (CI w B L c (i + 1) fs vl2 a7 c7 W3 ∧ CJ w B L c i es fs vl2 a4 c4 W3 ∧ KT W3 ∧ ST W3 ∧ fs.length = k) := ⟨HJ.out.1.next hb3 ho7.out, HJ.out.1.below hb3, HJ.out.2.1.below hb3, HJ.out.2.2.below hb3, hk7⟩
        have qk : (k : Int) ≤ 5000 := by have := HN.out.1.1.len; omega
        have qm : (m : Int) ≤ (k : Int) := by have := HN.out.2.1.2.2.2.1; have := HI.out.2.1; omega
        obtain ⟨cc, hcut, hes⟩ := cut_is HN.out.1.2.1.esr m (by omega)
        have HES : Hid (EsR W3 (.slice a7 m cc) es) := by
          show EsR W3 _ es
          have e : fs.take m = es := by rw [← HI.out.2.1]; exact HN.out.2.1.2.2.1
          rw [e] at hes
          exact hes
        rw [hk7] at hcut ⊢
        clear ho7 hb3 hle7 hcap7 hr7 hes hk7
        go_wp2_with fail
        have hv := verify_k (vf_ok HN.out.1.2.2.2.2.1) HN.out.1.2.1.esr HN.out.1.1.sz (by have := HN.out.1.1.len; omega) HN.out.2.2.1 HN.out.2.2.2.1
        rw [HN.out.2.2.2.2] at hv
        refine hv.mono ?_
        clear hv
        rintro e W4 ⟨rfl, hb4⟩
        have H4 : Hid (Below W3.heap.size W3 W4) := hb4
        clear hb4
        obtain ⟨D, hD⟩ : ∃ D, hdE fs = D := ⟨_, rfl⟩
        have HD : Hid (hdE fs = D) := hD
        clear hD
        go_wp2_with fail
        refine (headL_is (HN.out.1.1.below H4.out) (HN.out.2.2.1.below H4.out) (HN.out.2.2.2.1.below H4.out) D HD.out).mono ?_
        rintro e W5 ⟨rfl, hb5⟩
        have H5 : Hid (Below W3.heap.size W3 W5) := below_tr H4.out hb5
        clear hb5 H4
        go_wp2_with fail
        have hh := holds_is (w := W5) (HN.out.1.2.1.esr.below H5.out) HN.out.1.1.sz (by have := HN.out.1.1.len; omega) (HN.out.2.2.1.below H5.out) (HN.out.2.2.2.1.below H5.out) (Dh := D) (by rw [← HD.out]; exact hdE_len fs) true ⟨fun _ => ⟨HN.out.1.2.2.2.2.1, HD.out⟩, fun _ => rfl⟩
        rw [HN.out.2.2.2.2] at hh
        refine hh.mono ?_
        clear hh
        rintro e W6 ⟨rfl, hb6⟩
        have H6 : Hid (Below W3.heap.size W3 W6) := below_tr H5.out hb6
        clear hb6 H5
        go_wp2_with fail
        have hsm := same_is (w := W6) (HES.out.below H6.out) ((HN.out.2.1.below H6.out).2.1.esr) (by have := HI.out.2.1; omega) (by have := HI.out.2.1; omega) true ⟨fun _ => rfl, fun _ => rfl⟩
        rw [HI.out.2.1] at hsm
        refine hsm.mono ?_
        clear hsm
        rintro e W7 ⟨rfl, hb7⟩
        have H7 : Hid (i + 1 ≤ n ∧ fs.length = k ∧ CI w B L c (i + 1) fs vl2 a7 c7 W7) := ⟨HX.out.2.1, HN.out.2.2.2.2, HN.out.1.below (below_tr H6.out hb7)⟩
        clear hb7 H6
        go_wp2
        go_roundw
        case rel => exact ⟨i + 1, fs, vl2, a7, c7, k, rfl, rfl, H7.out⟩
        case measure => show n - (i + 1) < n - i; have := HX.out.2.1; omega
#print axioms chain_law
end Go.Proofs.YtmmpafaegmejlaaDoor.Oct
