/-
  Layer 16 (token): TokenUnlike.
-/
import Derived.Test.YtjeahlfmapacfaaDoorRws
namespace Go.Proofs.YtjeahlfmapacfaaDoor.Oct
open Go.RowKit Sha
set_option linter.unusedSimpArgs false
set_option linter.unusedVariables false

theorem own_ne {w : World} {B m g : Nat} {v : Value} {l : List St1} {k : Kv} (h : OwS w B v l) (hm : MP w m k) (hg : v.ownBlock = some g) : g ≠ m := by
  intro e
  subst e
  obtain ⟨es, ⟨clock, h1, _⟩, _⟩ := hm
  rcases h.1.2 with ⟨rfl, _⟩ | ⟨b, _, _, rfl, _, h2, _⟩
  · cases hg
  · have : b = g := Option.some.inj hg
    subst this
    rw [h1] at h2
    cases h2
def keys (S : List UInt8) (G : List Gr) : List (List UInt8) := (kvs S 0 G).map (·.1)
theorem keys_at {S : List UInt8} : ∀ (k : Nat) (G : List Gr) (j : Nat) (h : List UInt8), ((kvs S k G).map (·.1))[j]? = some h → ∃ g, j < G.length ∧ h = keyG S (k + j) g
  | k, [], j, h, e => by simp [kvs] at e
  | k, g :: r, 0, h, e => by simp [kvs] at e; exact ⟨g, by simp, e.symm⟩
  | k, g :: r, j + 1, h, e => by
    simp only [kvs, List.map_cons, List.getElem?_cons_succ] at e
    obtain ⟨x, h1, h2⟩ := keys_at (k + 1) r j h e
    exact ⟨x, by simpa using h1, by rw [h2, show k + 1 + j = k + (j + 1) by omega]⟩
/-- a book lies below a place -/
def BkIn (w : World) (b m F : Nat) : Prop := ∃ a n c, Blk w b 57 [.slice a n c, .map (some m)] ∧ b < F ∧ m < F ∧ F ≤ w.heap.size ∧ (0 < n → ∀ x, a = some x → x.block < F)
theorem BkAt.lies {w : World} {b m : Nat} {S : List UInt8} {G : List Gr} (h : BkAt w b m S G) : BkIn w b m w.heap.size := by
  obtain ⟨a, n, c, h1, h2, _⟩ := h.sec
  refine ⟨a, n, c, h1, h1.lt, h.map.lt, Nat.le_refl _, fun hn x hx => ?_⟩
  obtain ⟨sb, off, e1, e2, _⟩ := h2.2.2.2.2 hn
  rw [hx] at e1
  cases e1
  exact e2
theorem BkIn.below {w w' : World} {b m F : Nat} (h : BkIn w b m F) (hb : Below w.heap.size w w') : BkIn w' b m F := by
  obtain ⟨a, n, c, h1, h2, h3, h4, h5⟩ := h
  exact ⟨a, n, c, h1.below hb h1.lt, h2, h3, Nat.le_trans h4 hb.size, h5⟩
theorem BkIn.turn {w w' : World} {b m F : Nat} {l : Kv} (h : BkIn w b m F) (hm : MP w m l) (hg : w.grownBy w' (some m)) : BkIn w' b m F := by
  obtain ⟨a, n, c, h1, h2, h3, h4, h5⟩ := h
  have hbm : b ≠ m := fun e => by subst e; exact mp_not_cells hm (h1.cell (i := 0) rfl)
  exact ⟨a, n, c, h1.kept hg (by simpa using hbm), h2, h3, Nat.le_trans h4 hg.size, h5⟩
theorem BkAt.belowF {w w' : World} {b m F : Nat} {S : List UInt8} {G : List Gr} (h : BkAt w b m S G) (k : BkIn w b m F) (hb : Below F w w') : BkAt w' b m S G ∧ BkIn w' b m F := by
  obtain ⟨a, n, c, h1, h2, h3, h4, h5⟩ := k
  obtain ⟨a', n', c', g1, g2, g3⟩ := h.sec
  have e := g1.symm.trans h1
  simp only [Option.some.injEq, Obj.cells.injEq, List.cons.injEq, Value.slice.injEq, and_true, List.toArray_inj, Array.mk.injEq] at e
  obtain ⟨rfl, rfl, rfl⟩ := e
  have hb1 : Blk w' b 57 [.slice a' n' c', .map (some m)] := (hb.block b h2).trans h1
  refine ⟨⟨⟨a', n', c', hb1, ?_, g3⟩, h.map.same (hb.block m h3), h.few, h.ok⟩, ⟨a', n', c', hb1, h2, h3, Nat.le_trans h4 hb.size, h5⟩⟩
  refine ⟨g2.1, g2.2.1, g2.2.2.1, g2.2.2.2.1, fun hp => ?_⟩
  obtain ⟨sb, off, e1, e2, e3⟩ := g2.2.2.2.2 hp
  have hsb : sb < F := h5 hp _ e1
  exact ⟨sb, off, e1, Nat.lt_of_lt_of_le e2 hb.size, fun i cc hcc => (World.cell?_of_block (a := ⟨sb, off + i, none⟩) (hb.block sb hsb)).trans (e3 i cc hcc)⟩
/-- what the law keeps: a book, and the texts that it gave out -/
structure UK (w : World) (F b m : Nat) (S : List UInt8) (G : List Gr) (v : Value) (L : List St1) (wr : World) : Prop where
  bel : Below w.heap.size w wr
  bk : BkAt wr b m S G
  le : w.heap.size ≤ m
  own : OwS wr F v L
  lo : BkIn wr b m F
  hF : w.heap.size ≤ F
  eq : L.map (fun x => x.s.data.toList) = keys S G
theorem UK.len {w wr : World} {F b m : Nat} {S : List UInt8} {G : List Gr} {v : Value} {L : List St1} (h : UK w F b m S G v L wr) : L.length = G.length := by
  have := congrArg List.length h.eq
  unfold keys at this
  rw [List.length_map, List.length_map, kvs_len] at this
  exact this
theorem UK.below {w wr wr' : World} {F b m : Nat} {S : List UInt8} {G : List Gr} {v : Value} {L : List St1} (h : UK w F b m S G v L wr) (hb : Below wr.heap.size wr wr') : UK w F b m S G v L wr' := ⟨below_tr h.bel hb, h.bk.below hb, h.le, h.own.below hb, h.lo.below hb, h.hF, h.eq⟩
set_option maxRecDepth 100000 in
set_option maxHeartbeats 2000000 in
theorem unlike_law {w : World} {a a1 : Option Addr} {n cp n1 cp1 : Nat} {S : List UInt8} {us : List St1} (hS : In w a n cp S) (hU : SsR w a1 n1 us) (hV : VT w) : Calls Tryd.prog 6 #[.slice a n cp, .slice a1 n1 cp1] w fun e w' => e = .returned (.bool true) ∧ Below w.heap.size w w' := by
  have HV : Hid (VT w) := hV
  have HS : Hid (In w a n cp S) := hS
  have HU : Hid (SsR w a1 n1 us) := hU
  have qn : (n : Int) ≤ 140737488355328 := by have := hS.2.2.1; omega
  have qn1 : (n1 : Int) ≤ 140737488355328 := by have := hU.2.1; omega
  clear hV hS hU
  by_cases hb1 : (1000 : Int) < (n : Int)
  · go_enter Tryd.func6, Tryd.ntmps6
    go_wp2_with fail
    refine (lives_is w (HV.out.below (Below.refl _ _))).mono ?_
    rintro e WL ⟨rfl, hbL⟩
    have HBL : Hid (Below w.heap.size w WL) := below_tr (Below.refl _ _) hbL
    clear hbL
    go_wp2
    go_ret
    exact ⟨rfl, HBL.out⟩
  have q1000 : (n : Int) ≤ 1000 := by omega
  by_cases hb2 : (60 : Int) < (n1 : Int)
  · clear hb1
    go_enter Tryd.func6, Tryd.ntmps6
    go_wp2_with fail
    refine (lives_is w (HV.out.below (Below.refl _ _))).mono ?_
    rintro e WL ⟨rfl, hbL⟩
    have HBL : Hid (Below w.heap.size w WL) := below_tr (Below.refl _ _) hbL
    clear hbL
    go_wp2
    go_ret
    exact ⟨rfl, HBL.out⟩
  have q60 : (n1 : Int) ≤ 60 := by omega
  have HZ : Hid (n ≤ 1000 ∧ n1 ≤ 60) := ⟨by omega, by omega⟩
  clear hb1 hb2 qn qn1
  go_enter Tryd.func6, Tryd.ntmps6
  go_wp2_with fail
  refine (newtok_is HS.out (by have := HZ.out; omega)).mono ?_
  rintro e W1 ⟨b, m, rfl, hB1, hbl1, hm1⟩
  obtain ⟨F, hF⟩ : ∃ F, W1.heap.size = F := ⟨_, rfl⟩
  have H1 : Hid (UK w F b m S [] (.slice none 0 0) [] W1) := ⟨hbl1, hB1, hm1, OwS.nil _ _, by rw [← hF]; exact hB1.lies, by rw [← hF]; exact hbl1.size, rfl⟩
  clear hB1 hbl1 hm1 hF
  go_wp2_with fail
  go_loopw [26, 6] (fun i v wr => ∃ (k : Nat) (x : Value) (ad : Option Addr) (ln cc : Nat), i = iv (k : Int) ∧ x = v ∧ x = .slice ad ln cc ∧ (k : Int) ≤ (n1 : Int) ∧ (ln : Int) ≤ (k : Int) ∧ Hid (∃ G L, UK w F b m S G x L wr ∧ L.length = ln ∧ G.length = ln)) (fun i _ _ => n1 - (intOf i).toNat)
  case atStart => exact ⟨0, _, none, 0, 0, rfl, rfl, rfl, by omega, by omega, [], [], H1.out, rfl, rfl⟩
  case round =>
    obtain ⟨k, xx, ad, ln, cc, rfl, rfl, rfl, qk, qln, HG⟩ := hrel
    obtain ⟨G, L, hUK, hLn, hGn⟩ := HG.out
    have HT : Hid (UK w F b m S G (.slice ad ln cc) L wr ∧ L.length = ln ∧ G.length = ln) := ⟨hUK, hLn, hGn⟩
    clear hUK hLn hGn HG
    by_cases hk : k = n1
    · subst hk
      go_wp2_with fail
      refine (len_is HT.out.1.bk).mono ?_
      rintro e W2 ⟨rfl, rfl⟩
      have hll : (G.length : Int) = (ln : Int) := by rw [HT.out.2.2]
      rw [hll]
      clear hll
      go_wp2_with fail
      refine (lives_is wr (HV.out.below HT.out.1.bel)).mono ?_
      rintro e WL ⟨rfl, hbL⟩
      have HBL : Hid (Below w.heap.size w WL) := below_tr HT.out.1.bel hbL
      clear hbL
      go_wp2
      go_ret
      exact ⟨rfl, HBL.out⟩
    · have q5 : (k : Int) < (n1 : Int) := by omega
      obtain ⟨y, hy⟩ : ∃ y, us[k]? = some y := ⟨_, List.getElem?_eq_getElem (by rw [HU.out.1]; omega)⟩
      obtain ⟨ub, uo, rfl, hub, huc⟩ := HU.out.2.2.2 (by omega)
      have hc0 := huc k y hy 0 _ rfl
      rw [Nat.mul_one] at hc0
      have cu : wr.cell? ⟨ub, uo + k, none⟩ = some (.string y.s) := (HT.out.1.bel.cell (p := ⟨ub, uo + k, none⟩) hub).trans hc0
      have hyo := HU.out.2.2.1 y (List.mem_of_getElem? hy)
      obtain ⟨ys, hys⟩ : ∃ s, y.s = s := ⟨_, rfl⟩
      rw [hys] at cu
      have qys : (ys.size : Int) ≤ 140737488355328 := by have : y.s.size ≤ _ := hyo; rw [hys] at this; omega
      have HK : Hid (k < n1 ∧ ln ≤ k ∧ k < 60) := ⟨by omega, by omega, by have := HZ.out.2; omega⟩
      clear hk hy hub huc hc0 hyo hys
      by_cases hsm : (100 : Int) < (ys.size : Int)
      · go_wp2
        go_roundw
        case rel => exact ⟨k + 1, _, ad, ln, cc, by simp, rfl, rfl, by have := HK.out; omega, by have := HK.out; omega, G, L, HT.out⟩
        case measure => have := HK.out.1; simp only [intOf]; omega
      have hsm2 : (ys.size : Int) ≤ 100 := by omega
      clear hsm
      go_wp2_with fail
      refine (issue_is HT.out.1.bk (HV.out.below HT.out.1.bel) ys (by omega) 1 2).mono ?_
      intro e W2 hi
      rcases hi with ⟨hne, rfl, hb2⟩ | ⟨h0, X, hX, rfl, hB2, hg2⟩
      · obtain ⟨E, hE⟩ : ∃ E, issE G ys 1 2 = E := ⟨_, rfl⟩
        rw [hE] at hne ⊢
        have hne2 : (E != 0) = true := by simpa using hne
        have H2 : Hid (UK w F b m S G (.slice ad ln cc) L W2) := HT.out.1.below hb2
        clear hb2 hE hne cu
        go_wp2
        go_roundw
        case rel => exact ⟨k + 1, _, ad, ln, cc, by simp, rfl, rfl, by have := HK.out; omega, by have := HK.out; omega, G, L, H2.out, HT.out.2⟩
        case measure => have := HK.out.1; simp only [intOf]; omega
      · have hX2 : X.data.toList = keyG S ln ⟨ys, 2, false⟩ := by rw [← HT.out.2.2]; exact hX
        have hown2 : OwS W2 F (.slice ad ln cc) L := HT.out.1.own.same (fun g hg => hg2.block g (HT.out.1.own.lt hg).2 (by have := own_ne HT.out.1.own HT.out.1.bk.map hg; simpa using this))
        have zX : X.size ≤ 140737488355328 := by
          have e1 : X.data.toList.length = X.size := rfl
          rw [hX2] at e1
          have := key_len (S := S) (k := ln) (g := ⟨ys, 2, false⟩) (by have := HK.out; omega) (by show 2 ≤ _; omega)
          have e2 : (Gr.mk ys 2 false).u.size = ys.size := rfl
          omega
        have H2 : Hid (Below w.heap.size w W2 ∧ BkAt W2 b m S (G ++ [⟨ys, 2, false⟩]) ∧ OwS W2 F (.slice ad ln cc) L ∧ X.data.toList = keyG S ln ⟨ys, 2, false⟩ ∧ w.heap.size ≤ m ∧ X.size ≤ 140737488355328 ∧ BkIn W2 b m F ∧ F ≤ W2.heap.size) := ⟨below_gr HT.out.1.bel hg2 HT.out.1.le, hB2, hown2, hX2, HT.out.1.le, zX, HT.out.1.lo.turn HT.out.1.bk.map hg2, Nat.le_trans (by obtain ⟨_, _, _, _, _, _, h, _⟩ := HT.out.1.lo; exact h) hg2.size⟩
        clear h0 hX hX2 hB2 hg2 hown2 cu zX
        have HR : Hid (SlR W2 (.slice ad L.length cc) L) := by have := H2.out.2.2.1.esr; rw [← HT.out.2.1] at this; exact this
        have HLR : Hid (0 < ln → ∃ b2 off, ad = some ⟨b2, off, none⟩ ∧ b2 < W2.heap.size ∧ ∀ i x, L[i]? = some x → W2.rangeAt b2 (off + i * 1) x.cells) := by
          obtain ⟨_, a', cap', heq, _, _, hr⟩ := HR.out
          cases heq
          rw [HT.out.2.1] at hr
          exact hr
        obtain ⟨W0, hW0⟩ : ∃ W0, wr = W0 := ⟨_, rfl⟩
        subst hW0
        go_wp2_with fail
        go_loopw [43] (fun i wr2 => ∃ j : Nat, i = iv (j : Int) ∧ (j : Int) ≤ (ln : Int) ∧ Hid (W2 = wr2)) (fun i _ => ln - (intOf i).toNat)
        case atStart => exact ⟨0, rfl, by omega, rfl⟩
        case round =>
          obtain ⟨j, rfl, qj, HJ⟩ := hrel
          obtain rfl := HJ.out
          clear HJ
          by_cases hj : j = ln
          · subst hj
            go_wp2_with (with_reducible change wpList _ _ _ ({ dst := some 53, op := _, type := _, pos := _, after := _, guard := _ } :: _) _ _; refine Hid.out ?_)
            show wpList _ _ _ _ _ _
            refine wpList_bs rfl (.tmp 52) rfl X rfl ?_
            have HO6 : Hid (OwS (W2.alloc (.cells (St1.mk X).cells.toArray 9)) F (.slice ad j cc) L ∧ SlR (W2.alloc (.cells (St1.mk X).cells.toArray 9)) (.slice (some ⟨W2.heap.size, 0, none⟩) 1 1) [⟨X⟩] ∧ Below w.heap.size w (W2.alloc (.cells (St1.mk X).cells.toArray 9)) ∧ F ≤ (W2.alloc (.cells (St1.mk X).cells.toArray 9)).heap.size ∧ BkAt (W2.alloc (.cells (St1.mk X).cells.toArray 9)) b m S (G ++ [⟨ys, 2, false⟩]) ∧ BkIn (W2.alloc (.cells (St1.mk X).cells.toArray 9)) b m F) := ⟨H2.out.2.2.1.below (below_al _ _), (own1 W2 ⟨X⟩ H2.out.2.2.2.2.2.1).esr, below_tr H2.out.1 (below_al _ _), Nat.le_trans H2.out.2.2.2.2.2.2.2 (below_al W2 _).size, H2.out.2.1.below (below_al _ _), H2.out.2.2.2.2.2.2.1.below (below_al _ _)⟩
            change wpList _ _ _ _ _ (W2.alloc (.cells (St1.mk X).cells.toArray 9))
            generalize W2.alloc (.cells (St1.mk X).cells.toArray 9) = W6 at HO6 ⊢
            generalize W2.heap.size = g5 at HO6 ⊢
            go_wp2_with (with_reducible change wpList _ _ _ ({ dst := some 54, op := _, type := _, pos := _, after := _, guard := _ } :: _) _ _; refine Hid.out ?_)
            show wpList _ _ _ _ _ _
            refine wpList_app rfl (.tmp 51) (.tmp 53) rfl HO6.out.1 HO6.out.2.1 (by have := HT.out.2.1; have := HK.out; simp; omega) HO6.out.2.2.2.1 rfl rfl ?_
            intro v7 W7 ho7 hg7 hp7
            obtain ⟨a7, c7, rfl⟩ : ∃ a c, v7 = .slice a (j + 1) c := by obtain ⟨a, c, h⟩ := sl_of ho7.out; exact ⟨a, c, by rw [h, List.length_append, HT.out.2.1]; rfl⟩
            have HF : Hid (UK w F b m S (G ++ [⟨ys, 2, false⟩]) (.slice a7 (j + 1) c7) (L ++ [⟨X⟩]) W7 ∧ (L ++ [(⟨X⟩ : St1)]).length = j + 1 ∧ (G ++ [(⟨ys, 2, false⟩ : Gr)]).length = j + 1) := by
              have hbF : Below F W6 W7 := (Below.refl F W6).grown hg7.out HO6.out.2.2.2.1 (fun i hi => (HO6.out.1.lt hi).1)
              have hbk := HO6.out.2.2.2.2.1.belowF HO6.out.2.2.2.2.2 hbF
              refine ⟨⟨below_own HO6.out.2.2.1 hg7.out (fun i hi => Nat.le_trans HT.out.1.hF (HO6.out.1.lt hi).1), hbk.1, H2.out.2.2.2.2.1, ho7.out, hbk.2, HT.out.1.hF, ?_⟩, by rw [List.length_append, HT.out.2.1]; rfl, by rw [List.length_append, HT.out.2.2]; rfl⟩
              · rw [List.map_append, HT.out.1.eq]
                unfold keys
                rw [kvs_app, List.map_append, Nat.zero_add, HT.out.2.2]
                show _ ++ [X.data.toList] = _ ++ [keyG S j ⟨ys, 2, false⟩]
                rw [H2.out.2.2.2.1]
            clear ho7 hg7 hp7 HO6
            go_wp2
            go_roundw
            case rel => exact ⟨k + 1, _, a7, j + 1, c7, by simp, rfl, rfl, by have := HK.out; omega, by have := HK.out; omega, _, _, HF.out.1, HF.out.2.1, HF.out.2.2⟩
            case measure => have := HK.out.1; simp only [intOf]; omega
          · have q6 : (j : Int) < (ln : Int) := by omega
            obtain ⟨z, hz⟩ : ∃ z, L[j]? = some z := ⟨_, List.getElem?_eq_getElem (by rw [HT.out.2.1]; omega)⟩
            obtain ⟨lb, lo, rfl, hlb, hlc⟩ := HLR.out (by omega)
            have hz0 := hlc j z hz 0 _ rfl
            rw [Nat.mul_one] at hz0
            have cz : W2.cell? ⟨lb, lo + j, none⟩ = some (.string z.s) := hz0
            have hne : (z.s.toList == X.toList) = false := by
              rw [toList_d, toList_d, beq_eq_false_iff_ne]
              intro heq
              have h1 : (L.map (fun x => x.s.data.toList))[j]? = some z.s.data.toList := by rw [List.getElem?_map, hz]; rfl
              rw [HT.out.1.eq] at h1
              obtain ⟨g, _, h3⟩ := keys_at 0 G j _ h1
              rw [heq, H2.out.2.2.2.1, Nat.zero_add] at h3
              have := key_inj (by have := HK.out; omega) (by have := HK.out; omega) h3
              omega
            obtain ⟨zs, hzs⟩ : ∃ s, z.s = s := ⟨_, rfl⟩
            rw [hzs] at cz hne
            have HJL : Hid (j < ln) := by show j < ln; omega
            clear hj hz hlb hlc hz0 hzs
            go_wp2
            go_roundw
            case rel => exact ⟨j + 1, by simp, by have := HJL.out; omega, by first | exact rfl | exact trivial⟩
            case measure => have := HJL.out; simp only [intOf]; omega
#print axioms unlike_law
end Go.Proofs.YtjeahlfmapacfaaDoor.Oct
