/-
  Layer 16 (token): Revoke of the reference; shown; few.
  Layer 16 (token): shown and few of the law.
  Layer 16 (token): drawn regions of TokenPlays.
-/
import Derived.Test.YtjeahlfmapacfaaDoorPkD
import Derived.Deep.RegionHeld
import Derived.Deep.MidRow
/- Layer 16 (token): Revoke of the reference; shown; few. -/
namespace Go.Proofs.YtjeahlfmapacfaaDoor.Oct
open Go.RowKit Sha
set_option linter.unusedSimpArgs false
set_option linter.unusedVariables false

theorem rev_set {S : List UInt8} {h : List UInt8} : ∀ (k : Nat) (G : List Gr) (i : Nat) (g : Gr), k + G.length ≤ 398 → G[i]? = some g → keyG S (k + i) g = h → revF S k G h = G.set i { g with bk := true }
  | k, [], i, g, _, hi, _ => by simp at hi
  | k, x :: r, 0, g, _, hi, hk => by
    simp at hi
    subst hi
    rw [Nat.add_zero] at hk
    unfold revF
    rw [if_pos hk]
    rfl
  | k, x :: r, i + 1, g, hl, hi, hk => by
    simp only [List.length_cons] at hl
    simp only [List.getElem?_cons_succ] at hi
    have hlt := (List.getElem?_eq_some_iff.1 hi).1
    unfold revF
    rw [if_neg (fun e => by rw [← hk] at e; have := key_inj (by omega) (by omega) e; omega), rev_set (k + 1) r i g (by omega) hi (by rw [show k + 1 + i = k + (i + 1) by omega]; exact hk)]
    rfl
theorem tks_set {S : List UInt8} : ∀ (k : Nat) (G : List Gr) (i : Nat) (g : Gr), G[i]? = some g → tks S k (G.set i { g with bk := true }) = (tks S k G).set i ⟨⟨(keyG S (k + i) g).toArray⟩, g.u, g.t, true⟩
  | k, [], i, g, hi => by simp at hi
  | k, x :: r, 0, g, hi => by simp at hi; subst hi; rfl
  | k, x :: r, i + 1, g, hi => by
    simp only [List.getElem?_cons_succ] at hi
    show _ :: tks S (k + 1) (r.set i _) = _ :: (tks S (k + 1) r).set i _
    rw [tks_set (k + 1) r i g hi, show k + 1 + i = k + (i + 1) by omega]
theorem own_put {w : World} {B e sz n g : Nat} {v : Value} {cs : List Value} (h : w.ownsRow B e sz v n cs) (hg : v.ownBlock = some g) (k : Nat) (x : Value) : (w.setCell ⟨g, k, none⟩ x).ownsRow B e sz v n (cs.set k x) := by
  refine ⟨by rw [List.length_set]; exact h.1, ?_⟩
  rcases h.2 with ⟨rfl, _⟩ | ⟨g', cap, cur, rfl, hB, hb, hn, hc, hsz, ht⟩
  · cases hg
  · cases hg
    have hb' : Blk w g' e cur.toList := by unfold Blk; rw [hb]
    refine .inr ⟨g', cap, (cur.toList.set k x).toArray, rfl, hB, hb'.set k x, hn, hc, by simpa using hsz, ?_⟩
    rw [List.toList_toArray, List.take_set, ht]
theorem cells_gone : ∀ (L : List Tk) (i : Nat) (e : Tk), L[i]? = some e → cellsK (L.set i { e with bk := true }) = (cellsK L).set (i * 4 + 3) (.bool true)
  | [], i, e, h => by simp at h
  | x :: r, 0, e, h => by simp at h; subst h; rfl
  | x :: r, i + 1, e, h => by
    simp only [List.getElem?_cons_succ] at h
    have ih := cells_gone r i e h
    show x.cells ++ cellsK (r.set i _) = (x.cells ++ cellsK r).set ((i + 1) * 4 + 3) _
    rw [ih, List.set_append_right _ _ (by show 4 ≤ _; omega)]
    congr 2
    show _ = (i + 1) * 4 + 3 - 4
    omega
/-- a cell of an own row turned -/
theorem own_gone {w : World} {B b c n : Nat} {L : List Tk} {i : Nat} {e : Tk} (h : OwK w B (.slice (some ⟨b, 0, none⟩) n c) L) (hi : L[i]? = some e) : OwK (w.setCell ⟨b, i * 4 + 3, none⟩ (.bool true)) B (.slice (some ⟨b, 0, none⟩) n c) (L.set i { e with bk := true }) := by
  refine ⟨?_, fun x hx => ?_⟩
  · rw [cells_gone L i e hi, List.length_set]
    exact own_put h.1 rfl _ _
  · rcases List.mem_or_eq_of_mem_set hx with hx | rfl
    · exact h.2 x hx
    · exact h.2 e (List.mem_of_getElem? hi)
def RrP (w : World) (S : List UInt8) (G : List Gr) (sec : BA) (a : Option Addr) (n c : Nat) (X : BA) (e : Ending) (w' : World) : Prop :=
  (∃ (a' : Option Addr) (c' : Nat), e = .returned (.tuple #[.agg #[.string sec, .slice a' n c'], iv (revE (atF S 0 G X.data.toList))]) ∧ RB w' S (if revE (atF S 0 G X.data.toList) = 0 then revF S 0 G X.data.toList else G) sec a' n c') ∧ Below w.heap.size w w'
theorem ret_c2b {R : Ending → World → Prop} {fn : Func} {p1 t2 : Tmp} {ty : TypeId} {a : Act} {w : World} {g : Nat} {X : List Value} {d : TypeDesc} {E : Value} (hr : fn.results = #[.cell p1 ty, .tmp t2]) (hd : a.defers = []) (hp : a.tmps.getD p1 undef = .pointer (some ⟨g, 0, none⟩)) (hE : a.tmps.getD t2 undef = E)
    (hb : Blk w g ty X) (hu : Tryd.prog.underlying ty = some d) (hrow : d.isRow = true) (hi : (Tryd.prog.info? ty).map (·.size) = some X.length) (hR : R (.returned (.tuple #[.agg X.toArray, E])) w) : bodyPost Tryd.prog fn R .ret a w := ret_c2 hr hd hp hb hu hrow hi (by rw [hE]; exact hR)
set_option maxRecDepth 100000 in
set_option maxHeartbeats 2000000 in
theorem rrevoke_is {w : World} {S : List UInt8} {G : List Gr} {sec : BA} {a : Option Addr} {n c : Nat} (h : RB w S G sec a n c) (hG : G.length ≤ 256) (X : BA) : Calls Tryd.prog 17 #[.agg #[.string sec, .slice a n c], .string X] w (RrP w S G sec a n c X) := by
  obtain ⟨d, hd⟩ : ∃ d, w.heap.size = d := ⟨_, rfl⟩
  obtain ⟨A, hA⟩ : ∃ A, w.alloc (.cells #[.string sec, .slice a n c] 30) = A := ⟨_, rfl⟩
  obtain ⟨d2, hd2⟩ : ∃ d, A.heap.size = d := ⟨_, rfl⟩
  obtain ⟨B, hB⟩ : ∃ B, A.alloc (.cells #[.string e0, .slice none 0 0] 30) = B := ⟨_, rfl⟩
  have HB : Hid (Below w.heap.size w B ∧ Blk B d 30 [.string sec, .slice a n c] ∧ Blk B d2 30 [.string e0, .slice none 0 0] ∧ RB B S G sec a n c ∧ w.heap.size = d ∧ d < d2) := by
    have b1 : Below w.heap.size w A := by rw [← hA]; exact below_al _ _
    have b2 : Below A.heap.size A B := by rw [← hB]; exact below_al _ _
    have k1 : Blk A d 30 [.string sec, .slice a n c] := by rw [← hA, ← hd]; exact Blk.new w _ _
    exact ⟨below_tr b1 b2, k1.below b2 k1.lt, by rw [← hB, ← hd2]; exact Blk.new A _ _, (h.below b1).below b2, hd, by have := k1.lt; omega⟩
  have c0 : B.cell? ⟨d, 0, none⟩ = some (.string sec) := HB.out.2.1.cell rfl
  have c1 : B.cell? ⟨d, 1, none⟩ = some (.slice a n c) := HB.out.2.1.cell rfl
  have HR0 : Hid (RB w S G sec a n c) := h
  have HN : Hid (n = G.length ∧ G.length ≤ 256) := ⟨h.len, hG⟩
  have qn : (n : Int) ≤ 256 := by have := h.len; omega
  have hz := zero30
  clear h hG
  go_enter Tryd.func17, Tryd.ntmps17
  go_wp2_with fail
  refine (rat_is HB.out.2.2.2.1 (by have := HN.out.2; omega) X).mono ?_
  rintro e W1 ⟨j, rfl, HJ, hb1⟩
  have H1 : Hid (Below w.heap.size w W1 ∧ RB W1 S G sec a n c ∧ Blk W1 d 30 [.string sec, .slice a n c] ∧ Blk W1 d2 30 [.string e0, .slice none 0 0]) := ⟨below_tr HB.out.1 hb1, HB.out.2.2.2.1.below hb1, HB.out.2.1.below hb1 HB.out.2.1.lt, HB.out.2.2.1.below hb1 HB.out.2.2.1.lt⟩
  have f0 : W1.cell? ⟨d, 0, none⟩ = some (.string sec) := H1.out.2.2.1.cell rfl
  have f1 : W1.cell? ⟨d, 1, none⟩ = some (.slice a n c) := H1.out.2.2.1.cell rfl
  clear hb1 c0 c1 hA hB hd hd2
  rcases HJ.out with ⟨rfl, hn⟩ | ⟨i, g, rfl, hg, hkey, ha⟩
  · have HE : Hid (revE (atF S 0 G X.data.toList) = 160) := by show _ = _; rw [hn]; rfl
    clear HJ hn
    go_wp2_with (with_reducible change wpList _ _ _ ({ dst := none, op := Op.store 30 _ _, type := _, pos := _, after := _, guard := _ } :: _) _ _; refine Hid.out ?_)
    show wpList _ _ _ _ _ _
    refine wpList_store_blk rfl 30 (.tmp 4) (.tmp 12) rfl d2 0 30 [.string e0, .slice none 0 0] [.string sec, .slice a n c] rfl rfl H1.out.2.2.2 (by show 0 + 2 ≤ 2; omega) (size30 _ _) (rb_one _ _ _ _) ?_
    intro W2 hx2 hg2
    have H2 : Hid (Below w.heap.size w W2 ∧ Blk W2 d2 30 [.string sec, .slice a n c] ∧ RB W2 S G sec a n c) := ⟨below_gr H1.out.1 hg2.out (by have := HB.out.2.2.2.2; omega), blk_all hx2.out rfl, by
      have hbw : Below w.heap.size w W2 := below_gr H1.out.1 hg2.out (by have := HB.out.2.2.2.2; omega)
      exact HR0.out.below hbw⟩
    clear hx2 hg2
    go_wp2
    exact ret_c2b rfl rfl rfl rfl H2.out.2.1 Tryd.underlying30 rfl (size30 _ _) ⟨⟨a, c, by rw [HE.out]; rfl, by rw [HE.out, if_neg (by omega)]; exact H2.out.2.2⟩, H2.out.1⟩
  · have hlt := (List.getElem?_eq_some_iff.1 hg).1
    obtain ⟨b, off, rfl, hbl, hra⟩ := H1.out.2.1.at hg
    obtain ⟨u, t, bk⟩ := g
    have f3 : W1.cell? ⟨b, off + i * 4 + 3, none⟩ = some (.bool bk) := hra 3 _ rfl
    have qi : (i : Int) < (n : Int) := by have := HN.out.1; omega
    have q0 : ¬ ((i : Int) < 0) := by omega
    have HG : Hid (G[i]? = some ⟨u, t, bk⟩ ∧ keyG S i ⟨u, t, bk⟩ = X.data.toList ∧ atF S 0 G X.data.toList = some ⟨u, t, bk⟩ ∧ i < G.length) := ⟨hg, hkey, ha, hlt⟩
    clear HJ hg hkey ha hlt hbl hra
    cases bk with
    | true =>
      have HE : Hid (revE (atF S 0 G X.data.toList) = 161) := by show _ = _; rw [HG.out.2.2.1]; rfl
      go_wp2_with (with_reducible change wpList _ _ _ ({ dst := none, op := Op.store 30 _ _, type := _, pos := _, after := _, guard := _ } :: _) _ _; refine Hid.out ?_)
      show wpList _ _ _ _ _ _
      refine wpList_store_blk rfl 30 (.tmp 4) (.tmp 19) rfl d2 0 30 [.string e0, .slice none 0 0] [.string sec, .slice (some ⟨b, off, none⟩) n c] rfl rfl H1.out.2.2.2 (by show 0 + 2 ≤ 2; omega) (size30 _ _) (rb_one _ _ _ _) ?_
      intro W2 hx2 hg2
      have hbw : Below w.heap.size w W2 := below_gr H1.out.1 hg2.out (by have := HB.out.2.2.2.2; omega)
      have H2 : Hid (Below w.heap.size w W2 ∧ Blk W2 d2 30 [.string sec, .slice (some ⟨b, off, none⟩) n c] ∧ RB W2 S G sec (some ⟨b, off, none⟩) n c) := ⟨hbw, blk_all hx2.out rfl, HR0.out.below hbw⟩
      clear hx2 hg2 hbw
      go_wp2
      exact ret_c2b rfl rfl rfl rfl H2.out.2.1 Tryd.underlying30 rfl (size30 _ _) ⟨⟨_, c, by rw [HE.out]; rfl, by rw [HE.out, if_neg (by omega)]; exact H2.out.2.2⟩, H2.out.1⟩
    | false =>
      have HE : Hid (revE (atF S 0 G X.data.toList) = 0) := by show _ = _; rw [HG.out.2.2.1]; rfl
      go_wp2_with (with_reducible change wpList _ _ _ ({ dst := some 20, op := _, type := _, pos := _, after := _, guard := _ } :: _) _ _; refine Hid.out ?_)
      show wpList _ _ _ _ _ _
      refine wpList_bs0 rfl rfl ?_
      obtain ⟨F6, hF6⟩ : ∃ F, W1.heap.size = F := ⟨_, rfl⟩
      have hHO : Hid (OwK (W1.alloc (.cells #[] 71)) F6 (.slice (some ⟨F6, 0, none⟩) 0 0) [] ∧ TkR (W1.alloc (.cells #[] 71)) (.slice (some ⟨b, off, none⟩) n c) (tks S 0 G) ∧ Below w.heap.size w (W1.alloc (.cells #[] 71)) ∧ F6 ≤ (W1.alloc (.cells #[] 71)).heap.size ∧ Blk (W1.alloc (.cells #[] 71)) d 30 [.string sec, .slice (some ⟨b, off, none⟩) n c] ∧ Blk (W1.alloc (.cells #[] 71)) d2 30 [.string e0, .slice none 0 0] ∧ d < F6 ∧ d2 < F6 ∧ w.heap.size ≤ F6) := by
        rw [← hF6]
        exact ⟨own0 W1, H1.out.2.1.row.below (below_al _ _), below_tr H1.out.1 (below_al _ _), (below_al W1 (.cells #[] 71)).size, H1.out.2.2.1.alloc _, H1.out.2.2.2.alloc _, H1.out.2.2.1.lt, H1.out.2.2.2.lt, H1.out.1.size⟩
      rw [hF6]
      generalize W1.alloc (.cells #[] 71) = W7 at hHO ⊢
      have e1 : W7.cell? ⟨d, 1, none⟩ = some (.slice (some ⟨b, off, none⟩) n c) := hHO.out.2.2.2.2.1.cell rfl
      clear hF6 f0 f1 f3
      go_wp2_with (with_reducible change wpList _ _ _ ({ dst := some 23, op := _, type := _, pos := _, after := _, guard := _ } :: _) _ _; refine Hid.out ?_)
      show wpList _ _ _ _ _ _
      refine wpList_app rfl (.tmp 20) (.tmp 22) rfl hHO.out.1 hHO.out.2.1 (by rw [tks_len]; have := HN.out; simp; omega) hHO.out.2.2.2.1 rfl rfl ?_
      intro v8 W8 ho8 hg8 hp8
      rw [List.nil_append] at ho8
      have hb78 : Below F6 W7 W8 := (Below.refl F6 W7).grown hg8.out hHO.out.2.2.2.1 (fun j hj => (hHO.out.1.lt hj).1)
      obtain ⟨nb, c', rfl, hF8, hB8⟩ : ∃ nb c', v8 = .slice (some ⟨nb, 0, none⟩) n c' ∧ F6 ≤ nb ∧ nb < W8.heap.size := by
        have hl8 := (ho8.out).1.2
        rcases hl8 with ⟨_, h0⟩ | ⟨nb, cap, cur, h1, h2, h3, _⟩
        · rw [tks_len] at h0; have := HG.out.2.2.2; omega
        · exact ⟨nb, cap, by rw [h1, tks_len, HN.out.1], h2, lt_of_block h3⟩
      have k8 : Blk W8 d 30 [.string sec, .slice (some ⟨b, off, none⟩) n c] := hHO.out.2.2.2.2.1.below hb78 hHO.out.2.2.2.2.2.2.1
      have k8b : Blk W8 d2 30 [.string e0, .slice none 0 0] := hHO.out.2.2.2.2.2.1.below hb78 hHO.out.2.2.2.2.2.2.2.1
      have H8 : Hid (OwK W8 F6 (.slice (some ⟨nb, 0, none⟩) n c') (tks S 0 G) ∧ Below w.heap.size w W8) := ⟨ho8.out, hHO.out.2.2.1.trans (hb78.mono hHO.out.2.2.2.2.2.2.2.2)⟩
      have HLT : Hid (d < F6 ∧ d2 < F6 ∧ w.heap.size ≤ F6 ∧ F6 ≤ nb) := ⟨hHO.out.2.2.2.2.2.2.1, hHO.out.2.2.2.2.2.2.2.1, hHO.out.2.2.2.2.2.2.2.2, hF8⟩
      obtain ⟨W9, hW9⟩ : ∃ W, W8.setCell ⟨d, 1, none⟩ (.slice (some ⟨nb, 0, none⟩) n c') = W := ⟨_, rfl⟩
      have hg9 : W8.grownBy W9 (some d) := by rw [← hW9]; exact grown_setCell _ _ _ _
      have k9 : Blk W9 d 30 [.string sec, .slice (some ⟨nb, 0, none⟩) n c'] := by rw [← hW9]; exact k8.set 1 _
      have k9b : Blk W9 d2 30 [.string e0, .slice none 0 0] := k8b.kept hg9 (by have := HB.out.2.2.2.2; simp; omega)
      have ho9 : OwK W9 F6 (.slice (some ⟨nb, 0, none⟩) n c') (tks S 0 G) := H8.out.1.same (fun q hq => hg9.block q (H8.out.1.lt hq).2 (by have := (H8.out.1.lt hq).1; have := HLT.out.1; simp; omega))
      have hti : (tks S 0 G)[i]? = some ⟨⟨(keyG S i ⟨u, t, false⟩).toArray⟩, u, t, false⟩ := by
        obtain ⟨e, he⟩ : ∃ e, (tks S 0 G)[i]? = some e := ⟨_, List.getElem?_eq_getElem (by rw [tks_len]; exact HG.out.2.2.2)⟩
        obtain ⟨g2, h1, h2⟩ := tks_at 0 G i e he
        rw [HG.out.1] at h1
        cases h1
        rw [he, h2, Nat.zero_add]
      have hran := ho9.esr
      obtain ⟨W10, hW10⟩ : ∃ W, W9.setCell ⟨nb, i * 4 + 3, none⟩ (.bool true) = W := ⟨_, rfl⟩
      have hg10 : W9.grownBy W10 (some nb) := by rw [← hW10]; exact grown_setCell _ _ _ _
      have ho10 : OwK W10 F6 (.slice (some ⟨nb, 0, none⟩) n c') (tks S 0 (revF S 0 G X.data.toList)) := by
        have h1 := own_gone ho9 hti
        rw [hW10] at h1
        have h2 : revF S 0 G X.data.toList = G.set i ⟨u, t, true⟩ := rev_set 0 G i ⟨u, t, false⟩ (by have := HN.out.2; omega) HG.out.1 (by rw [Nat.zero_add]; exact HG.out.2.1)
        have h3 := tks_set (S := S) 0 G i ⟨u, t, false⟩ HG.out.1
        rw [Nat.zero_add] at h3
        rw [h2, h3]
        exact h1
      have e1' : W8.cell? ⟨d, 1, none⟩ = some (.slice (some ⟨b, off, none⟩) n c) := k8.cell rfl
      have efr : W8.frozen? ⟨d, 1, none⟩ = false := k8.free 1
      have g0' : W9.cell? ⟨d, 1, none⟩ = some (.slice (some ⟨nb, 0, none⟩) n c') := k9.cell rfl
      have g3 : W9.cell? ⟨nb, i * 4 + 3, none⟩ = some (.bool false) := by
        obtain ⟨_, a2, cap2, heq, _, _, hr⟩ := hran
        cases heq
        obtain ⟨b3, o3, e3, _, hr3⟩ := hr (by rw [tks_len]; have := HG.out.2.2.2; omega)
        cases e3
        have := hr3 i _ hti 3 _ rfl
        rwa [Nat.zero_add] at this
      have gfr : W9.frozen? ⟨nb, i * 4 + 3, none⟩ = false := by
        rcases ho9.1.2 with ⟨h, _⟩ | ⟨g', cap, cur, h1, _, h3, _⟩
        · cases h
        · injection h1 with h1 _ _
          cases h1
          have hbk : Blk W9 nb 71 cur.toList := by unfold Blk; rw [h3]
          exact hbk.free _
      have k10 : Blk W10 d 30 [.string sec, .slice (some ⟨nb, 0, none⟩) n c'] := k9.kept hg10 (by have := HLT.out; simp; omega)
      have k10b : Blk W10 d2 30 [.string e0, .slice none 0 0] := k9b.kept hg10 (by have := HLT.out; simp; omega)
      have H10 : Hid (OwK W10 F6 (.slice (some ⟨nb, 0, none⟩) n c') (tks S 0 (revF S 0 G X.data.toList)) ∧ Below w.heap.size w W10 ∧ Blk W10 d2 30 [.string e0, .slice none 0 0]) := ⟨ho10, below_gr (below_gr H8.out.2 hg9 (by have := HB.out.2.2.2.2.1; omega)) hg10 (by have := HLT.out; omega), k10b⟩
      have j0 : W10.cell? ⟨d, 0, none⟩ = some (.string sec) := k10.cell rfl
      have j1 : W10.cell? ⟨d, 1, none⟩ = some (.slice (some ⟨nb, 0, none⟩) n c') := k10.cell rfl
      clear ho8 hg8 hp8 hb78 k8 k8b k9 k9b ho9 hti hran hg9 hg10 ho10 k10 k10b hHO hF8 hB8 e1
      go_wp2_with (with_reducible change wpList _ _ _ ({ dst := none, op := Op.store 30 _ _, type := _, pos := _, after := _, guard := _ } :: _) _ _; refine Hid.out ?_)
      show wpList _ _ _ _ _ _
      refine wpList_store_blk rfl 30 (.tmp 4) (.tmp 30) rfl d2 0 30 [.string e0, .slice none 0 0] [.string sec, .slice (some ⟨nb, 0, none⟩) n c'] rfl rfl H10.out.2.2 (by show 0 + 2 ≤ 2; omega) (size30 _ _) (rb_one _ _ _ _) ?_
      intro W12 hx12 hg12
      have H12 : Hid (Below w.heap.size w W12 ∧ Blk W12 d2 30 [.string sec, .slice (some ⟨nb, 0, none⟩) n c'] ∧ RB W12 S (revF S 0 G X.data.toList) sec (some ⟨nb, 0, none⟩) n c') := by
        refine ⟨below_gr H10.out.2.1 hg12.out (by have := HB.out.2.2.2.2; omega), blk_all hx12.out rfl, HR0.out.sec, ?_, by rw [rev_len]; exact HN.out.1⟩
        have ho12 : OwK W12 F6 (.slice (some ⟨nb, 0, none⟩) n c') (tks S 0 (revF S 0 G X.data.toList)) := H10.out.1.same (fun q hq => hg12.out.block q (H10.out.1.lt hq).2 (by have := (H10.out.1.lt hq).1; have := HLT.out.2.1; simp; omega))
        exact ho12.esr
      clear hx12 hg12 j0 j1 e1' efr g0' g3 gfr
      go_wp2
      exact ret_c2b rfl rfl rfl rfl H12.out.2.1 Tryd.underlying30 rfl (size30 _ _) ⟨⟨_, c', by rw [HE.out]; rfl, by rw [HE.out, if_pos rfl]; exact H12.out.2.2⟩, H12.out.1⟩
end Go.Proofs.YtjeahlfmapacfaaDoor.Oct

/- Layer 16 (token): shown and few of the law. -/
namespace Go.Proofs.YtjeahlfmapacfaaDoor.Oct
open Go.RowKit Sha
set_option linter.unusedSimpArgs false
set_option linter.unusedVariables false

set_option maxRecDepth 100000 in
set_option maxHeartbeats 4000000 in
theorem sh3 {Q : Exit → Act → World → Prop} {x0 x1 x4 x5 x6 x7 x8 x9 x10 x11 x12 x13 x14 x15 x16 x17 x18 x19 x20 x21 x22 x23 x24 x25 x26 x27 x28 : Value} {ds : List Deferred} {A : World} {d d2 b off n cp i : Nat} {M UN : Int} {kx : BA}
    (HL : Hid (d < A.heap.size ∧ d2 < A.heap.size ∧ b < A.heap.size)) (c1 : A.cell? ⟨d, 1, none⟩ = some (.slice (some ⟨b, off, none⟩) n cp)) (c5 : A.cell? ⟨d2, 5, none⟩ = some (iv M)) (ck : A.cell? ⟨b, off + i * 4, none⟩ = some (.string kx)) (HA : Hid (IntKind.u64.wrap M = UN ∧ IntKind.u64.wrap (n : Int) = (n : Int) ∧ UN.tmod (n : Int) = (i : Int) ∧ ((n : Int) == 0) = false ∧ IntKind.i64.wrap (i : Int) = (i : Int) ∧ 0 ≤ (i : Int) ∧ (i : Int) < (n : Int)))
    (hQ : ∀ V1, Below A.heap.size A V1 → Q .normal { tmps := #[x0, x1, .pointer (some ⟨d, 0, none⟩), .pointer (some ⟨d2, 0, none⟩), .string kx, x5, x6, x7, x8, x9, x10, x11, x12, x13, x14, .pointer (some ⟨d, 1, none⟩), .slice (some ⟨b, off, none⟩) n cp, .pointer (some ⟨d2, 5, none⟩), iv M, .int .u64 UN, .pointer (some ⟨d, 1, none⟩), .slice (some ⟨b, off, none⟩) n cp, iv (n : Int), .int .u64 (n : Int), .int .u64 (i : Int), iv (i : Int), .pointer (some ⟨b, off + i * 4, none⟩), .pointer (some ⟨b, off + i * 4, none⟩), .string kx], defers := ds } V1) :
    (Code.region 3 #[{ dst := some 15, op := Op.fieldAddr 30 (Operand.tmp 2) 1, type := 0, pos := "law.go:48", after := #[], guard := none }, { dst := some 16, op := Op.load 28 (Operand.tmp 15), type := 28, pos := "law.go:48", after := #[{ on := 0, ground := Ground.data }], guard := none }, { dst := some 17, op := Op.fieldAddr 32 (Operand.tmp 3) 5, type := 0, pos := "law.go:48", after := #[], guard := none }, { dst := some 18, op := Op.load 3 (Operand.tmp 17), type := 3, pos := "law.go:48", after := #[{ on := 2, ground := Ground.data }], guard := none }, { dst := some 19, op := Op.convert 3 52 (Operand.tmp 18), type := 52, pos := "law.go:48", after := #[{ on := 3, ground := Ground.data }], guard := none }, { dst := some 20, op := Op.fieldAddr 30 (Operand.tmp 2) 1, type := 0, pos := "law.go:48", after := #[], guard := none }, { dst := some 21, op := Op.load 28 (Operand.tmp 20), type := 28, pos := "law.go:48", after := #[{ on := 5, ground := Ground.data }], guard := none }, { dst := some 22, op := Op.call { callee := Callee.builtin Builtin.len, args := #[Operand.tmp 21], argTypes := #[28] }, type := 3, pos := "law.go:48", after := #[{ on := 6, ground := Ground.data }], guard := none }, { dst := some 23, op := Op.convert 3 52 (Operand.tmp 22), type := 52, pos := "law.go:48", after := #[{ on := 7, ground := Ground.data }], guard := none }, { dst := some 24, op := Op.binOp BinOp.rem 52 (Operand.tmp 19) (Operand.tmp 23) 52, type := 52, pos := "law.go:48", after := #[{ on := 4, ground := Ground.data }, { on := 8, ground := Ground.data }], guard := none }, { dst := some 25, op := Op.convert 52 3 (Operand.tmp 24), type := 3, pos := "law.go:48", after := #[{ on := 9, ground := Ground.data }], guard := none }, { dst := some 26, op := Op.indexAddr 28 (Operand.tmp 16) (Operand.tmp 25), type := 0, pos := "law.go:48", after := #[{ on := 1, ground := Ground.data }, { on := 10, ground := Ground.data }], guard := none }, { dst := some 27, op := Op.fieldAddr 71 (Operand.tmp 26) 0, type := 0, pos := "law.go:48", after := #[{ on := 11, ground := Ground.data }], guard := none }, { dst := some 28, op := Op.load 9 (Operand.tmp 27), type := 9, pos := "law.go:48", after := #[{ on := 12, ground := Ground.data }], guard := none }, { dst := some 4, op := Op.assign (Operand.tmp 28), type := 9, pos := "law.go:48", after := #[{ on := 13, ground := Ground.data }, { on := 0, ground := Ground.phase }, { on := 1, ground := Ground.phase }, { on := 2, ground := Ground.phase }, { on := 3, ground := Ground.phase }, { on := 4, ground := Ground.phase }, { on := 5, ground := Ground.phase }, { on := 6, ground := Ground.phase }, { on := 7, ground := Ground.phase }, { on := 8, ground := Ground.phase }, { on := 9, ground := Ground.phase }, { on := 10, ground := Ground.phase }, { on := 11, ground := Ground.phase }, { on := 12, ground := Ground.phase }, { on := 13, ground := Ground.phase }], guard := none }] true).wp Tryd.prog Q { tmps := #[x0, x1, .pointer (some ⟨d, 0, none⟩), .pointer (some ⟨d2, 0, none⟩), x4, x5, x6, x7, x8, x9, x10, x11, x12, x13, x14, x15, x16, x17, x18, x19, x20, x21, x22, x23, x24, x25, x26, x27, x28], defers := ds } A := by
  refine Code.wp_mono (Q := fun x a' w' => match x with | .normal => Q .normal a' w' | _ => False) (by intro x a' w' h; cases x <;> first | exact h | exact h.elim) ?_
  refine wp_region_held (S := fun V => Below A.heap.size A V) (by kernel_rfl) ?_
  have hS0 : Hid (Below A.heap.size A A.drew) := below_drew0 A
  change wpAnyH Tryd.prog .any _ _ (fun V => Below A.heap.size A V) 15 (Array.replicate 15 false) _ A.drew
  obtain ⟨V0, hV0⟩ : ∃ V0, A.drew = V0 := ⟨_, rfl⟩
  rw [hV0]
  rw [hV0] at hS0
  clear hV0
  refine wpAnyH_take (i := 0) (oi := { dst := some 15, op := Op.fieldAddr 30 (Operand.tmp 2) 1, type := 0, pos := "law.go:48", after := #[], guard := none }) (v := .pointer (some ⟨d, 1, none⟩)) rfl (by kernel_rfl) (by kernel_rfl) (by kernel_rfl) (fun _ _ _ h => h.elim) (Or.inl ⟨by rfl, ?y1⟩) hS0.out ?_
  case y1 =>
    intro V hV
    go_simp
  simp only [Act.put, List.setIfInBounds_toArray, List.set_cons_zero, List.set_cons_succ]
  refine wpAnyH_take (i := 1) (oi := { dst := some 16, op := Op.load 28 (Operand.tmp 15), type := 28, pos := "law.go:48", after := #[{ on := 0, ground := Ground.data }], guard := none }) (v := .slice (some ⟨b, off, none⟩) n cp) rfl (by kernel_rfl) (by kernel_rfl) (by kernel_rfl) (fun _ _ _ h => h.elim) (Or.inl ⟨by rfl, ?y2⟩) hS0.out ?_
  case y2 =>
    intro V hV
    have hc : V.cell? ⟨d, 1, none⟩ = some (.slice (some ⟨b, off, none⟩) n cp) := ((show Below A.heap.size A V from hV).cell (p := ⟨d, 1, none⟩) HL.out.1).trans c1
    go_simp
  simp only [Act.put, List.setIfInBounds_toArray, List.set_cons_zero, List.set_cons_succ]
  refine wpAnyH_take (i := 2) (oi := { dst := some 17, op := Op.fieldAddr 32 (Operand.tmp 3) 5, type := 0, pos := "law.go:48", after := #[], guard := none }) (v := .pointer (some ⟨d2, 5, none⟩)) rfl (by kernel_rfl) (by kernel_rfl) (by kernel_rfl) (fun _ _ _ h => h.elim) (Or.inl ⟨by rfl, ?y3⟩) hS0.out ?_
  case y3 =>
    intro V hV
    go_simp
  simp only [Act.put, List.setIfInBounds_toArray, List.set_cons_zero, List.set_cons_succ]
  refine wpAnyH_take (i := 3) (oi := { dst := some 18, op := Op.load 3 (Operand.tmp 17), type := 3, pos := "law.go:48", after := #[{ on := 2, ground := Ground.data }], guard := none }) (v := iv M) rfl (by kernel_rfl) (by kernel_rfl) (by kernel_rfl) (fun _ _ _ h => h.elim) (Or.inl ⟨by rfl, ?y4⟩) hS0.out ?_
  case y4 =>
    intro V hV
    have hc : V.cell? ⟨d2, 5, none⟩ = some (iv M) := ((show Below A.heap.size A V from hV).cell (p := ⟨d2, 5, none⟩) HL.out.2.1).trans c5
    go_simp
  simp only [Act.put, List.setIfInBounds_toArray, List.set_cons_zero, List.set_cons_succ]
  refine wpAnyH_take (i := 4) (oi := { dst := some 19, op := Op.convert 3 52 (Operand.tmp 18), type := 52, pos := "law.go:48", after := #[{ on := 3, ground := Ground.data }], guard := none }) (v := .int .u64 UN) rfl (by kernel_rfl) (by kernel_rfl) (by kernel_rfl) (fun _ _ _ h => h.elim) (Or.inl ⟨by rfl, ?y5⟩) hS0.out ?_
  case y5 =>
    intro V hV
    have h1 := HA.out.1
    go_simp
  simp only [Act.put, List.setIfInBounds_toArray, List.set_cons_zero, List.set_cons_succ]
  refine wpAnyH_take (i := 5) (oi := { dst := some 20, op := Op.fieldAddr 30 (Operand.tmp 2) 1, type := 0, pos := "law.go:48", after := #[], guard := none }) (v := .pointer (some ⟨d, 1, none⟩)) rfl (by kernel_rfl) (by kernel_rfl) (by kernel_rfl) (fun _ _ _ h => h.elim) (Or.inl ⟨by rfl, ?y6⟩) hS0.out ?_
  case y6 =>
    intro V hV
    go_simp
  simp only [Act.put, List.setIfInBounds_toArray, List.set_cons_zero, List.set_cons_succ]
  refine wpAnyH_take (i := 6) (oi := { dst := some 21, op := Op.load 28 (Operand.tmp 20), type := 28, pos := "law.go:48", after := #[{ on := 5, ground := Ground.data }], guard := none }) (v := .slice (some ⟨b, off, none⟩) n cp) rfl (by kernel_rfl) (by kernel_rfl) (by kernel_rfl) (fun _ _ _ h => h.elim) (Or.inl ⟨by rfl, ?y7⟩) hS0.out ?_
  case y7 =>
    intro V hV
    have hc : V.cell? ⟨d, 1, none⟩ = some (.slice (some ⟨b, off, none⟩) n cp) := ((show Below A.heap.size A V from hV).cell (p := ⟨d, 1, none⟩) HL.out.1).trans c1
    go_simp
  simp only [Act.put, List.setIfInBounds_toArray, List.set_cons_zero, List.set_cons_succ]
  refine wpAnyH_take (i := 7) (oi := { dst := some 22, op := Op.call { callee := Callee.builtin Builtin.len, args := #[Operand.tmp 21], argTypes := #[28] }, type := 3, pos := "law.go:48", after := #[{ on := 6, ground := Ground.data }], guard := none }) (v := iv (n : Int)) rfl (by kernel_rfl) (by kernel_rfl) (by kernel_rfl) (fun _ _ _ h => h.elim) (Or.inl ⟨by rfl, ?y8⟩) hS0.out ?_
  case y8 =>
    intro V hV
    go_simp
  simp only [Act.put, List.setIfInBounds_toArray, List.set_cons_zero, List.set_cons_succ]
  refine wpAnyH_take (i := 8) (oi := { dst := some 23, op := Op.convert 3 52 (Operand.tmp 22), type := 52, pos := "law.go:48", after := #[{ on := 7, ground := Ground.data }], guard := none }) (v := .int .u64 (n : Int)) rfl (by kernel_rfl) (by kernel_rfl) (by kernel_rfl) (fun _ _ _ h => h.elim) (Or.inl ⟨by rfl, ?y9⟩) hS0.out ?_
  case y9 =>
    intro V hV
    have h1 := HA.out.2.1
    go_simp
  simp only [Act.put, List.setIfInBounds_toArray, List.set_cons_zero, List.set_cons_succ]
  refine wpAnyH_take (i := 9) (oi := { dst := some 24, op := Op.binOp BinOp.rem 52 (Operand.tmp 19) (Operand.tmp 23) 52, type := 52, pos := "law.go:48", after := #[{ on := 4, ground := Ground.data }, { on := 8, ground := Ground.data }], guard := none }) (v := .int .u64 (i : Int)) rfl (by kernel_rfl) (by kernel_rfl) (by kernel_rfl) (fun _ _ _ h => h.elim) (Or.inl ⟨by rfl, ?y10⟩) hS0.out ?_
  case y10 =>
    intro V hV
    have h1 := HA.out.2.2.1
    have h2 := HA.out.2.2.2.1
    (go_simp; simpa using h2)
  simp only [Act.put, List.setIfInBounds_toArray, List.set_cons_zero, List.set_cons_succ]
  refine wpAnyH_take (i := 10) (oi := { dst := some 25, op := Op.convert 52 3 (Operand.tmp 24), type := 3, pos := "law.go:48", after := #[{ on := 9, ground := Ground.data }], guard := none }) (v := iv (i : Int)) rfl (by kernel_rfl) (by kernel_rfl) (by kernel_rfl) (fun _ _ _ h => h.elim) (Or.inl ⟨by rfl, ?y11⟩) hS0.out ?_
  case y11 =>
    intro V hV
    have h1 := HA.out.2.2.2.2.1
    go_simp
  simp only [Act.put, List.setIfInBounds_toArray, List.set_cons_zero, List.set_cons_succ]
  refine wpAnyH_take (i := 11) (oi := { dst := some 26, op := Op.indexAddr 28 (Operand.tmp 16) (Operand.tmp 25), type := 0, pos := "law.go:48", after := #[{ on := 1, ground := Ground.data }, { on := 10, ground := Ground.data }], guard := none }) (v := .pointer (some ⟨b, off + i * 4, none⟩)) rfl (by kernel_rfl) (by kernel_rfl) (by kernel_rfl) (fun _ _ _ h => h.elim) (Or.inl ⟨by rfl, ?y12⟩) hS0.out ?_
  case y12 =>
    intro V hV
    have h1 := HA.out.2.2.2.2.2.1
    have h2 := HA.out.2.2.2.2.2.2
    go_simp
  simp only [Act.put, List.setIfInBounds_toArray, List.set_cons_zero, List.set_cons_succ]
  refine wpAnyH_take (i := 12) (oi := { dst := some 27, op := Op.fieldAddr 71 (Operand.tmp 26) 0, type := 0, pos := "law.go:48", after := #[{ on := 11, ground := Ground.data }], guard := none }) (v := .pointer (some ⟨b, off + i * 4, none⟩)) rfl (by kernel_rfl) (by kernel_rfl) (by kernel_rfl) (fun _ _ _ h => h.elim) (Or.inl ⟨by rfl, ?y13⟩) hS0.out ?_
  case y13 =>
    intro V hV
    go_simp
  simp only [Act.put, List.setIfInBounds_toArray, List.set_cons_zero, List.set_cons_succ]
  refine wpAnyH_take (i := 13) (oi := { dst := some 28, op := Op.load 9 (Operand.tmp 27), type := 9, pos := "law.go:48", after := #[{ on := 12, ground := Ground.data }], guard := none }) (v := .string kx) rfl (by kernel_rfl) (by kernel_rfl) (by kernel_rfl) (fun _ _ _ h => h.elim) (Or.inl ⟨by rfl, ?y14⟩) hS0.out ?_
  case y14 =>
    intro V hV
    have hc : V.cell? ⟨b, off + i * 4, none⟩ = some (.string kx) := ((show Below A.heap.size A V from hV).cell (p := ⟨b, off + i * 4, none⟩) HL.out.2.2).trans ck
    go_simp
  simp only [Act.put, List.setIfInBounds_toArray, List.set_cons_zero, List.set_cons_succ]
  refine wpAnyH_take (i := 14) (oi := { dst := some 4, op := Op.assign (Operand.tmp 28), type := 9, pos := "law.go:48", after := #[{ on := 13, ground := Ground.data }, { on := 0, ground := Ground.phase }, { on := 1, ground := Ground.phase }, { on := 2, ground := Ground.phase }, { on := 3, ground := Ground.phase }, { on := 4, ground := Ground.phase }, { on := 5, ground := Ground.phase }, { on := 6, ground := Ground.phase }, { on := 7, ground := Ground.phase }, { on := 8, ground := Ground.phase }, { on := 9, ground := Ground.phase }, { on := 10, ground := Ground.phase }, { on := 11, ground := Ground.phase }, { on := 12, ground := Ground.phase }, { on := 13, ground := Ground.phase }], guard := none }) (v := .string kx) rfl (by kernel_rfl) (by kernel_rfl) (by kernel_rfl) (fun _ _ _ h => h.elim) (Or.inl ⟨by rfl, ?y15⟩) hS0.out ?_
  case y15 =>
    intro V hV
    go_simp
  simp only [Act.put, List.setIfInBounds_toArray, List.set_cons_zero, List.set_cons_succ]
  refine wpAnyH_done (by kernel_rfl) ?_ _
  exact hQ V0 hS0.out
/-- the text that a call means -/
def shI (n : Nat) (M : Int) : Nat := ((IntKind.u64.wrap M).tmod (n : Int)).toNat
def shT (S : List UInt8) (G : List Gr) (q : ActV) : BA := if q.odd = true then q.x else match G[shI G.length q.n]? with | none => q.x | some g => ⟨(keyG S (shI G.length q.n) g).toArray⟩
theorem sh_size {S : List UInt8} {G : List Gr} {q : ActV} (hG : G.length ≤ 256) (hok : ∀ g ∈ G, g.ok) (hx : q.x.size ≤ 15000) : (shT S G q).size ≤ 20000 := by
  unfold shT
  split
  · omega
  · split
    · omega
    · rename_i g hg
      have hlt := (List.getElem?_eq_some_iff.1 hg).1
      have ho := hok g (List.mem_of_getElem? hg)
      show (keyG S (shI G.length q.n) g).toArray.size ≤ 20000
      rw [List.size_toArray]
      have := key_len (S := S) (k := shI G.length q.n) (g := g) (by omega) ho.2
      have := ho.1
      omega
set_option maxRecDepth 100000 in
set_option maxHeartbeats 1000000 in
theorem shown_is {w : World} {S : List UInt8} {G : List Gr} {sec : BA} {a : Option Addr} {n c : Nat} (h : RB w S G sec a n c) (hG : G.length ≤ 256) (q : ActV) (T : BA) (hT : shT S G q = T) : Calls Tryd.prog 14 #[.agg #[.string sec, .slice a n c], .agg q.cells.toArray] w fun e w' => e = .returned (.string T) ∧ Below w.heap.size w w' := by
  obtain ⟨kd, u, x, now, til, M, od⟩ := q
  show Calls Tryd.prog 14 #[.agg #[.string sec, .slice a n c], .agg #[iv kd, .string u, .string x, iv now, iv til, iv M, .bool od]] w _
  obtain ⟨d, hd⟩ : ∃ d, w.heap.size = d := ⟨_, rfl⟩
  obtain ⟨A, hA⟩ : ∃ A, w.alloc (.cells #[.string sec, .slice a n c] 30) = A := ⟨_, rfl⟩
  obtain ⟨d2, hd2⟩ : ∃ d, A.heap.size = d := ⟨_, rfl⟩
  obtain ⟨B, hB⟩ : ∃ B, A.alloc (.cells #[iv kd, .string u, .string x, iv now, iv til, iv M, .bool od] 32) = B := ⟨_, rfl⟩
  have HB : Hid (Below w.heap.size w B ∧ Blk B d 30 [.string sec, .slice a n c] ∧ Blk B d2 32 (ActV.cells ⟨kd, u, x, now, til, M, od⟩) ∧ RB B S G sec a n c) := by
    have b1 : Below w.heap.size w A := by rw [← hA]; exact below_al _ _
    have b2 : Below A.heap.size A B := by rw [← hB]; exact below_al _ _
    have k1 : Blk A d 30 [.string sec, .slice a n c] := by rw [← hA, ← hd]; exact Blk.new w _ _
    exact ⟨below_tr b1 b2, k1.below b2 k1.lt, by rw [← hB, ← hd2]; exact Blk.new A _ _, (h.below b1).below b2⟩
  have c1 : B.cell? ⟨d, 1, none⟩ = some (.slice a n c) := HB.out.2.1.cell rfl
  have c2 : B.cell? ⟨d2, 2, none⟩ = some (.string x) := HB.out.2.2.1.cell rfl
  have c5 : B.cell? ⟨d2, 5, none⟩ = some (iv M) := HB.out.2.2.1.cell rfl
  have c6 : B.cell? ⟨d2, 6, none⟩ = some (.bool od) := HB.out.2.2.1.cell rfl
  have HN : Hid (n = G.length ∧ G.length ≤ 256) := ⟨h.len, hG⟩
  have qn : (n : Int) ≤ 256 := by have := h.len; omega
  unfold shT at hT
  dsimp only at hT
  clear h hG
  cases od with
  | true =>
    rw [if_pos rfl] at hT
    subst hT
    go_enter Tryd.func14, Tryd.ntmps14
    go_wp2
    go_ret
    exact ⟨rfl, HB.out.1⟩
  | false =>
    rw [if_neg (by simp)] at hT
    by_cases h0 : n = 0
    · have hG0 : G = [] := List.length_eq_zero_iff.1 (by have := HN.out.1; omega)
      rw [hG0] at hT
      simp at hT
      subst hT
      subst h0
      clear hG0
      go_enter Tryd.func14, Tryd.ntmps14
      go_wp2
      go_ret
      exact ⟨rfl, HB.out.1⟩
    · have hp : (0 : Int) ≤ IntKind.u64.wrap M := by rw [IntKind.wrap_u64]; omega
      have hm1 : (IntKind.u64.wrap M).tmod (n : Int) = IntKind.u64.wrap M % (n : Int) := Int.tmod_eq_emod_of_nonneg hp
      have hm2 := Int.emod_nonneg (IntKind.u64.wrap M) (show (n : Int) ≠ 0 by omega)
      have hm3 := Int.emod_lt_of_pos (IntKind.u64.wrap M) (show (0 : Int) < n by omega)
      obtain ⟨i, hi⟩ : ∃ i : Nat, (IntKind.u64.wrap M).tmod (n : Int) = (i : Int) := ⟨((IntKind.u64.wrap M).tmod (n : Int)).toNat, by omega⟩
      have hsi : shI G.length M = i := by unfold shI; rw [← HN.out.1, hi]; simp
      rw [hsi] at hT
      obtain ⟨g, hg⟩ : ∃ g, G[i]? = some g := ⟨_, List.getElem?_eq_getElem (by have := HN.out.1; omega)⟩
      rw [hg] at hT
      dsimp only at hT
      obtain ⟨b, off, rfl, hbl, hra⟩ := HB.out.2.2.2.at hg
      have ck : B.cell? ⟨b, off + i * 4, none⟩ = some (.string T) := by rw [← hT]; exact hra 0 _ rfl
      have q0 : ((n : Int) == 0) = false := by rw [beq_eq_false_iff_ne]; omega
      have qi : (i : Int) < (n : Int) := by omega
      obtain ⟨UN, hUN⟩ : ∃ U, IntKind.u64.wrap M = U := ⟨_, rfl⟩
      rw [hUN] at hi
      have HA : Hid (IntKind.u64.wrap M = UN ∧ IntKind.u64.wrap (n : Int) = (n : Int) ∧ UN.tmod (n : Int) = (i : Int) ∧ ((n : Int) == 0) = false ∧ IntKind.i64.wrap (i : Int) = (i : Int) ∧ 0 ≤ (i : Int) ∧ (i : Int) < (n : Int)) := ⟨hUN, by rw [IntKind.wrap_u64]; omega, hi, q0, by rw [IntKind.wrap_i64]; omega, by omega, by omega⟩
      have HL : Hid (d < B.heap.size ∧ d2 < B.heap.size ∧ b < B.heap.size) := ⟨HB.out.2.1.lt, HB.out.2.2.1.lt, hbl⟩
      clear hUN hp hm1 hm2 hm3 hi hsi hg hT hbl hra h0
      go_enter Tryd.func14, Tryd.ntmps14
      go_wp2_with fail
      refine sh3 HL.out c1 c5 ck HA.out ?_
      intro V1 hV1
      have HV1 : Hid (Below w.heap.size w V1) := below_tr HB.out.1 hV1
      clear hV1
      go_wp2
      go_ret
      exact ⟨rfl, HV1.out⟩
def FewP (l : List ActV) (B : Bool) : Prop := B = true → l.length ≤ 100 ∧ ∀ q ∈ l, q.u.size ≤ 15000 ∧ q.x.size ≤ 15000
theorem zero32 (W : World) : (zeroValue 32).run Tryd.prog W = .ok (.agg #[iv 0, .string e0, .string e0, iv 0, iv 0, iv 0, .bool false]) W := by kernel_rfl
theorem size32 (q : ActV) : (Tryd.prog.info? 32).map (·.size) = some q.cells.length := by show _ = some 7; kernel_rfl
theorem ActV.one (q : ActV) : ∀ v ∈ q.cells, v.oneCell' = true := by
  intro v hv
  simp only [ActV.cells, List.mem_cons, List.not_mem_nil, or_false] at hv
  rcases hv with rfl | rfl | rfl | rfl | rfl | rfl | rfl <;> rfl
set_option maxRecDepth 100000 in
set_option maxHeartbeats 1000000 in
theorem few_is {w : World} {a : Option Addr} {n cp : Nat} {l : List ActV} (h : ArgA w a n l) : Calls Tryd.prog 8 #[.slice a n cp] w fun e w' => ∃ B, e = .returned (.bool B) ∧ FewP l B ∧ Below w.heap.size w w' := by
  have HE : Hid (l.length = n) := h.1
  have qn : (n : Int) ≤ 140737488355328 := by have := h.2.1; omega
  have HRA : Hid (0 < n → ∃ b off, a = some ⟨b, off, none⟩ ∧ b < w.heap.size ∧ ∀ i x, l[i]? = some x → w.rangeAt b (off + i * 7) x.cells) := h.2.2.2
  have HOK : Hid (∀ e ∈ l, e.ok) := h.2.2.1
  have hz := zero32
  clear h
  go_enter Tryd.func8, Tryd.ntmps8
  go_wp2
  go_loopw [8, 3] (fun u t wr => ∃ (i m : Nat), u = iv (i : Int) ∧ t = iv (m : Int) ∧ (m : Int) ≤ 100 ∧ Hid (i ≤ l.length ∧ i ≤ m ∧ (∀ q ∈ l.take i, q.u.size ≤ 15000 ∧ q.x.size ≤ 15000) ∧ Below w.heap.size w wr)) (fun u _ _ => n - (intOf u).toNat)
  case atStart => exact ⟨0, 0, rfl, rfl, by omega, by omega, by omega, by simp, Below.refl _ _⟩
  case round =>
    obtain ⟨i, m, rfl, rfl, qm, HI⟩ := hrel
    by_cases hi : i = n
    · subst hi
      have HF : Hid (FewP l true ∧ Below w.heap.size w wr) := ⟨fun _ => ⟨by have := HI.out.2.1; have := HE.out; omega, fun p hp => HI.out.2.2.1 p (by rw [List.take_of_length_le (by have := HE.out; omega)]; exact hp)⟩, HI.out.2.2.2⟩
      go_wp2
      go_ret
      exact ⟨_, rfl, HF.out.1, HF.out.2⟩
    · have hlt : i < n := by have := HI.out.1; have := HE.out; omega
      have q1 : (i : Int) < (n : Int) := by omega
      obtain ⟨x, hx⟩ : ∃ x, l[i]? = some x := ⟨_, List.getElem?_eq_getElem (by have := HE.out; omega)⟩
      obtain ⟨b, off, rfl, hb, hel⟩ := HRA.out (by omega)
      have hxo := HOK.out x (List.mem_of_getElem? hx)
      have htk : l.take (i + 1) = l.take i ++ [x] := by rw [List.take_add_one, hx]; rfl
      have hra : wr.rangeAt b (off + i * 7) x.cells := rangeAt_same (hel i _ hx) (HI.out.2.2.2.block b hb)
      obtain ⟨kd, u, xx, now, til, M, od⟩ := x
      have HX : Hid (wr.rangeAt b (off + i * 7) (ActV.cells ⟨kd, u, xx, now, til, M, od⟩) ∧ i < n ∧ l.take (i + 1) = l.take i ++ [⟨kd, u, xx, now, til, M, od⟩]) := ⟨hra, hlt, htk⟩
      have qk : (u.size : Int) ≤ 140737488355328 := by have : u.size ≤ _ := hxo.2.1; omega
      have qv : (xx.size : Int) ≤ 140737488355328 := by have : xx.size ≤ _ := hxo.2.2.1; omega
      obtain ⟨g, hg⟩ : ∃ g, wr.heap.size = g := ⟨_, rfl⟩
      have HG : Hid (wr.heap.size = g ∧ w.heap.size ≤ g) := ⟨hg, by have := HI.out.2.2.2.size; omega⟩
      clear hi hlt hx hel hb hxo htk hra
      go_wp2_with (with_reducible change wpList _ _ _ ({ dst := some 11, op := _, type := _, pos := _, after := _, guard := _ } :: _) _ _; refine Hid.out ?_)
      show wpList _ _ _ _ _ _
      refine wpList_load_mid rfl 32 (.tmp 10) rfl b (off + i * 7) rfl (ActV.cells ⟨kd, u, xx, now, til, M, od⟩) _ HX.out.1 Tryd.underlying32 rfl (size32 _) ?_
      go_wp2_with (with_reducible change wpList _ _ _ ({ dst := none, op := Op.store 32 _ _, type := _, pos := _, after := _, guard := _ } :: _) _ _; refine Hid.out ?_)
      show wpList _ _ _ _ _ _
      refine wpList_store_blk rfl 32 (.tmp 5) (.tmp 11) rfl g 0 32 [iv 0, .string e0, .string e0, iv 0, iv 0, iv 0, .bool false] (ActV.cells ⟨kd, u, xx, now, til, M, od⟩) rfl rfl (by rw [← HG.out.1]; exact Blk.new wr _ _) (by show 0 + 7 ≤ 7; omega) (size32 _) (ActV.one _) ?_
      intro W1 hx1 hg1
      have H1 : Hid (Below w.heap.size w W1 ∧ Blk W1 g 32 (ActV.cells ⟨kd, u, xx, now, til, M, od⟩)) := ⟨below_gr (below_tr HI.out.2.2.2 (below_al _ _)) hg1.out HG.out.2, blk_all hx1.out rfl⟩
      have c0 : W1.cell? ⟨g, 0, none⟩ = some (iv kd) := H1.out.2.cell rfl
      have c1 : W1.cell? ⟨g, 1, none⟩ = some (.string u) := H1.out.2.cell rfl
      have c2 : W1.cell? ⟨g, 2, none⟩ = some (.string xx) := H1.out.2.cell rfl
      obtain ⟨Q, hQ⟩ : ∃ Q : Nat, (u.size + xx.size) / 100 = Q := ⟨_, rfl⟩
      have hq1 : ((u.size : Int) + (xx.size : Int)).tdiv 100 = (Q : Int) := by rw [Int.tdiv_eq_ediv_of_nonneg (by omega)]; omega
      have hq2 : ((u.size : Int) + (xx.size : Int)) / 100 = (Q : Int) := by omega
      have qQ : (Q : Int) ≤ 2814749767107 := by omega
      clear hx1 hg1 hg
      by_cases hk3 : kd = 3
      · subst hk3
        by_cases hbig : 100 < m + (1 + Q + 20)
        · have q5 : (100 : Int) < (m : Int) + (1 + (Q : Int)) + 20 := by omega
          clear hbig hQ
          go_wp2
          go_ret
          exact ⟨_, rfl, (fun h => by cases h), H1.out.1⟩
        · have q5 : (m : Int) + (1 + (Q : Int)) + 20 ≤ 100 := by omega
          have HF : Hid (i + 1 ≤ l.length ∧ i + 1 ≤ m + (1 + Q + 20) ∧ (∀ q ∈ l.take (i + 1), q.u.size ≤ 15000 ∧ q.x.size ≤ 15000) ∧ Below w.heap.size w W1) := ⟨by have := HX.out.2.1; have := HE.out; omega, by have := HI.out.2.1; omega, fun p hp => by
            rw [HX.out.2.2] at hp
            rcases List.mem_append.1 hp with hp | hp
            · exact HI.out.2.2.1 p hp
            · obtain rfl := List.mem_singleton.1 hp
              show u.size ≤ 15000 ∧ xx.size ≤ 15000
              omega, H1.out.1⟩
          have HMX : Hid (m + (1 + Q + 20) ≤ 100) := by show _ ≤ _; omega
          clear hbig hQ
          go_wp2
          go_roundw
          case rel => exact ⟨i + 1, m + (1 + Q + 20), by simp, by first | (congr 1; done) | (congr 1; omega), by have := HMX.out; omega, HF.out⟩
          case measure => have := HX.out.2.1; simp only [intOf]; omega
      · have e3 : (kd == 3) = false := by rw [beq_eq_false_iff_ne]; exact hk3
        clear hk3
        by_cases hbig : 100 < m + (1 + Q)
        · have q5 : (100 : Int) < (m : Int) + (1 + (Q : Int)) := by omega
          clear hbig hQ
          go_wp2
          go_ret
          exact ⟨_, rfl, (fun h => by cases h), H1.out.1⟩
        · have q5 : (m : Int) + (1 + (Q : Int)) ≤ 100 := by omega
          have HF : Hid (i + 1 ≤ l.length ∧ i + 1 ≤ m + (1 + Q) ∧ (∀ q ∈ l.take (i + 1), q.u.size ≤ 15000 ∧ q.x.size ≤ 15000) ∧ Below w.heap.size w W1) := ⟨by have := HX.out.2.1; have := HE.out; omega, by have := HI.out.2.1; omega, fun p hp => by
            rw [HX.out.2.2] at hp
            rcases List.mem_append.1 hp with hp | hp
            · exact HI.out.2.2.1 p hp
            · obtain rfl := List.mem_singleton.1 hp
              show u.size ≤ 15000 ∧ xx.size ≤ 15000
              omega, H1.out.1⟩
          have HMX : Hid (m + (1 + Q) ≤ 100) := by show _ ≤ _; omega
          clear hbig hQ
          go_wp2
          go_roundw
          case rel => exact ⟨i + 1, m + (1 + Q), by simp, by first | (congr 1; done) | (congr 1; omega), by have := HMX.out; omega, HF.out⟩
          case measure => have := HX.out.2.1; simp only [intOf]; omega
end Go.Proofs.YtjeahlfmapacfaaDoor.Oct

/- Layer 16 (token): drawn regions of TokenPlays. -/
namespace Go.Proofs.YtjeahlfmapacfaaDoor.Oct
open Go.RowKit Sha
set_option linter.unusedSimpArgs false
set_option linter.unusedVariables false

theorem step_store_blk {P : Program} {ops : Array Oper} {op : Oper} {a : Act} {w : World} {K : Act → World → Prop} {Q : Exit → Act → World → Prop} {E : Prop} (hw : Region.wanted op (yielded ops a.tmps) = true) (ty : TypeId) (x y : Operand) (ho : op.op = .store ty x y)
    (b o : Nat) (t : TypeId) (L : List Value) (cells : List Value) (hx : a.eval x = .pointer (some ⟨b, o, none⟩)) (hy : a.eval y = .agg cells.toArray)
    (hb : Blk w b t L) (hl : o + cells.length ≤ L.length) (hi : (P.info? ty).map (·.size) = some cells.length) (h1 : ∀ v ∈ cells, v.oneCell' = true)
    (h : ∀ w', Hid (Blk w' b t (L.take o ++ cells ++ L.drop (o + cells.length))) → Hid (w.grownBy w' (some b)) → K (a.put op.dst undef) w') : if Region.wanted op (yielded ops a.tmps) = true then Oper.wp P op a w K Q else E := by
  rw [if_pos hw]
  refine wp_store_mid ty x y ho b o cells.toArray hx hy (by simpa using hb.there o cells.length hl) (by simpa using hi) (all_oneCell_toArray h1) ?_
  have e := Blk.setCells cells o w L hb hl
  exact h _ e.1 e.2
theorem build30 (s : BA) (W : World) : (Instr.build 30 #[(0, .string s)]).run Tryd.prog W = .ok (.agg #[.string s, .slice none 0 0]) W := by kernel_rfl
theorem yl_b30 {o : Oper} {a : Act} (V : World) (x : Operand) (s : BA) (hop : o.op = .build 30 #[(0, x)]) (hx : a.eval x = .string s) : (execOp a.eval o).run Tryd.prog V = .ok (.value (.agg #[.string s, .slice none 0 0])) V := by
  unfold execOp
  simp only [hop, Sem.run_bind, Sem.run_pure, Result.andThen_ok, List.map_toArray, List.map_cons, List.map_nil, hx, build30]
theorem yl_cv {o : Oper} {a : Act} (V : World) (x : Operand) (v : Value) (s : BA) (hop : o.op = .convert 22 9 x) (hx : a.eval x = v) (hr : (convert 22 9 v).run Tryd.prog V = .ok (.string s) V) : (execOp a.eval o).run Tryd.prog V = .ok (.value (.string s)) V := by
  unfold execOp
  simp only [hop, Sem.run_bind, Sem.run_pure, Result.andThen_ok, hx, hr]
/-- a book lies above a place -/
def BkHi (w : World) (b m F : Nat) : Prop := ∃ a n c, Blk w b 57 [.slice a n c, .map (some m)] ∧ F ≤ b ∧ F ≤ m ∧ (0 < n → ∀ x, a = some x → F ≤ x.block)
theorem BkHi.below {w w' : World} {b m F : Nat} (h : BkHi w b m F) (hb : Below w.heap.size w w') : BkHi w' b m F := by
  obtain ⟨a, n, c, h1, h2⟩ := h
  exact ⟨a, n, c, h1.below hb h1.lt, h2⟩
theorem BkHi.mono {w : World} {b m F F' : Nat} (h : BkHi w b m F) (hF : F' ≤ F) : BkHi w b m F' := by
  obtain ⟨a, n, c, h1, h2, h3, h4⟩ := h
  exact ⟨a, n, c, h1, Nat.le_trans hF h2, Nat.le_trans hF h3, fun hn x hx => Nat.le_trans hF (h4 hn x hx)⟩
theorem BkHi.cells {w w' : World} {b m d F : Nat} {x y : Value} (h : BkHi w b m F) (hd : Blk w d 30 [x, y]) (hg : w.grownBy w' (some d)) : BkHi w' b m F := by
  obtain ⟨a, n, c, h1, h2⟩ := h
  have hbd : b ≠ d := fun e => by
    subst e
    have := h1.symm.trans hd
    simp at this
  exact ⟨a, n, c, h1.kept hg (by simp; omega), h2⟩
/-- and is kept where a block below is written -/
theorem BkAt.high {w w' : World} {b m F g : Nat} {S : List UInt8} {G : List Gr} (h : BkAt w b m S G) (k : BkHi w b m F) (hg : w.grownBy w' (some g)) (hgF : g < F) : BkAt w' b m S G ∧ BkHi w' b m F := by
  obtain ⟨a, n, c, h1, h2, h3, h4⟩ := k
  obtain ⟨a', n', c', g1, g2, g3⟩ := h.sec
  have e := g1.symm.trans h1
  simp only [Option.some.injEq, Obj.cells.injEq, List.cons.injEq, Value.slice.injEq, and_true, List.toArray_inj, Array.mk.injEq] at e
  obtain ⟨rfl, rfl, rfl⟩ := e
  have hb1 : Blk w' b 57 [.slice a' n' c', .map (some m)] := h1.kept hg (by simp; omega)
  refine ⟨⟨⟨a', n', c', hb1, ?_, g3⟩, h.map.same (hg.block m h.map.lt (by simp; omega)), h.few, h.ok⟩, ⟨a', n', c', hb1, h2, h3, h4⟩⟩
  refine ⟨g2.1, g2.2.1, g2.2.2.1, g2.2.2.2.1, fun hp => ?_⟩
  obtain ⟨sb, off, e1, e2, e3⟩ := g2.2.2.2.2 hp
  have hsb : F ≤ sb := h4 hp _ e1
  exact ⟨sb, off, e1, Nat.lt_of_lt_of_le e2 hg.size, fun i cc hcc => (World.cell?_of_block (a := ⟨sb, off + i, none⟩) (hg.block sb e2 (by simp; omega))).trans (e3 i cc hcc)⟩
def NwQ (w : World) (S : List UInt8) (e : Ending) (w' : World) : Prop := ∃ b m, e = .returned (.pointer (some ⟨b, 0, none⟩)) ∧ BkAt w' b m S [] ∧ Below w.heap.size w w' ∧ BkHi w' b m w.heap.size
set_option maxRecDepth 100000 in
set_option maxHeartbeats 1000000 in
theorem newtok_hi {w : World} {x : Addr} {n c : Nat} {S : List UInt8} (h : In w (some x) n c S) (hn : n ≤ 20000) : Calls Tryd.prog 10 #[.slice (some x) n c] w (NwQ w S) := by
  have hmk := mk55
  have HI : Hid (In w (some x) n c S ∧ n ≤ 20000) := ⟨h, hn⟩
  clear h hn
  go_enter Tryd.func10, Tryd.ntmps10
  go_wp2_with fail
  refine (clone_in HI.out.1).mono ?_
  rintro e W0 ⟨v, rfl, HO, hb0⟩
  obtain ⟨a1, c1, rfl, hin1, -⟩ := own_in HO.out (by have := HI.out.1.1; have := HI.out.2; omega)
  have hlo : ∀ y, a1 = some y → w.heap.size ≤ y.block := by
    intro y hy
    rcases HO.out.2 with ⟨h1, _⟩ | ⟨g, _, _, h1, h2, _⟩
    · injection h1 with h1 _ _; rw [hy] at h1; cases h1
    · injection h1 with h1 _ _; rw [hy] at h1; cases h1; exact h2
  rw [HI.out.1.1] at hin1 ⊢
  obtain ⟨W1, hW1⟩ : ∃ W1, (W0.alloc (.map #[] 0)).alloc (.cells #[.slice a1 n c1, .map (some W0.heap.size)] 57) = W1 := ⟨_, rfl⟩
  have HF : Hid (BkAt W1 (W0.heap.size + 1) W0.heap.size S [] ∧ Below w.heap.size w W1 ∧ BkHi W1 (W0.heap.size + 1) W0.heap.size w.heap.size) := by
    have h1 := new_rest hin1 HI.out.2 hb0
    rw [hW1] at h1
    refine ⟨h1.1, h1.2, a1, n, c1, ?_, by have := hb0.size; omega, hb0.size, fun _ y hy => hlo y hy⟩
    have hs : (W0.alloc (.map #[] 0)).heap.size = W0.heap.size + 1 := by simp
    rw [← hW1, ← hs]
    exact Blk.new _ _ _
  have hbd := build57 a1 n c1 W0.heap.size
  clear HO hb0 hin1 hlo
  go_wp2
  go_ret
  exact ⟨_, _, by first | rfl | simp, HF.out.1, HF.out.2.1, HF.out.2.2⟩
/-- a book is kept where a block of the reference's book is written -/
theorem bk_cells {w w' : World} {b m d : Nat} {S : List UInt8} {G : List Gr} {sx : BA} {ax : Option Addr} {nx cx : Nat} (h : BkAt w b m S G) (hd : Blk w d 30 [.string sx, .slice ax nx cx]) (hg : w.grownBy w' (some d)) : BkAt w' b m S G := by
  obtain ⟨a, n, c, h1, h2, h3⟩ := h.sec
  have hbd : b ≠ d := fun e => by
    subst e
    have := h1.symm.trans hd
    simp at this
  have hmd : m ≠ d := fun e => by subst e; exact mp_not_cells h.map (hd.cell (i := 0) rfl)
  refine ⟨⟨a, n, c, h1.kept hg (by simp; omega), ?_, h3⟩, h.map.same (hg.block m h.map.lt (by simp; omega)), h.few, h.ok⟩
  refine ⟨h2.1, h2.2.1, h2.2.2.1, h2.2.2.2.1, fun hp => ?_⟩
  obtain ⟨sb, off, e1, e2, e3⟩ := h2.2.2.2.2 hp
  refine ⟨sb, off, e1, Nat.lt_of_lt_of_le e2 hg.size, fun i cc hcc => ?_⟩
  have hne : sb ≠ d := fun e => by
    subst e
    have h4 := e3 i cc hcc
    have h5 : off + i = 0 ∨ off + i = 1 ∨ 2 ≤ off + i := by omega
    rcases h5 with h5 | h5 | h5
    · rw [h5, hd.cell (i := 0) rfl] at h4; cases h4
    · rw [h5, hd.cell (i := 1) rfl] at h4; cases h4
    · unfold World.cell? at h4
      rw [show w.heap[sb]? = _ from hd] at h4
      simp at h4
      rw [List.getElem?_eq_none (by show 2 ≤ _; exact h5)] at h4
      cases h4
  exact (World.cell?_of_block (a := ⟨sb, off + i, none⟩) (hg.block sb e2 (by simp; omega))).trans (e3 i cc hcc)
set_option maxRecDepth 100000 in
set_option maxHeartbeats 4000000 in
theorem pl4 {Q : Exit → Act → World → Prop} {x1 x2 x3 x4 x6 x7 x8 x9 x10 x11 x12 x13 x14 x15 x16 x17 x18 x19 x20 x21 x22 x23 x24 x25 x26 x27 x28 x29 x30 x31 x32 x33 x34 x35 x36 x37 x38 x39 x40 x41 x42 x43 x44 x45 x46 x47 x48 x49 x50 x51 x52 x53 x54 x55 x56 x57 x58 x59 x60 x61 x62 x63 x64 x65 x66 x67 x68 x69 x70 x71 x72 x73 x74 x75 x76 x77 x78 x79 x80 x81 x82 x83 x84 x85 x86 x87 x88 x89 x90 x91 x92 x93 x94 x95 x96 x97 x98 x99 x100 x101 x102 x103 x104 x105 x106 x107 x108 x109 x110 x111 x112 x113 x114 x115 x116 x117 x118 x119 x120 x121 x122 x123 x124 x125 x126 x127 x128 x129 x130 x131 x132 x133 x134 x135 x136 x137 x138 x139 x140 x141 x142 x143 x144 x145 x146 x147 x148 x149 x150 x151 x152 x153 x154 x155 x156 x157 x158 x159 x160 x161 x162 x163 x164 x165 : Value} {ds : List Deferred} {A : World} {sv gv : Value} {sec : BA} {S : List UInt8}
    (H10 : Hid (∀ V, Below A.heap.size A V → Calls Tryd.prog 10 #[gv] V (NwQ V S))) (HCV : Hid (∀ V, Below A.heap.size A V → (convert 22 9 sv).run Tryd.prog V = .ok (.string sec) V))
    (hQ : ∀ V1 b1 m1 d7, BkAt V1 b1 m1 S [] → Blk V1 d7 30 [.string sec, .slice none 0 0] → Below A.heap.size A V1 → BkHi V1 b1 m1 A.heap.size → A.heap.size ≤ d7 → Q .normal { tmps := #[sv, x1, x2, x3, x4, gv, .pointer (some ⟨b1, 0, none⟩), .pointer (some ⟨d7, 0, none⟩), x8, x9, x10, x11, x12, x13, x14, x15, x16, x17, x18, x19, x20, x21, x22, x23, x24, x25, x26, x27, x28, x29, x30, x31, x32, x33, x34, gv, .pointer (some ⟨b1, 0, none⟩), sv, .string sec, .agg #[.string sec, .slice none 0 0], x40, x41, x42, x43, x44, x45, x46, x47, x48, x49, x50, x51, x52, x53, x54, x55, x56, x57, x58, x59, x60, x61, x62, x63, x64, x65, x66, x67, x68, x69, x70, x71, x72, x73, x74, x75, x76, x77, x78, x79, x80, x81, x82, x83, x84, x85, x86, x87, x88, x89, x90, x91, x92, x93, x94, x95, x96, x97, x98, x99, x100, x101, x102, x103, x104, x105, x106, x107, x108, x109, x110, x111, x112, x113, x114, x115, x116, x117, x118, x119, x120, x121, x122, x123, x124, x125, x126, x127, x128, x129, x130, x131, x132, x133, x134, x135, x136, x137, x138, x139, x140, x141, x142, x143, x144, x145, x146, x147, x148, x149, x150, x151, x152, x153, x154, x155, x156, x157, x158, x159, x160, x161, x162, x163, x164, x165], defers := ds } V1) :
    (Code.region 4 #[{ dst := some 35, op := Op.move (Operand.tmp 5), type := 22, pos := "law.go:57", after := #[], guard := none }, { dst := some 36, op := Op.call { callee := Callee.value (Operand.func 10), args := #[Operand.tmp 35], argTypes := #[22] }, type := 26, pos := "law.go:57", after := #[{ on := 0, ground := Ground.data }], guard := none }, { dst := some 37, op := Op.move (Operand.tmp 0), type := 22, pos := "law.go:57", after := #[{ on := 6, ground := Ground.gcOnly Departure.lateStores }], guard := none }, { dst := some 38, op := Op.convert 22 9 (Operand.tmp 37), type := 9, pos := "law.go:57", after := #[{ on := 2, ground := Ground.data }, { on := 6, ground := Ground.gcOnly Departure.lateStores }], guard := none }, { dst := some 39, op := Op.build 30 #[(0, Operand.tmp 38)], type := 30, pos := "law.go:57", after := #[{ on := 3, ground := Ground.data }, { on := 6, ground := Ground.gcOnly Departure.lateStores }], guard := none }, { dst := some 7, op := Op.alloc 30, type := 0, pos := "law.go:57", after := #[], guard := none }, { dst := some 6, op := Op.assign (Operand.tmp 36), type := 26, pos := "law.go:57", after := #[{ on := 1, ground := Ground.data }, { on := 1, ground := Ground.chain }, { on := 0, ground := Ground.phase }, { on := 1, ground := Ground.phase }, { on := 2, ground := Ground.textOnly Departure.lateStores }, { on := 3, ground := Ground.textOnly Departure.lateStores }, { on := 4, ground := Ground.textOnly Departure.lateStores }, { on := 5, ground := Ground.phase }], guard := none }, { dst := none, op := Op.store 30 (Operand.tmp 7) (Operand.tmp 39), type := 0, pos := "law.go:57", after := #[{ on := 5, ground := Ground.data }, { on := 4, ground := Ground.data }, { on := 6, ground := Ground.chain }, { on := 0, ground := Ground.phase }, { on := 1, ground := Ground.phase }, { on := 2, ground := Ground.phase }, { on := 3, ground := Ground.phase }, { on := 4, ground := Ground.phase }, { on := 5, ground := Ground.phase }, { on := 6, ground := Ground.phase }], guard := none }] true).wp Tryd.prog Q { tmps := #[sv, x1, x2, x3, x4, gv, x6, x7, x8, x9, x10, x11, x12, x13, x14, x15, x16, x17, x18, x19, x20, x21, x22, x23, x24, x25, x26, x27, x28, x29, x30, x31, x32, x33, x34, x35, x36, x37, x38, x39, x40, x41, x42, x43, x44, x45, x46, x47, x48, x49, x50, x51, x52, x53, x54, x55, x56, x57, x58, x59, x60, x61, x62, x63, x64, x65, x66, x67, x68, x69, x70, x71, x72, x73, x74, x75, x76, x77, x78, x79, x80, x81, x82, x83, x84, x85, x86, x87, x88, x89, x90, x91, x92, x93, x94, x95, x96, x97, x98, x99, x100, x101, x102, x103, x104, x105, x106, x107, x108, x109, x110, x111, x112, x113, x114, x115, x116, x117, x118, x119, x120, x121, x122, x123, x124, x125, x126, x127, x128, x129, x130, x131, x132, x133, x134, x135, x136, x137, x138, x139, x140, x141, x142, x143, x144, x145, x146, x147, x148, x149, x150, x151, x152, x153, x154, x155, x156, x157, x158, x159, x160, x161, x162, x163, x164, x165], defers := ds } A := by
  refine Code.wp_mono (Q := fun x a' w' => match x with | .normal => Q .normal a' w' | _ => False) (by intro x a' w' h; cases x <;> first | exact h | exact h.elim) ?_
  refine wp_region_held (S := fun V => Below A.heap.size A V) (by kernel_rfl) ?_
  have hS0 : Hid (Below A.heap.size A A.drew) := below_drew0 A
  change wpAnyH Tryd.prog .any _ _ (fun V => Below A.heap.size A V) 8 (Array.replicate 8 false) _ A.drew
  obtain ⟨V0, hV0⟩ : ∃ V0, A.drew = V0 := ⟨_, rfl⟩
  rw [hV0]
  rw [hV0] at hS0
  clear hV0
  refine wpAnyH_take (i := 0) (oi := { dst := some 35, op := Op.move (Operand.tmp 5), type := 22, pos := "law.go:57", after := #[], guard := none }) (v := gv) rfl (by kernel_rfl) (by kernel_rfl) (by kernel_rfl) (fun _ _ _ h => h.elim) (Or.inl ⟨by rfl, ?y1⟩) hS0.out ?_
  case y1 =>
    intro V hV
    go_simp
  simp only [Act.put, List.setIfInBounds_toArray, List.set_cons_zero, List.set_cons_succ]
  refine wpAnyH_take (i := 2) (oi := { dst := some 37, op := Op.move (Operand.tmp 0), type := 22, pos := "law.go:57", after := #[{ on := 6, ground := Ground.gcOnly Departure.lateStores }], guard := none }) (v := sv) rfl (by kernel_rfl) (by kernel_rfl) (by kernel_rfl) (fun _ _ _ h => h.elim) (Or.inl ⟨by rfl, ?y2⟩) hS0.out ?_
  case y2 =>
    intro V hV
    go_simp
  simp only [Act.put, List.setIfInBounds_toArray, List.set_cons_zero, List.set_cons_succ]
  refine wpAnyH_take (i := 3) (oi := { dst := some 38, op := Op.convert 22 9 (Operand.tmp 37), type := 9, pos := "law.go:57", after := #[{ on := 2, ground := Ground.data }, { on := 6, ground := Ground.gcOnly Departure.lateStores }], guard := none }) (v := .string sec) rfl (by kernel_rfl) (by kernel_rfl) (by kernel_rfl) (fun _ _ _ h => h.elim) (Or.inl ⟨by rfl, ?y3⟩) hS0.out ?_
  case y3 =>
    intro V hV
    exact yl_cv V _ _ sec rfl rfl (HCV.out V hV)
  simp only [Act.put, List.setIfInBounds_toArray, List.set_cons_zero, List.set_cons_succ]
  refine wpAnyH_take (i := 4) (oi := { dst := some 39, op := Op.build 30 #[(0, Operand.tmp 38)], type := 30, pos := "law.go:57", after := #[{ on := 3, ground := Ground.data }, { on := 6, ground := Ground.gcOnly Departure.lateStores }], guard := none }) (v := .agg #[.string sec, .slice none 0 0]) rfl (by kernel_rfl) (by kernel_rfl) (by kernel_rfl) (fun _ _ _ h => h.elim) (Or.inl ⟨by rfl, ?y4⟩) hS0.out ?_
  case y4 =>
    intro V hV
    exact yl_b30 V _ sec rfl rfl
  simp only [Act.put, List.setIfInBounds_toArray, List.set_cons_zero, List.set_cons_succ]
  refine wpAnyH_ready (rs := [1, 5]) (by kernel_rfl) (by simp) (AllReadyH.cons (i := 1) (o := { dst := some 36, op := Op.call { callee := Callee.value (Operand.func 10), args := #[Operand.tmp 35], argTypes := #[22] }, type := 26, pos := "law.go:57", after := #[{ on := 0, ground := Ground.data }], guard := none }) rfl ?_ (AllReadyH.cons (i := 5) (o := { dst := some 7, op := Op.alloc 30, type := 0, pos := "law.go:57", after := #[], guard := none }) rfl ?_ AllReadyH.nil))
  · intro K1 hK1
    rw [if_pos (by rfl)]
    have HC1 := H10.out V0 hS0.out
    go_wp2_with fail
    refine HC1.mono ?_
    rintro e V1 ⟨b1, m1, rfl, hB1, hb1, hm1⟩
    dsimp only
    clear HC1
    have hS1 : Hid (Below A.heap.size A V1) := hS0.out.trans (hb1.mono hS0.out.size)
    have hKK1 : Hid (BkAt V1 b1 m1 S [] ∧ BkHi V1 b1 m1 A.heap.size) := ⟨hB1, hm1.mono hS0.out.size⟩
    clear hB1 hb1 hm1
    refine hK1.out _ _ hS1.out ?_
    clear hK1
    intro _
    try simp only [Act.put, List.setIfInBounds_toArray, List.set_cons_zero, List.set_cons_succ]
    refine wpAnyH_ready (rs := [5]) (by kernel_rfl) (by simp) (AllReadyH.cons (i := 5) (o := { dst := some 7, op := Op.alloc 30, type := 0, pos := "law.go:57", after := #[], guard := none }) rfl ?_ AllReadyH.nil)
    · intro K1 hK1
      rw [if_pos (by rfl)]
      have hz := zero30
      obtain ⟨V2, hv2⟩ : ∃ V, V1.alloc (.cells #[.string e0, .slice none 0 0] 30) = V := ⟨_, rfl⟩
      obtain ⟨q2, hq2⟩ : ∃ q, V1.heap.size = q := ⟨_, rfl⟩
      have hb2 : Below V1.heap.size V1 V2 := by rw [← hv2]; exact below_al _ _
      have hS2 : Hid (Below A.heap.size A V2) := hS1.out.trans (hb2.mono hS1.out.size)
      have hD2 : Hid (Blk V2 q2 30 [.string e0, .slice none 0 0] ∧ A.heap.size ≤ q2) := ⟨by rw [← hv2, ← hq2]; exact Blk.new V1 _ _, by rw [← hq2]; exact hS1.out.size⟩
      have hKK2 : Hid (BkAt V2 b1 m1 S [] ∧ BkHi V2 b1 m1 A.heap.size) := ⟨hKK1.out.1.below hb2, hKK1.out.2.below hb2⟩
      go_wp2
      clear hv2 hq2 hb2 hz
      refine hK1.out _ _ hS2.out ?_
      clear hK1
      intro _
      try simp only [Act.put, List.setIfInBounds_toArray, List.set_cons_zero, List.set_cons_succ]
      refine wpAnyH_take (i := 6) (oi := { dst := some 6, op := Op.assign (Operand.tmp 36), type := 26, pos := "law.go:57", after := #[{ on := 1, ground := Ground.data }, { on := 1, ground := Ground.chain }, { on := 0, ground := Ground.phase }, { on := 1, ground := Ground.phase }, { on := 2, ground := Ground.textOnly Departure.lateStores }, { on := 3, ground := Ground.textOnly Departure.lateStores }, { on := 4, ground := Ground.textOnly Departure.lateStores }, { on := 5, ground := Ground.phase }], guard := none }) (v := .pointer (some ⟨b1, 0, none⟩)) rfl (by kernel_rfl) (by kernel_rfl) (by kernel_rfl) (fun _ _ _ h => h.elim) (Or.inl ⟨by rfl, ?y5⟩) hS2.out ?_
      case y5 =>
        intro V hV
        go_simp
      simp only [Act.put, List.setIfInBounds_toArray, List.set_cons_zero, List.set_cons_succ]
      refine wpAnyH_ready (rs := [7]) (by kernel_rfl) (by simp) (AllReadyH.cons (i := 7) (o := { dst := none, op := Op.store 30 (Operand.tmp 7) (Operand.tmp 39), type := 0, pos := "law.go:57", after := #[{ on := 5, ground := Ground.data }, { on := 4, ground := Ground.data }, { on := 6, ground := Ground.chain }, { on := 0, ground := Ground.phase }, { on := 1, ground := Ground.phase }, { on := 2, ground := Ground.phase }, { on := 3, ground := Ground.phase }, { on := 4, ground := Ground.phase }, { on := 5, ground := Ground.phase }, { on := 6, ground := Ground.phase }], guard := none }) rfl ?_ AllReadyH.nil)
      · intro K1 hK1
        refine step_store_blk (by rfl) 30 (.tmp 7) (.tmp 39) rfl q2 0 30 [.string e0, .slice none 0 0] [.string sec, .slice none 0 0] rfl rfl hD2.out.1 (by show 0 + 2 ≤ 2; omega) (size30 _ _) (rb_one _ _ _ _) ?_
        intro V3 hx3 hg3
        have hS3 : Hid (Below A.heap.size A V3) := hS2.out.grown hg3.out hS2.out.size (fun j hj => by cases hj; exact hD2.out.2)
        have hD3 : Hid (Blk V3 q2 30 [.string sec, .slice none 0 0] ∧ A.heap.size ≤ q2) := ⟨blk_all hx3.out rfl, hD2.out.2⟩
        have hKK3 : Hid (BkAt V3 b1 m1 S [] ∧ BkHi V3 b1 m1 A.heap.size) := ⟨bk_cells hKK2.out.1 hD2.out.1 hg3.out, hKK2.out.2.cells hD2.out.1 hg3.out⟩
        clear hx3 hg3
        refine hK1.out _ _ hS3.out ?_
        clear hK1
        intro _
        try simp only [Act.put, List.setIfInBounds_toArray, List.set_cons_zero, List.set_cons_succ]
        refine wpAnyH_done (by kernel_rfl) ?_ _
        exact hQ V3 b1 m1 q2 hKK3.out.1 hD3.out.1 hS3.out hKK3.out.2 hD3.out.2
  · intro K1 hK1
    rw [if_pos (by rfl)]
    have hz := zero30
    obtain ⟨V1, hv1⟩ : ∃ V, V0.alloc (.cells #[.string e0, .slice none 0 0] 30) = V := ⟨_, rfl⟩
    obtain ⟨q1, hq1⟩ : ∃ q, V0.heap.size = q := ⟨_, rfl⟩
    have hb1 : Below V0.heap.size V0 V1 := by rw [← hv1]; exact below_al _ _
    have hS1 : Hid (Below A.heap.size A V1) := hS0.out.trans (hb1.mono hS0.out.size)
    have hD1 : Hid (Blk V1 q1 30 [.string e0, .slice none 0 0] ∧ A.heap.size ≤ q1) := ⟨by rw [← hv1, ← hq1]; exact Blk.new V0 _ _, by rw [← hq1]; exact hS0.out.size⟩
    go_wp2
    clear hv1 hq1 hb1 hz
    refine hK1.out _ _ hS1.out ?_
    clear hK1
    intro _
    try simp only [Act.put, List.setIfInBounds_toArray, List.set_cons_zero, List.set_cons_succ]
    refine wpAnyH_ready (rs := [1]) (by kernel_rfl) (by simp) (AllReadyH.cons (i := 1) (o := { dst := some 36, op := Op.call { callee := Callee.value (Operand.func 10), args := #[Operand.tmp 35], argTypes := #[22] }, type := 26, pos := "law.go:57", after := #[{ on := 0, ground := Ground.data }], guard := none }) rfl ?_ AllReadyH.nil)
    · intro K1 hK1
      rw [if_pos (by rfl)]
      have HC2 := H10.out V1 hS1.out
      go_wp2_with fail
      refine HC2.mono ?_
      rintro e V2 ⟨b1, m1, rfl, hB2, hb2, hm2⟩
      dsimp only
      clear HC2
      have hS2 : Hid (Below A.heap.size A V2) := hS1.out.trans (hb2.mono hS1.out.size)
      have hKK2 : Hid (BkAt V2 b1 m1 S [] ∧ BkHi V2 b1 m1 A.heap.size) := ⟨hB2, hm2.mono hS1.out.size⟩
      have hD2 : Hid (Blk V2 q1 30 [.string e0, .slice none 0 0] ∧ A.heap.size ≤ q1) := ⟨hD1.out.1.below hb2 hD1.out.1.lt, hD1.out.2⟩
      clear hB2 hb2 hm2
      refine hK1.out _ _ hS2.out ?_
      clear hK1
      intro _
      try simp only [Act.put, List.setIfInBounds_toArray, List.set_cons_zero, List.set_cons_succ]
      refine wpAnyH_take (i := 6) (oi := { dst := some 6, op := Op.assign (Operand.tmp 36), type := 26, pos := "law.go:57", after := #[{ on := 1, ground := Ground.data }, { on := 1, ground := Ground.chain }, { on := 0, ground := Ground.phase }, { on := 1, ground := Ground.phase }, { on := 2, ground := Ground.textOnly Departure.lateStores }, { on := 3, ground := Ground.textOnly Departure.lateStores }, { on := 4, ground := Ground.textOnly Departure.lateStores }, { on := 5, ground := Ground.phase }], guard := none }) (v := .pointer (some ⟨b1, 0, none⟩)) rfl (by kernel_rfl) (by kernel_rfl) (by kernel_rfl) (fun _ _ _ h => h.elim) (Or.inl ⟨by rfl, ?y6⟩) hS2.out ?_
      case y6 =>
        intro V hV
        go_simp
      simp only [Act.put, List.setIfInBounds_toArray, List.set_cons_zero, List.set_cons_succ]
      refine wpAnyH_ready (rs := [7]) (by kernel_rfl) (by simp) (AllReadyH.cons (i := 7) (o := { dst := none, op := Op.store 30 (Operand.tmp 7) (Operand.tmp 39), type := 0, pos := "law.go:57", after := #[{ on := 5, ground := Ground.data }, { on := 4, ground := Ground.data }, { on := 6, ground := Ground.chain }, { on := 0, ground := Ground.phase }, { on := 1, ground := Ground.phase }, { on := 2, ground := Ground.phase }, { on := 3, ground := Ground.phase }, { on := 4, ground := Ground.phase }, { on := 5, ground := Ground.phase }, { on := 6, ground := Ground.phase }], guard := none }) rfl ?_ AllReadyH.nil)
      · intro K1 hK1
        refine step_store_blk (by rfl) 30 (.tmp 7) (.tmp 39) rfl q1 0 30 [.string e0, .slice none 0 0] [.string sec, .slice none 0 0] rfl rfl hD2.out.1 (by show 0 + 2 ≤ 2; omega) (size30 _ _) (rb_one _ _ _ _) ?_
        intro V3 hx3 hg3
        have hS3 : Hid (Below A.heap.size A V3) := hS2.out.grown hg3.out hS2.out.size (fun j hj => by cases hj; exact hD2.out.2)
        have hD3 : Hid (Blk V3 q1 30 [.string sec, .slice none 0 0] ∧ A.heap.size ≤ q1) := ⟨blk_all hx3.out rfl, hD2.out.2⟩
        have hKK3 : Hid (BkAt V3 b1 m1 S [] ∧ BkHi V3 b1 m1 A.heap.size) := ⟨bk_cells hKK2.out.1 hD2.out.1 hg3.out, hKK2.out.2.cells hD2.out.1 hg3.out⟩
        clear hx3 hg3
        refine hK1.out _ _ hS3.out ?_
        clear hK1
        intro _
        try simp only [Act.put, List.setIfInBounds_toArray, List.set_cons_zero, List.set_cons_succ]
        refine wpAnyH_done (by kernel_rfl) ?_ _
        exact hQ V3 b1 m1 q1 hKK3.out.1 hD3.out.1 hS3.out hKK3.out.2 hD3.out.2
set_option maxRecDepth 100000 in
set_option maxHeartbeats 4000000 in
theorem pl32 {Q : Exit → Act → World → Prop} {x0 x1 x2 x3 x4 x5 x8 x9 x11 x12 x13 x14 x15 x16 x17 x18 x19 x20 x21 x22 x23 x24 x25 x26 x27 x28 x29 x30 x31 x32 x33 x34 x35 x36 x37 x38 x39 x40 x41 x42 x43 x44 x45 x46 x47 x48 x49 x50 x51 x52 x53 x54 x55 x56 x57 x58 x59 x60 x61 x62 x63 x64 x65 x66 x67 x68 x69 x70 x71 x72 x73 x74 x75 x76 x77 x78 x79 x80 x81 x82 x83 x84 x85 x86 x87 x88 x89 x90 x91 x92 x93 x94 x95 x96 x97 x98 x99 x100 x101 x102 x103 x104 x105 x106 x107 x108 x109 x110 x111 x112 x113 x114 x115 x116 x117 x118 x119 x120 x121 x122 x123 x124 x125 x126 x127 x128 x129 x130 x131 x132 x133 x134 x135 x136 x137 x138 x139 x140 x141 x142 x143 x144 x145 x146 x147 x148 x149 x150 x151 x152 x153 x154 x155 x156 x157 x158 x159 x160 x161 x162 x163 x164 x165 : Value} {ds : List Deferred} {A : World} {d7 d10 b1 n cp : Nat} {sec X U : BA} {a : Option Addr} {q : ActV} {now E : Int}
    (HL : Hid (d7 < A.heap.size ∧ d10 < A.heap.size)) (HR7 : Hid (A.rangeAt d7 0 [.string sec, .slice a n cp])) (HR10 : Hid (A.rangeAt d10 0 q.cells)) (c3 : A.cell? ⟨d10, 3, none⟩ = some (iv now)) (H14 : Hid (∀ V, Below A.heap.size A V → Calls Tryd.prog 14 #[.agg #[.string sec, .slice a n cp], .agg q.cells.toArray] V fun e V2 => e = .returned (.string X) ∧ Below V.heap.size V V2)) (H13 : Hid (∀ V, Below A.heap.size A V → Calls Tryd.prog 13 #[.pointer (some ⟨b1, 0, none⟩), .string X, iv now] V fun e V2 => e = .returned (.tuple #[.string U, iv E]) ∧ Below V.heap.size V V2))
    (hQ : ∀ V1, Below A.heap.size A V1 → Q .normal { tmps := #[x0, x1, x2, x3, x4, x5, .pointer (some ⟨b1, 0, none⟩), .pointer (some ⟨d7, 0, none⟩), x8, x9, .pointer (some ⟨d10, 0, none⟩), x11, x12, x13, x14, x15, .string U, iv E, x18, x19, x20, x21, x22, x23, x24, x25, x26, x27, x28, x29, x30, x31, x32, x33, x34, x35, x36, x37, x38, x39, x40, x41, x42, x43, x44, x45, x46, x47, x48, x49, x50, x51, x52, x53, x54, x55, x56, x57, x58, x59, x60, x61, x62, x63, x64, x65, x66, x67, x68, x69, x70, x71, x72, x73, x74, x75, x76, x77, x78, x79, x80, x81, x82, x83, x84, x85, x86, x87, x88, x89, x90, x91, x92, x93, x94, x95, x96, x97, x98, x99, x100, x101, x102, x103, x104, x105, x106, x107, x108, x109, x110, x111, x112, x113, x114, x115, x116, x117, x118, x119, x120, x121, x122, x123, x124, x125, x126, x127, x128, x129, .tuple #[.string U, iv E], .pointer (some ⟨b1, 0, none⟩), .agg #[.string sec, .slice a n cp], .agg q.cells.toArray, .string X, .pointer (some ⟨d10, 3, none⟩), iv now, .tuple #[.string U, iv E], .string U, iv E, x140, x141, x142, x143, x144, x145, x146, x147, x148, x149, x150, x151, x152, x153, x154, x155, x156, x157, x158, x159, x160, x161, x162, x163, x164, x165], defers := ds } V1) :
    (Code.region 32 #[{ dst := some 131, op := Op.move (Operand.tmp 6), type := 26, pos := "law.go:74", after := #[], guard := none }, { dst := some 132, op := Op.load 30 (Operand.tmp 7), type := 30, pos := "law.go:74", after := #[], guard := none }, { dst := some 133, op := Op.load 32 (Operand.tmp 10), type := 32, pos := "law.go:74", after := #[], guard := none }, { dst := some 134, op := Op.call { callee := Callee.value (Operand.func 14), args := #[Operand.tmp 132, Operand.tmp 133], argTypes := #[30, 32] }, type := 9, pos := "law.go:74", after := #[{ on := 1, ground := Ground.data }, { on := 2, ground := Ground.data }], guard := none }, { dst := some 135, op := Op.fieldAddr 32 (Operand.tmp 10) 3, type := 0, pos := "law.go:74", after := #[], guard := none }, { dst := some 136, op := Op.load 3 (Operand.tmp 135), type := 3, pos := "law.go:74", after := #[{ on := 4, ground := Ground.data }], guard := none }, { dst := some 137, op := Op.call { callee := Callee.value (Operand.func 13), args := #[Operand.tmp 131, Operand.tmp 134, Operand.tmp 136], argTypes := #[26, 9, 3] }, type := 34, pos := "law.go:74", after := #[{ on := 0, ground := Ground.data }, { on := 3, ground := Ground.data }, { on := 5, ground := Ground.data }, { on := 3, ground := Ground.chain }], guard := none }, { dst := some 130, op := Op.move (Operand.tmp 137), type := 34, pos := "law.go:74", after := #[{ on := 6, ground := Ground.data }], guard := none }, { dst := some 138, op := Op.extract (Operand.tmp 130) 0, type := 9, pos := "law.go:74", after := #[{ on := 7, ground := Ground.data }], guard := none }, { dst := some 139, op := Op.extract (Operand.tmp 130) 1, type := 33, pos := "law.go:74", after := #[{ on := 7, ground := Ground.data }, { on := 10, ground := Ground.gcOnly Departure.lateStores }], guard := none }, { dst := some 16, op := Op.assign (Operand.tmp 138), type := 9, pos := "law.go:74", after := #[{ on := 8, ground := Ground.data }, { on := 6, ground := Ground.chain }, { on := 0, ground := Ground.phase }, { on := 1, ground := Ground.phase }, { on := 2, ground := Ground.phase }, { on := 3, ground := Ground.phase }, { on := 4, ground := Ground.phase }, { on := 5, ground := Ground.phase }, { on := 6, ground := Ground.phase }, { on := 7, ground := Ground.phase }, { on := 8, ground := Ground.phase }, { on := 9, ground := Ground.textOnly Departure.lateStores }], guard := none }, { dst := some 17, op := Op.assign (Operand.tmp 139), type := 33, pos := "law.go:74", after := #[{ on := 9, ground := Ground.data }, { on := 10, ground := Ground.chain }, { on := 0, ground := Ground.phase }, { on := 1, ground := Ground.phase }, { on := 2, ground := Ground.phase }, { on := 3, ground := Ground.phase }, { on := 4, ground := Ground.phase }, { on := 5, ground := Ground.phase }, { on := 6, ground := Ground.phase }, { on := 7, ground := Ground.phase }, { on := 8, ground := Ground.phase }, { on := 9, ground := Ground.phase }, { on := 10, ground := Ground.phase }], guard := none }] true).wp Tryd.prog Q { tmps := #[x0, x1, x2, x3, x4, x5, .pointer (some ⟨b1, 0, none⟩), .pointer (some ⟨d7, 0, none⟩), x8, x9, .pointer (some ⟨d10, 0, none⟩), x11, x12, x13, x14, x15, x16, x17, x18, x19, x20, x21, x22, x23, x24, x25, x26, x27, x28, x29, x30, x31, x32, x33, x34, x35, x36, x37, x38, x39, x40, x41, x42, x43, x44, x45, x46, x47, x48, x49, x50, x51, x52, x53, x54, x55, x56, x57, x58, x59, x60, x61, x62, x63, x64, x65, x66, x67, x68, x69, x70, x71, x72, x73, x74, x75, x76, x77, x78, x79, x80, x81, x82, x83, x84, x85, x86, x87, x88, x89, x90, x91, x92, x93, x94, x95, x96, x97, x98, x99, x100, x101, x102, x103, x104, x105, x106, x107, x108, x109, x110, x111, x112, x113, x114, x115, x116, x117, x118, x119, x120, x121, x122, x123, x124, x125, x126, x127, x128, x129, x130, x131, x132, x133, x134, x135, x136, x137, x138, x139, x140, x141, x142, x143, x144, x145, x146, x147, x148, x149, x150, x151, x152, x153, x154, x155, x156, x157, x158, x159, x160, x161, x162, x163, x164, x165], defers := ds } A := by
  refine Code.wp_mono (Q := fun x a' w' => match x with | .normal => Q .normal a' w' | _ => False) (by intro x a' w' h; cases x <;> first | exact h | exact h.elim) ?_
  refine wp_region_held (S := fun V => Below A.heap.size A V) (by kernel_rfl) ?_
  have hS0 : Hid (Below A.heap.size A A.drew) := below_drew0 A
  change wpAnyH Tryd.prog .any _ _ (fun V => Below A.heap.size A V) 12 (Array.replicate 12 false) _ A.drew
  obtain ⟨V0, hV0⟩ : ∃ V0, A.drew = V0 := ⟨_, rfl⟩
  rw [hV0]
  rw [hV0] at hS0
  clear hV0
  refine wpAnyH_take (i := 0) (oi := { dst := some 131, op := Op.move (Operand.tmp 6), type := 26, pos := "law.go:74", after := #[], guard := none }) (v := .pointer (some ⟨b1, 0, none⟩)) rfl (by kernel_rfl) (by kernel_rfl) (by kernel_rfl) (fun _ _ _ h => h.elim) (Or.inl ⟨by rfl, ?y1⟩) hS0.out ?_
  case y1 =>
    intro V hV
    go_simp
  simp only [Act.put, List.setIfInBounds_toArray, List.set_cons_zero, List.set_cons_succ]
  refine wpAnyH_take (i := 1) (oi := { dst := some 132, op := Op.load 30 (Operand.tmp 7), type := 30, pos := "law.go:74", after := #[], guard := none }) (v := .agg #[.string sec, .slice a n cp]) rfl (by kernel_rfl) (by kernel_rfl) (by kernel_rfl) (fun _ _ _ h => h.elim) (yieldsIf_load_mid (by rfl) _ _ rfl _ _ rfl ([.string sec, .slice a n cp]) _ (fun V hV => rangeAt_same (HR7.out) ((show Below A.heap.size A V from hV).block _ (HL.out.1))) Tryd.underlying30 rfl (size30 _ _)) hS0.out ?_
  simp only [Act.put, List.setIfInBounds_toArray, List.set_cons_zero, List.set_cons_succ]
  refine wpAnyH_take (i := 2) (oi := { dst := some 133, op := Op.load 32 (Operand.tmp 10), type := 32, pos := "law.go:74", after := #[], guard := none }) (v := .agg q.cells.toArray) rfl (by kernel_rfl) (by kernel_rfl) (by kernel_rfl) (fun _ _ _ h => h.elim) (yieldsIf_load_mid (by rfl) _ _ rfl _ _ rfl (q.cells) _ (fun V hV => rangeAt_same (HR10.out) ((show Below A.heap.size A V from hV).block _ (HL.out.2))) Tryd.underlying32 rfl (size32 _)) hS0.out ?_
  simp only [Act.put, List.setIfInBounds_toArray, List.set_cons_zero, List.set_cons_succ]
  refine wpAnyH_take (i := 4) (oi := { dst := some 135, op := Op.fieldAddr 32 (Operand.tmp 10) 3, type := 0, pos := "law.go:74", after := #[], guard := none }) (v := .pointer (some ⟨d10, 3, none⟩)) rfl (by kernel_rfl) (by kernel_rfl) (by kernel_rfl) (fun _ _ _ h => h.elim) (Or.inl ⟨by rfl, ?y2⟩) hS0.out ?_
  case y2 =>
    intro V hV
    go_simp
  simp only [Act.put, List.setIfInBounds_toArray, List.set_cons_zero, List.set_cons_succ]
  refine wpAnyH_take (i := 5) (oi := { dst := some 136, op := Op.load 3 (Operand.tmp 135), type := 3, pos := "law.go:74", after := #[{ on := 4, ground := Ground.data }], guard := none }) (v := iv now) rfl (by kernel_rfl) (by kernel_rfl) (by kernel_rfl) (fun _ _ _ h => h.elim) (Or.inl ⟨by rfl, ?y3⟩) hS0.out ?_
  case y3 =>
    intro V hV
    have hc : V.cell? ⟨d10, 3, none⟩ = some (iv now) := ((show Below A.heap.size A V from hV).cell (p := ⟨d10, 3, none⟩) HL.out.2).trans c3
    go_simp
  simp only [Act.put, List.setIfInBounds_toArray, List.set_cons_zero, List.set_cons_succ]
  refine wpAnyH_ready (rs := [3]) (by kernel_rfl) (by simp) (AllReadyH.cons (i := 3) (o := { dst := some 134, op := Op.call { callee := Callee.value (Operand.func 14), args := #[Operand.tmp 132, Operand.tmp 133], argTypes := #[30, 32] }, type := 9, pos := "law.go:74", after := #[{ on := 1, ground := Ground.data }, { on := 2, ground := Ground.data }], guard := none }) rfl ?_ AllReadyH.nil)
  · intro K1 hK1
    rw [if_pos (by rfl)]
    have HC1 := H14.out V0 hS0.out
    go_wp2_with fail
    refine HC1.mono ?_
    rintro e V1 ⟨rfl, hb1⟩
    dsimp only
    clear HC1
    have hS1 : Hid (Below A.heap.size A V1) := hS0.out.trans (hb1.mono hS0.out.size)
    clear hb1
    refine hK1.out _ _ hS1.out ?_
    clear hK1
    intro _
    try simp only [Act.put, List.setIfInBounds_toArray, List.set_cons_zero, List.set_cons_succ]
    refine wpAnyH_ready (rs := [6]) (by kernel_rfl) (by simp) (AllReadyH.cons (i := 6) (o := { dst := some 137, op := Op.call { callee := Callee.value (Operand.func 13), args := #[Operand.tmp 131, Operand.tmp 134, Operand.tmp 136], argTypes := #[26, 9, 3] }, type := 34, pos := "law.go:74", after := #[{ on := 0, ground := Ground.data }, { on := 3, ground := Ground.data }, { on := 5, ground := Ground.data }, { on := 3, ground := Ground.chain }], guard := none }) rfl ?_ AllReadyH.nil)
    · intro K1 hK1
      rw [if_pos (by rfl)]
      have HC2 := H13.out V1 hS1.out
      go_wp2_with fail
      refine HC2.mono ?_
      rintro e V2 ⟨rfl, hb2⟩
      dsimp only
      clear HC2
      have hS2 : Hid (Below A.heap.size A V2) := hS1.out.trans (hb2.mono hS1.out.size)
      clear hb2
      refine hK1.out _ _ hS2.out ?_
      clear hK1
      intro _
      try simp only [Act.put, List.setIfInBounds_toArray, List.set_cons_zero, List.set_cons_succ]
      refine wpAnyH_take (i := 7) (oi := { dst := some 130, op := Op.move (Operand.tmp 137), type := 34, pos := "law.go:74", after := #[{ on := 6, ground := Ground.data }], guard := none }) (v := .tuple #[.string U, iv E]) rfl (by kernel_rfl) (by kernel_rfl) (by kernel_rfl) (fun _ _ _ h => h.elim) (Or.inl ⟨by rfl, ?y4⟩) hS2.out ?_
      case y4 =>
        intro V hV
        go_simp
      simp only [Act.put, List.setIfInBounds_toArray, List.set_cons_zero, List.set_cons_succ]
      refine wpAnyH_take (i := 8) (oi := { dst := some 138, op := Op.extract (Operand.tmp 130) 0, type := 9, pos := "law.go:74", after := #[{ on := 7, ground := Ground.data }], guard := none }) (v := .string U) rfl (by kernel_rfl) (by kernel_rfl) (by kernel_rfl) (fun _ _ _ h => h.elim) (Or.inl ⟨by rfl, ?y5⟩) hS2.out ?_
      case y5 =>
        intro V hV
        go_simp
      simp only [Act.put, List.setIfInBounds_toArray, List.set_cons_zero, List.set_cons_succ]
      refine wpAnyH_take (i := 9) (oi := { dst := some 139, op := Op.extract (Operand.tmp 130) 1, type := 33, pos := "law.go:74", after := #[{ on := 7, ground := Ground.data }, { on := 10, ground := Ground.gcOnly Departure.lateStores }], guard := none }) (v := iv E) rfl (by kernel_rfl) (by kernel_rfl) (by kernel_rfl) (fun _ _ _ h => h.elim) (Or.inl ⟨by rfl, ?y6⟩) hS2.out ?_
      case y6 =>
        intro V hV
        go_simp
      simp only [Act.put, List.setIfInBounds_toArray, List.set_cons_zero, List.set_cons_succ]
      refine wpAnyH_take (i := 10) (oi := { dst := some 16, op := Op.assign (Operand.tmp 138), type := 9, pos := "law.go:74", after := #[{ on := 8, ground := Ground.data }, { on := 6, ground := Ground.chain }, { on := 0, ground := Ground.phase }, { on := 1, ground := Ground.phase }, { on := 2, ground := Ground.phase }, { on := 3, ground := Ground.phase }, { on := 4, ground := Ground.phase }, { on := 5, ground := Ground.phase }, { on := 6, ground := Ground.phase }, { on := 7, ground := Ground.phase }, { on := 8, ground := Ground.phase }, { on := 9, ground := Ground.textOnly Departure.lateStores }], guard := none }) (v := .string U) rfl (by kernel_rfl) (by kernel_rfl) (by kernel_rfl) (fun _ _ _ h => h.elim) (Or.inl ⟨by rfl, ?y7⟩) hS2.out ?_
      case y7 =>
        intro V hV
        go_simp
      simp only [Act.put, List.setIfInBounds_toArray, List.set_cons_zero, List.set_cons_succ]
      refine wpAnyH_take (i := 11) (oi := { dst := some 17, op := Op.assign (Operand.tmp 139), type := 33, pos := "law.go:74", after := #[{ on := 9, ground := Ground.data }, { on := 10, ground := Ground.chain }, { on := 0, ground := Ground.phase }, { on := 1, ground := Ground.phase }, { on := 2, ground := Ground.phase }, { on := 3, ground := Ground.phase }, { on := 4, ground := Ground.phase }, { on := 5, ground := Ground.phase }, { on := 6, ground := Ground.phase }, { on := 7, ground := Ground.phase }, { on := 8, ground := Ground.phase }, { on := 9, ground := Ground.phase }, { on := 10, ground := Ground.phase }], guard := none }) (v := iv E) rfl (by kernel_rfl) (by kernel_rfl) (by kernel_rfl) (fun _ _ _ h => h.elim) (Or.inl ⟨by rfl, ?y8⟩) hS2.out ?_
      case y8 =>
        intro V hV
        go_simp
      simp only [Act.put, List.setIfInBounds_toArray, List.set_cons_zero, List.set_cons_succ]
      refine wpAnyH_done (by kernel_rfl) ?_ _
      exact hQ V2 hS2.out
set_option maxRecDepth 100000 in
set_option maxHeartbeats 4000000 in
theorem pl33 {Q : Exit → Act → World → Prop} {x0 x1 x2 x3 x4 x5 x8 x9 x11 x12 x13 x14 x15 x16 x17 x18 x19 x20 x21 x22 x23 x24 x25 x26 x27 x28 x29 x30 x31 x32 x33 x34 x35 x36 x37 x38 x39 x40 x41 x42 x43 x44 x45 x46 x47 x48 x49 x50 x51 x52 x53 x54 x55 x56 x57 x58 x59 x60 x61 x62 x63 x64 x65 x66 x67 x68 x69 x70 x71 x72 x73 x74 x75 x76 x77 x78 x79 x80 x81 x82 x83 x84 x85 x86 x87 x88 x89 x90 x91 x92 x93 x94 x95 x96 x97 x98 x99 x100 x101 x102 x103 x104 x105 x106 x107 x108 x109 x110 x111 x112 x113 x114 x115 x116 x117 x118 x119 x120 x121 x122 x123 x124 x125 x126 x127 x128 x129 x130 x131 x132 x133 x134 x135 x136 x137 x138 x139 x140 x141 x142 x143 x144 x145 x146 x147 x148 x149 x150 x151 x152 x153 x154 x155 x156 x157 x158 x159 x160 x161 x162 x163 x164 x165 : Value} {ds : List Deferred} {A : World} {d7 d10 b1 n cp : Nat} {sec X U : BA} {a : Option Addr} {q : ActV} {now E : Int}
    (HL : Hid (d7 < A.heap.size ∧ d10 < A.heap.size)) (HR7 : Hid (A.rangeAt d7 0 [.string sec, .slice a n cp])) (HR10 : Hid (A.rangeAt d10 0 q.cells)) (c3 : A.cell? ⟨d10, 3, none⟩ = some (iv now)) (H14 : Hid (∀ V, Below A.heap.size A V → Calls Tryd.prog 14 #[.agg #[.string sec, .slice a n cp], .agg q.cells.toArray] V fun e V2 => e = .returned (.string X) ∧ Below V.heap.size V V2)) (H15 : Hid (∀ V, Below A.heap.size A V → Calls Tryd.prog 15 #[.agg #[.string sec, .slice a n cp], .string X, iv now] V fun e V2 => e = .returned (.tuple #[.string U, iv E]) ∧ Below V.heap.size V V2))
    (hQ : ∀ V1, Below A.heap.size A V1 → Q .normal { tmps := #[x0, x1, x2, x3, x4, x5, .pointer (some ⟨b1, 0, none⟩), .pointer (some ⟨d7, 0, none⟩), x8, x9, .pointer (some ⟨d10, 0, none⟩), x11, x12, x13, x14, x15, x16, x17, .string U, iv E, x20, x21, x22, x23, x24, x25, x26, x27, x28, x29, x30, x31, x32, x33, x34, x35, x36, x37, x38, x39, x40, x41, x42, x43, x44, x45, x46, x47, x48, x49, x50, x51, x52, x53, x54, x55, x56, x57, x58, x59, x60, x61, x62, x63, x64, x65, x66, x67, x68, x69, x70, x71, x72, x73, x74, x75, x76, x77, x78, x79, x80, x81, x82, x83, x84, x85, x86, x87, x88, x89, x90, x91, x92, x93, x94, x95, x96, x97, x98, x99, x100, x101, x102, x103, x104, x105, x106, x107, x108, x109, x110, x111, x112, x113, x114, x115, x116, x117, x118, x119, x120, x121, x122, x123, x124, x125, x126, x127, x128, x129, x130, x131, x132, x133, x134, x135, x136, x137, x138, x139, .tuple #[.string U, iv E], .agg #[.string sec, .slice a n cp], .agg #[.string sec, .slice a n cp], .agg q.cells.toArray, .string X, .pointer (some ⟨d10, 3, none⟩), iv now, .tuple #[.string U, iv E], .string U, iv E, x150, x151, x152, x153, x154, x155, x156, x157, x158, x159, x160, x161, x162, x163, x164, x165], defers := ds } V1) :
    (Code.region 33 #[{ dst := some 141, op := Op.load 30 (Operand.tmp 7), type := 30, pos := "law.go:75", after := #[], guard := none }, { dst := some 142, op := Op.load 30 (Operand.tmp 7), type := 30, pos := "law.go:75", after := #[], guard := none }, { dst := some 143, op := Op.load 32 (Operand.tmp 10), type := 32, pos := "law.go:75", after := #[], guard := none }, { dst := some 144, op := Op.call { callee := Callee.value (Operand.func 14), args := #[Operand.tmp 142, Operand.tmp 143], argTypes := #[30, 32] }, type := 9, pos := "law.go:75", after := #[{ on := 1, ground := Ground.data }, { on := 2, ground := Ground.data }], guard := none }, { dst := some 145, op := Op.fieldAddr 32 (Operand.tmp 10) 3, type := 0, pos := "law.go:75", after := #[], guard := none }, { dst := some 146, op := Op.load 3 (Operand.tmp 145), type := 3, pos := "law.go:75", after := #[{ on := 4, ground := Ground.data }], guard := none }, { dst := some 147, op := Op.call { callee := Callee.value (Operand.func 15), args := #[Operand.tmp 141, Operand.tmp 144, Operand.tmp 146], argTypes := #[30, 9, 3] }, type := 40, pos := "law.go:75", after := #[{ on := 0, ground := Ground.data }, { on := 3, ground := Ground.data }, { on := 5, ground := Ground.data }, { on := 3, ground := Ground.chain }], guard := none }, { dst := some 140, op := Op.move (Operand.tmp 147), type := 40, pos := "law.go:75", after := #[{ on := 6, ground := Ground.data }], guard := none }, { dst := some 148, op := Op.extract (Operand.tmp 140) 0, type := 9, pos := "law.go:75", after := #[{ on := 7, ground := Ground.data }], guard := none }, { dst := some 149, op := Op.extract (Operand.tmp 140) 1, type := 3, pos := "law.go:75", after := #[{ on := 7, ground := Ground.data }, { on := 10, ground := Ground.gcOnly Departure.lateStores }], guard := none }, { dst := some 18, op := Op.assign (Operand.tmp 148), type := 9, pos := "law.go:75", after := #[{ on := 8, ground := Ground.data }, { on := 6, ground := Ground.chain }, { on := 0, ground := Ground.phase }, { on := 1, ground := Ground.phase }, { on := 2, ground := Ground.phase }, { on := 3, ground := Ground.phase }, { on := 4, ground := Ground.phase }, { on := 5, ground := Ground.phase }, { on := 6, ground := Ground.phase }, { on := 7, ground := Ground.phase }, { on := 8, ground := Ground.phase }, { on := 9, ground := Ground.textOnly Departure.lateStores }], guard := none }, { dst := some 19, op := Op.assign (Operand.tmp 149), type := 3, pos := "law.go:75", after := #[{ on := 9, ground := Ground.data }, { on := 10, ground := Ground.chain }, { on := 0, ground := Ground.phase }, { on := 1, ground := Ground.phase }, { on := 2, ground := Ground.phase }, { on := 3, ground := Ground.phase }, { on := 4, ground := Ground.phase }, { on := 5, ground := Ground.phase }, { on := 6, ground := Ground.phase }, { on := 7, ground := Ground.phase }, { on := 8, ground := Ground.phase }, { on := 9, ground := Ground.phase }, { on := 10, ground := Ground.phase }], guard := none }] true).wp Tryd.prog Q { tmps := #[x0, x1, x2, x3, x4, x5, .pointer (some ⟨b1, 0, none⟩), .pointer (some ⟨d7, 0, none⟩), x8, x9, .pointer (some ⟨d10, 0, none⟩), x11, x12, x13, x14, x15, x16, x17, x18, x19, x20, x21, x22, x23, x24, x25, x26, x27, x28, x29, x30, x31, x32, x33, x34, x35, x36, x37, x38, x39, x40, x41, x42, x43, x44, x45, x46, x47, x48, x49, x50, x51, x52, x53, x54, x55, x56, x57, x58, x59, x60, x61, x62, x63, x64, x65, x66, x67, x68, x69, x70, x71, x72, x73, x74, x75, x76, x77, x78, x79, x80, x81, x82, x83, x84, x85, x86, x87, x88, x89, x90, x91, x92, x93, x94, x95, x96, x97, x98, x99, x100, x101, x102, x103, x104, x105, x106, x107, x108, x109, x110, x111, x112, x113, x114, x115, x116, x117, x118, x119, x120, x121, x122, x123, x124, x125, x126, x127, x128, x129, x130, x131, x132, x133, x134, x135, x136, x137, x138, x139, x140, x141, x142, x143, x144, x145, x146, x147, x148, x149, x150, x151, x152, x153, x154, x155, x156, x157, x158, x159, x160, x161, x162, x163, x164, x165], defers := ds } A := by
  refine Code.wp_mono (Q := fun x a' w' => match x with | .normal => Q .normal a' w' | _ => False) (by intro x a' w' h; cases x <;> first | exact h | exact h.elim) ?_
  refine wp_region_held (S := fun V => Below A.heap.size A V) (by kernel_rfl) ?_
  have hS0 : Hid (Below A.heap.size A A.drew) := below_drew0 A
  change wpAnyH Tryd.prog .any _ _ (fun V => Below A.heap.size A V) 12 (Array.replicate 12 false) _ A.drew
  obtain ⟨V0, hV0⟩ : ∃ V0, A.drew = V0 := ⟨_, rfl⟩
  rw [hV0]
  rw [hV0] at hS0
  clear hV0
  refine wpAnyH_take (i := 0) (oi := { dst := some 141, op := Op.load 30 (Operand.tmp 7), type := 30, pos := "law.go:75", after := #[], guard := none }) (v := .agg #[.string sec, .slice a n cp]) rfl (by kernel_rfl) (by kernel_rfl) (by kernel_rfl) (fun _ _ _ h => h.elim) (yieldsIf_load_mid (by rfl) _ _ rfl _ _ rfl ([.string sec, .slice a n cp]) _ (fun V hV => rangeAt_same (HR7.out) ((show Below A.heap.size A V from hV).block _ (HL.out.1))) Tryd.underlying30 rfl (size30 _ _)) hS0.out ?_
  simp only [Act.put, List.setIfInBounds_toArray, List.set_cons_zero, List.set_cons_succ]
  refine wpAnyH_take (i := 1) (oi := { dst := some 142, op := Op.load 30 (Operand.tmp 7), type := 30, pos := "law.go:75", after := #[], guard := none }) (v := .agg #[.string sec, .slice a n cp]) rfl (by kernel_rfl) (by kernel_rfl) (by kernel_rfl) (fun _ _ _ h => h.elim) (yieldsIf_load_mid (by rfl) _ _ rfl _ _ rfl ([.string sec, .slice a n cp]) _ (fun V hV => rangeAt_same (HR7.out) ((show Below A.heap.size A V from hV).block _ (HL.out.1))) Tryd.underlying30 rfl (size30 _ _)) hS0.out ?_
  simp only [Act.put, List.setIfInBounds_toArray, List.set_cons_zero, List.set_cons_succ]
  refine wpAnyH_take (i := 2) (oi := { dst := some 143, op := Op.load 32 (Operand.tmp 10), type := 32, pos := "law.go:75", after := #[], guard := none }) (v := .agg q.cells.toArray) rfl (by kernel_rfl) (by kernel_rfl) (by kernel_rfl) (fun _ _ _ h => h.elim) (yieldsIf_load_mid (by rfl) _ _ rfl _ _ rfl (q.cells) _ (fun V hV => rangeAt_same (HR10.out) ((show Below A.heap.size A V from hV).block _ (HL.out.2))) Tryd.underlying32 rfl (size32 _)) hS0.out ?_
  simp only [Act.put, List.setIfInBounds_toArray, List.set_cons_zero, List.set_cons_succ]
  refine wpAnyH_take (i := 4) (oi := { dst := some 145, op := Op.fieldAddr 32 (Operand.tmp 10) 3, type := 0, pos := "law.go:75", after := #[], guard := none }) (v := .pointer (some ⟨d10, 3, none⟩)) rfl (by kernel_rfl) (by kernel_rfl) (by kernel_rfl) (fun _ _ _ h => h.elim) (Or.inl ⟨by rfl, ?y1⟩) hS0.out ?_
  case y1 =>
    intro V hV
    go_simp
  simp only [Act.put, List.setIfInBounds_toArray, List.set_cons_zero, List.set_cons_succ]
  refine wpAnyH_take (i := 5) (oi := { dst := some 146, op := Op.load 3 (Operand.tmp 145), type := 3, pos := "law.go:75", after := #[{ on := 4, ground := Ground.data }], guard := none }) (v := iv now) rfl (by kernel_rfl) (by kernel_rfl) (by kernel_rfl) (fun _ _ _ h => h.elim) (Or.inl ⟨by rfl, ?y2⟩) hS0.out ?_
  case y2 =>
    intro V hV
    have hc : V.cell? ⟨d10, 3, none⟩ = some (iv now) := ((show Below A.heap.size A V from hV).cell (p := ⟨d10, 3, none⟩) HL.out.2).trans c3
    go_simp
  simp only [Act.put, List.setIfInBounds_toArray, List.set_cons_zero, List.set_cons_succ]
  refine wpAnyH_ready (rs := [3]) (by kernel_rfl) (by simp) (AllReadyH.cons (i := 3) (o := { dst := some 144, op := Op.call { callee := Callee.value (Operand.func 14), args := #[Operand.tmp 142, Operand.tmp 143], argTypes := #[30, 32] }, type := 9, pos := "law.go:75", after := #[{ on := 1, ground := Ground.data }, { on := 2, ground := Ground.data }], guard := none }) rfl ?_ AllReadyH.nil)
  · intro K1 hK1
    rw [if_pos (by rfl)]
    have HC1 := H14.out V0 hS0.out
    go_wp2_with fail
    refine HC1.mono ?_
    rintro e V1 ⟨rfl, hb1⟩
    dsimp only
    clear HC1
    have hS1 : Hid (Below A.heap.size A V1) := hS0.out.trans (hb1.mono hS0.out.size)
    clear hb1
    refine hK1.out _ _ hS1.out ?_
    clear hK1
    intro _
    try simp only [Act.put, List.setIfInBounds_toArray, List.set_cons_zero, List.set_cons_succ]
    refine wpAnyH_ready (rs := [6]) (by kernel_rfl) (by simp) (AllReadyH.cons (i := 6) (o := { dst := some 147, op := Op.call { callee := Callee.value (Operand.func 15), args := #[Operand.tmp 141, Operand.tmp 144, Operand.tmp 146], argTypes := #[30, 9, 3] }, type := 40, pos := "law.go:75", after := #[{ on := 0, ground := Ground.data }, { on := 3, ground := Ground.data }, { on := 5, ground := Ground.data }, { on := 3, ground := Ground.chain }], guard := none }) rfl ?_ AllReadyH.nil)
    · intro K1 hK1
      rw [if_pos (by rfl)]
      have HC2 := H15.out V1 hS1.out
      go_wp2_with fail
      refine HC2.mono ?_
      rintro e V2 ⟨rfl, hb2⟩
      dsimp only
      clear HC2
      have hS2 : Hid (Below A.heap.size A V2) := hS1.out.trans (hb2.mono hS1.out.size)
      clear hb2
      refine hK1.out _ _ hS2.out ?_
      clear hK1
      intro _
      try simp only [Act.put, List.setIfInBounds_toArray, List.set_cons_zero, List.set_cons_succ]
      refine wpAnyH_take (i := 7) (oi := { dst := some 140, op := Op.move (Operand.tmp 147), type := 40, pos := "law.go:75", after := #[{ on := 6, ground := Ground.data }], guard := none }) (v := .tuple #[.string U, iv E]) rfl (by kernel_rfl) (by kernel_rfl) (by kernel_rfl) (fun _ _ _ h => h.elim) (Or.inl ⟨by rfl, ?y3⟩) hS2.out ?_
      case y3 =>
        intro V hV
        go_simp
      simp only [Act.put, List.setIfInBounds_toArray, List.set_cons_zero, List.set_cons_succ]
      refine wpAnyH_take (i := 8) (oi := { dst := some 148, op := Op.extract (Operand.tmp 140) 0, type := 9, pos := "law.go:75", after := #[{ on := 7, ground := Ground.data }], guard := none }) (v := .string U) rfl (by kernel_rfl) (by kernel_rfl) (by kernel_rfl) (fun _ _ _ h => h.elim) (Or.inl ⟨by rfl, ?y4⟩) hS2.out ?_
      case y4 =>
        intro V hV
        go_simp
      simp only [Act.put, List.setIfInBounds_toArray, List.set_cons_zero, List.set_cons_succ]
      refine wpAnyH_take (i := 9) (oi := { dst := some 149, op := Op.extract (Operand.tmp 140) 1, type := 3, pos := "law.go:75", after := #[{ on := 7, ground := Ground.data }, { on := 10, ground := Ground.gcOnly Departure.lateStores }], guard := none }) (v := iv E) rfl (by kernel_rfl) (by kernel_rfl) (by kernel_rfl) (fun _ _ _ h => h.elim) (Or.inl ⟨by rfl, ?y5⟩) hS2.out ?_
      case y5 =>
        intro V hV
        go_simp
      simp only [Act.put, List.setIfInBounds_toArray, List.set_cons_zero, List.set_cons_succ]
      refine wpAnyH_take (i := 10) (oi := { dst := some 18, op := Op.assign (Operand.tmp 148), type := 9, pos := "law.go:75", after := #[{ on := 8, ground := Ground.data }, { on := 6, ground := Ground.chain }, { on := 0, ground := Ground.phase }, { on := 1, ground := Ground.phase }, { on := 2, ground := Ground.phase }, { on := 3, ground := Ground.phase }, { on := 4, ground := Ground.phase }, { on := 5, ground := Ground.phase }, { on := 6, ground := Ground.phase }, { on := 7, ground := Ground.phase }, { on := 8, ground := Ground.phase }, { on := 9, ground := Ground.textOnly Departure.lateStores }], guard := none }) (v := .string U) rfl (by kernel_rfl) (by kernel_rfl) (by kernel_rfl) (fun _ _ _ h => h.elim) (Or.inl ⟨by rfl, ?y6⟩) hS2.out ?_
      case y6 =>
        intro V hV
        go_simp
      simp only [Act.put, List.setIfInBounds_toArray, List.set_cons_zero, List.set_cons_succ]
      refine wpAnyH_take (i := 11) (oi := { dst := some 19, op := Op.assign (Operand.tmp 149), type := 3, pos := "law.go:75", after := #[{ on := 9, ground := Ground.data }, { on := 10, ground := Ground.chain }, { on := 0, ground := Ground.phase }, { on := 1, ground := Ground.phase }, { on := 2, ground := Ground.phase }, { on := 3, ground := Ground.phase }, { on := 4, ground := Ground.phase }, { on := 5, ground := Ground.phase }, { on := 6, ground := Ground.phase }, { on := 7, ground := Ground.phase }, { on := 8, ground := Ground.phase }, { on := 9, ground := Ground.phase }, { on := 10, ground := Ground.phase }], guard := none }) (v := iv E) rfl (by kernel_rfl) (by kernel_rfl) (by kernel_rfl) (fun _ _ _ h => h.elim) (Or.inl ⟨by rfl, ?y7⟩) hS2.out ?_
      case y7 =>
        intro V hV
        go_simp
      simp only [Act.put, List.setIfInBounds_toArray, List.set_cons_zero, List.set_cons_succ]
      refine wpAnyH_done (by kernel_rfl) ?_ _
      exact hQ V2 hS2.out
set_option maxRecDepth 100000 in
set_option maxHeartbeats 4000000 in
theorem pl36 {Q : Exit → Act → World → Prop} {x0 x1 x2 x3 x4 x5 x8 x9 x10 x11 x12 x13 x14 x15 x16 x17 x18 x19 x20 x21 x22 x23 x24 x25 x26 x27 x28 x29 x30 x31 x32 x33 x34 x35 x36 x37 x38 x39 x40 x41 x42 x43 x44 x45 x46 x47 x48 x49 x50 x51 x52 x53 x54 x55 x56 x57 x58 x59 x60 x61 x62 x63 x64 x65 x66 x67 x68 x69 x70 x71 x72 x73 x74 x75 x76 x77 x78 x79 x80 x81 x82 x83 x84 x85 x86 x87 x88 x89 x90 x91 x92 x93 x94 x95 x96 x97 x98 x99 x100 x101 x102 x103 x104 x105 x106 x107 x108 x109 x110 x111 x112 x113 x114 x115 x116 x117 x118 x119 x120 x121 x122 x123 x124 x125 x126 x127 x128 x129 x130 x131 x132 x133 x134 x135 x136 x137 x138 x139 x140 x141 x142 x143 x144 x145 x146 x147 x148 x149 x150 x151 x152 x153 x154 x155 x156 x157 x158 x159 x160 x161 x162 x163 x164 x165 : Value} {ds : List Deferred} {A : World} {d7 d10 b1 n cp : Nat} {a : Option Addr}
    (HL : Hid (d7 < A.heap.size ∧ True)) (c1 : A.cell? ⟨d7, 1, none⟩ = some (.slice a n cp)) (H18 : Hid (∀ V, Below A.heap.size A V → Calls Tryd.prog 18 #[.pointer (some ⟨b1, 0, none⟩)] V fun e V2 => e = .returned (iv (n : Int)) ∧ V = V2))
    (hQ : ∀ V1, Below A.heap.size A V1 → Q .normal { tmps := #[x0, x1, x2, x3, x4, x5, .pointer (some ⟨b1, 0, none⟩), .pointer (some ⟨d7, 0, none⟩), x8, x9, x10, x11, x12, x13, x14, x15, x16, x17, x18, x19, x20, x21, x22, x23, x24, x25, x26, x27, x28, x29, x30, x31, x32, x33, x34, x35, x36, x37, x38, x39, x40, x41, x42, x43, x44, x45, x46, x47, x48, x49, x50, x51, x52, x53, x54, x55, x56, x57, x58, x59, x60, x61, x62, x63, x64, x65, x66, x67, x68, x69, x70, x71, x72, x73, x74, x75, x76, x77, x78, x79, x80, x81, x82, x83, x84, x85, x86, x87, x88, x89, x90, x91, x92, x93, x94, x95, x96, x97, x98, x99, x100, x101, x102, x103, x104, x105, x106, x107, x108, x109, x110, x111, x112, x113, x114, x115, x116, x117, x118, x119, x120, x121, x122, x123, x124, x125, x126, x127, x128, x129, x130, x131, x132, x133, x134, x135, x136, x137, x138, x139, x140, x141, x142, x143, x144, x145, x146, x147, x148, x149, x150, x151, x152, x153, x154, x155, x156, x157, .pointer (some ⟨b1, 0, none⟩), iv (n : Int), .pointer (some ⟨d7, 1, none⟩), .slice a n cp, iv (n : Int), .bool false, x164, x165], defers := ds } V1) :
    (Code.region 36 #[{ dst := some 158, op := Op.move (Operand.tmp 6), type := 26, pos := "law.go:88", after := #[], guard := none }, { dst := some 159, op := Op.call { callee := Callee.value (Operand.func 18), args := #[Operand.tmp 158], argTypes := #[26] }, type := 3, pos := "law.go:88", after := #[{ on := 0, ground := Ground.data }], guard := none }, { dst := some 160, op := Op.fieldAddr 30 (Operand.tmp 7) 1, type := 0, pos := "law.go:88", after := #[], guard := none }, { dst := some 161, op := Op.load 28 (Operand.tmp 160), type := 28, pos := "law.go:88", after := #[{ on := 2, ground := Ground.data }], guard := none }, { dst := some 162, op := Op.call { callee := Callee.builtin Builtin.len, args := #[Operand.tmp 161], argTypes := #[28] }, type := 3, pos := "law.go:88", after := #[{ on := 3, ground := Ground.data }], guard := none }, { dst := some 163, op := Op.binOp BinOp.neq 3 (Operand.tmp 159) (Operand.tmp 162) 3, type := 4, pos := "law.go:88", after := #[{ on := 1, ground := Ground.data }, { on := 4, ground := Ground.data }], guard := none }] true).wp Tryd.prog Q { tmps := #[x0, x1, x2, x3, x4, x5, .pointer (some ⟨b1, 0, none⟩), .pointer (some ⟨d7, 0, none⟩), x8, x9, x10, x11, x12, x13, x14, x15, x16, x17, x18, x19, x20, x21, x22, x23, x24, x25, x26, x27, x28, x29, x30, x31, x32, x33, x34, x35, x36, x37, x38, x39, x40, x41, x42, x43, x44, x45, x46, x47, x48, x49, x50, x51, x52, x53, x54, x55, x56, x57, x58, x59, x60, x61, x62, x63, x64, x65, x66, x67, x68, x69, x70, x71, x72, x73, x74, x75, x76, x77, x78, x79, x80, x81, x82, x83, x84, x85, x86, x87, x88, x89, x90, x91, x92, x93, x94, x95, x96, x97, x98, x99, x100, x101, x102, x103, x104, x105, x106, x107, x108, x109, x110, x111, x112, x113, x114, x115, x116, x117, x118, x119, x120, x121, x122, x123, x124, x125, x126, x127, x128, x129, x130, x131, x132, x133, x134, x135, x136, x137, x138, x139, x140, x141, x142, x143, x144, x145, x146, x147, x148, x149, x150, x151, x152, x153, x154, x155, x156, x157, x158, x159, x160, x161, x162, x163, x164, x165], defers := ds } A := by
  refine Code.wp_mono (Q := fun x a' w' => match x with | .normal => Q .normal a' w' | _ => False) (by intro x a' w' h; cases x <;> first | exact h | exact h.elim) ?_
  refine wp_region_held (S := fun V => Below A.heap.size A V) (by kernel_rfl) ?_
  have hS0 : Hid (Below A.heap.size A A.drew) := below_drew0 A
  change wpAnyH Tryd.prog .any _ _ (fun V => Below A.heap.size A V) 6 (Array.replicate 6 false) _ A.drew
  obtain ⟨V0, hV0⟩ : ∃ V0, A.drew = V0 := ⟨_, rfl⟩
  rw [hV0]
  rw [hV0] at hS0
  clear hV0
  refine wpAnyH_take (i := 0) (oi := { dst := some 158, op := Op.move (Operand.tmp 6), type := 26, pos := "law.go:88", after := #[], guard := none }) (v := .pointer (some ⟨b1, 0, none⟩)) rfl (by kernel_rfl) (by kernel_rfl) (by kernel_rfl) (fun _ _ _ h => h.elim) (Or.inl ⟨by rfl, ?y1⟩) hS0.out ?_
  case y1 =>
    intro V hV
    go_simp
  simp only [Act.put, List.setIfInBounds_toArray, List.set_cons_zero, List.set_cons_succ]
  refine wpAnyH_take (i := 2) (oi := { dst := some 160, op := Op.fieldAddr 30 (Operand.tmp 7) 1, type := 0, pos := "law.go:88", after := #[], guard := none }) (v := .pointer (some ⟨d7, 1, none⟩)) rfl (by kernel_rfl) (by kernel_rfl) (by kernel_rfl) (fun _ _ _ h => h.elim) (Or.inl ⟨by rfl, ?y2⟩) hS0.out ?_
  case y2 =>
    intro V hV
    go_simp
  simp only [Act.put, List.setIfInBounds_toArray, List.set_cons_zero, List.set_cons_succ]
  refine wpAnyH_take (i := 3) (oi := { dst := some 161, op := Op.load 28 (Operand.tmp 160), type := 28, pos := "law.go:88", after := #[{ on := 2, ground := Ground.data }], guard := none }) (v := .slice a n cp) rfl (by kernel_rfl) (by kernel_rfl) (by kernel_rfl) (fun _ _ _ h => h.elim) (Or.inl ⟨by rfl, ?y3⟩) hS0.out ?_
  case y3 =>
    intro V hV
    have hc : V.cell? ⟨d7, 1, none⟩ = some (.slice a n cp) := ((show Below A.heap.size A V from hV).cell (p := ⟨d7, 1, none⟩) HL.out.1).trans c1
    go_simp
  simp only [Act.put, List.setIfInBounds_toArray, List.set_cons_zero, List.set_cons_succ]
  refine wpAnyH_take (i := 4) (oi := { dst := some 162, op := Op.call { callee := Callee.builtin Builtin.len, args := #[Operand.tmp 161], argTypes := #[28] }, type := 3, pos := "law.go:88", after := #[{ on := 3, ground := Ground.data }], guard := none }) (v := iv (n : Int)) rfl (by kernel_rfl) (by kernel_rfl) (by kernel_rfl) (fun _ _ _ h => h.elim) (Or.inl ⟨by rfl, ?y4⟩) hS0.out ?_
  case y4 =>
    intro V hV
    go_simp
  simp only [Act.put, List.setIfInBounds_toArray, List.set_cons_zero, List.set_cons_succ]
  refine wpAnyH_ready (rs := [1]) (by kernel_rfl) (by simp) (AllReadyH.cons (i := 1) (o := { dst := some 159, op := Op.call { callee := Callee.value (Operand.func 18), args := #[Operand.tmp 158], argTypes := #[26] }, type := 3, pos := "law.go:88", after := #[{ on := 0, ground := Ground.data }], guard := none }) rfl ?_ AllReadyH.nil)
  · intro K1 hK1
    rw [if_pos (by rfl)]
    have HC1 := H18.out V0 hS0.out
    go_wp2_with fail
    refine HC1.mono ?_
    rintro e V1 ⟨rfl, rfl⟩
    dsimp only
    clear HC1
    refine hK1.out _ _ hS0.out ?_
    clear hK1
    intro _
    try simp only [Act.put, List.setIfInBounds_toArray, List.set_cons_zero, List.set_cons_succ]
    refine wpAnyH_take (i := 5) (oi := { dst := some 163, op := Op.binOp BinOp.neq 3 (Operand.tmp 159) (Operand.tmp 162) 3, type := 4, pos := "law.go:88", after := #[{ on := 1, ground := Ground.data }, { on := 4, ground := Ground.data }], guard := none }) (v := .bool false) rfl (by kernel_rfl) (by kernel_rfl) (by kernel_rfl) (fun _ _ _ h => h.elim) (Or.inl ⟨by rfl, ?y5⟩) hS0.out ?_
    case y5 =>
      intro V hV
      go_simp
    simp only [Act.put, List.setIfInBounds_toArray, List.set_cons_zero, List.set_cons_succ]
    refine wpAnyH_done (by kernel_rfl) ?_ _
    exact hQ V0 hS0.out
end Go.Proofs.YtjeahlfmapacfaaDoor.Oct
